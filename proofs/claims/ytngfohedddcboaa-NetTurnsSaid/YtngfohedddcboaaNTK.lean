/-
  Net: the walk of NetTurns.
-/
import Derived.Test.YtngfohedddcboaaNTJ
namespace Go.Proofs.Ytngfohedddcboaa
open Go.RowKit Go Go.Sort Go.Lib Go.Maps
set_option linter.unusedVariables false
set_option maxRecDepth 20000

theorem umodN2 (z M : Int) (h0 : 0 < M) (h1 : M ≤ 4611686018427387904) : ∃ q : Int, wrap64 ((IntKind.u64.wrap z).tmod M) = q ∧ 0 ≤ q ∧ q < M := by
  have e : IntKind.u64.wrap z = z % 18446744073709551616 := by simp [IntKind.wrap, IntKind.signed, IntKind.bits]
  rw [e]
  have h2 : 0 ≤ z % 18446744073709551616 := Int.emod_nonneg _ (by decide)
  rw [Int.tmod_eq_emod_of_nonneg h2]
  have h3 := Int.emod_nonneg (z % 18446744073709551616) (show M ≠ 0 by omega)
  have h4 := Int.emod_lt_of_pos (z % 18446744073709551616) h0
  refine ⟨_, rfl, ?_⟩
  unfold wrap64
  omega
def tn (p : List UInt8) (l : List UInt8) : Nt := ⟨3, [⟨2, p⟩, ⟨2, l⟩], 1, 0, 0, 1⟩
theorem tn_send {l : List UInt8} (h : l.length ≤ 5000) : (Nt.new 3).send 2 l = (0, ⟨3, [⟨2, l⟩], 1, 0, 0, 0⟩) := by
  unfold Nt.send
  rw [if_neg (by decide), if_neg (by omega), if_neg (by simp [Nt.new])]
  rfl
theorem tn_twice (l : List UInt8) : (⟨3, [⟨2, l⟩], 1, 0, 0, 0⟩ : Nt).twice 0 = (0, tn l l) := by
  unfold Nt.twice
  rw [if_neg (not_not_intro ⟨by decide, by simp⟩), if_neg (by simp)]
  rfl
theorem tn_bad (a z : Int) : (tn [] []).turn 0 a z = (2, tn [] []) := by
  unfold Nt.turn
  rw [if_neg (not_not_intro ⟨by decide, by simp [tn]⟩), if_pos (by simp [Nt.get, tn]; omega)]
theorem tn_turn (p l : List UInt8) (k : Nat) (z : Int) (hk : k < p.length) : (tn p l).turn 0 (k : Int) z = (0, tn (p.set k (xorB (p.getD k 0) z)) l) := by
  unfold Nt.turn
  rw [if_neg (not_not_intro ⟨by decide, by simp [tn]⟩), if_neg (by simp [Nt.get, tn]; omega)]
  simp [tn, Nt.get, Pk.turned]
theorem tn_look0 (p l : List UInt8) : (tn p l).look 0 = (⟨2, p⟩, 0) := by
  unfold Nt.look
  rw [if_pos ⟨by decide, by simp [tn]⟩]
  rfl
theorem tn_look1 (p l : List UInt8) : (tn p l).look 1 = (⟨2, l⟩, 0) := by
  unfold Nt.look
  rw [if_pos ⟨by decide, by simp [tn]⟩]
  rfl
theorem tn_back (l : List UInt8) (k : Nat) (z : Int) (hk : k < l.length) (h0 : 0 ≤ z) (h1 : z ≤ 255) : (l.set k (xorB (l.getD k 0) z)).set k (xorB ((l.set k (xorB (l.getD k 0) z)).getD k 0) z) = l := by
  rw [List.set_set]
  have e : (l.set k (xorB (l.getD k 0) z)).getD k 0 = xorB (l.getD k 0) z := by
    rw [List.getD_eq_getElem?_getD, List.getElem?_set_self hk]; rfl
  rw [e, xorB_self _ _ h0 h1]
  apply List.ext_getElem?
  intro i
  by_cases hi : k = i
  · subst hi
    rw [List.getElem?_set_self hk, List.getD_eq_getElem?_getD, List.getElem?_eq_getElem hk]
    rfl
  · rw [List.getElem?_set_ne hi]
theorem by8_set (l : List UInt8) (k i : Nat) (z : Int) (hk : k < l.length) (h0 : 0 ≤ z) (h1 : z ≤ 255) : by8 (l.set k (xorB (l.getD k 0) z)) i = if i = k then bits .xor .u8 (by8 l i) z else by8 l i := by
  split
  · rename_i h
    subst h
    unfold by8
    rw [xorB_int _ _ h0 h1, List.getD_eq_getElem?_getD, List.getElem?_set_self hk]
    rfl
  · rename_i h
    unfold by8
    rw [List.getD_eq_getElem?_getD, List.getElem?_set_ne (Ne.symm h), ← List.getD_eq_getElem?_getD]
theorem run_index_text (W : World) (l : List UInt8) (i : Nat) (hi : i < l.length) : (Instr.index 9 (.string (text l)) (.int .i64 (i : Int))).run Try.prog W = .ok (.int .u8 (by8 l i)) W := by
  rw [run_index_string W 9 (text l) .i64 (i : Int) Try.underlying9]
  have hsz := text_sizeN l
  rw [dif_pos ⟨by omega, by rw [hsz]; omega⟩]
  congr 2
  unfold by8
  rw [List.getD_eq_getElem?_getD, List.getElem?_eq_getElem hi]
  rfl
theorem tn_ok {l : List UInt8} (h : l.length ≤ 5000) {p : List UInt8} (hp : p.length ≤ 5000) : (tn p l).Ok 2 := by
  refine ⟨by simp [tn], by simp [tn], by simp [tn], by simp [tn], by simp [tn], by simp [tn], by simp [tn], fun x hx => ?_⟩
  simp only [tn, List.mem_cons, List.not_mem_nil, or_false] at hx
  rcases hx with rfl | rfl <;> simp only <;> omega
theorem tn_ok1 {l : List UInt8} (h : l.length ≤ 5000) : (⟨3, [⟨2, l⟩], 1, 0, 0, 0⟩ : Nt).Ok 1 := by
  refine ⟨by simp, by simp, by simp, by simp, by simp, by simp, by simp, fun x hx => ?_⟩
  simp only [List.mem_cons, List.not_mem_nil, or_false] at hx
  subst hx
  simp only
  omega
set_option maxRecDepth 100000 in
set_option maxHeartbeats 12800000 in
theorem nturns_walk {w : World} {a : Option Addr} {n cap : Nat} {l : List UInt8} (hb : Bys w a n cap l) (at9 z : Int) (hz : 0 ≤ z ∧ z ≤ 255) : Calls Try.prog 6 #[.slice a n cap, .int .i64 at9, .int .u8 z] w (Tells (.bool true) w) := by
  have hln := hb.len
  have HY := Lib.hid hb
  have HLV := Lib.hid (fun W => nlives_c W)
  have HN := Lib.hid (fun W => nnew_c 3 W (by omega) (by omega))
  have HOK0 := Lib.hid (nt_new_ok (k := 3) (by omega) (by omega))
  have HZ := Lib.hid hz
  have hle := hb.le
  have hmx := hb.max
  clear hb hz
  by_cases hlong : 5000 < n
  · have hli : (5000 : Int) < (n : Int) := by omega
    go_enter Try.func6, Try.ntmps6
    go_wp2_with (first
      | (go_at_call 8; (with_reducible refine (HN.out _).mono ?_); rintro e1 w1 ⟨g, rfl, F1, hd1, hf1, hb1⟩; have HB1 := Lib.hid hb1; clear hd1 hf1 hb1)
      | (go_at_call 11; (with_reducible refine (HLV.out _).mono ?_); rintro e8 w8 ⟨rfl, hb8⟩))
    go_ret
    exact ⟨rfl, HB1.out.trans (hb8.mono HB1.out.size)⟩
  · have hli : ¬ (5000 : Int) < (n : Int) := by omega
    have hl5 : l.length ≤ 5000 := by omega
    have HL5 := Lib.hid hl5
    have HS := Lib.hid (fun (W : World) (g : Nat) (F : Nat → Prop) (hn : Nk W 56 g (Nt.new 3) F) (hW : Below w.heap.size w W) => (show Calls Try.prog 16 #[.pointer (some ⟨g, 0, none⟩), .int .i64 2, .slice a n cap] W (NPost 56 g F (.int .i64 0) ⟨3, [⟨2, l⟩], 1, 0, 0, 0⟩ W) from by
      have := nsend_c hn HOK0.out (by decide) 2 (HY.out.below hW)
      rw [tn_send HL5.out] at this
      exact this))
    have HT := Lib.hid (fun (W : World) (g : Nat) (F : Nat → Prop) (hn : Nk W 56 g ⟨3, [⟨2, l⟩], 1, 0, 0, 0⟩ F) => (show Calls Try.prog 18 #[.pointer (some ⟨g, 0, none⟩), .int .i64 0] W (NPost 56 g F (.int .i64 0) (tn l l) W) from by
      have := ntwice_c hn (tn_ok1 HL5.out) (by decide) 0
      rw [tn_twice] at this
      exact this))
    have HLN := Lib.hid hln
    clear hln hl5 hlong
    have H0 : True := trivial
    by_cases hz0 : n = 0
    · subst hz0
      have hlnil : l = [] := List.eq_nil_of_length_eq_zero HLN.out
      have HU := Lib.hid (fun (W : World) (g : Nat) (F : Nat → Prop) (hn : Nk W 56 g (tn l l) F) => (show Calls Try.prog 19 #[.pointer (some ⟨g, 0, none⟩), .int .i64 0, .int .i64 at9, .int .u8 z] W (NPost 56 g F (.int .i64 2) (tn l l) W) from by
        have := nturn_c hn (tn_ok HL5.out HL5.out) 0 at9 z HZ.out.1 HZ.out.2
        rw [hlnil] at this ⊢
        rw [tn_bad] at this
        exact this))
      clear hlnil
      go_enter Try.func6, Try.ntmps6
      go_wp2_with (first
        | (go_at_call 8; (with_reducible refine (HN.out _).mono ?_); rintro e1 w1 ⟨g, rfl, F1, hd1, hf1, hb1⟩; have HN1 := Lib.hid hd1; have HF1 := Lib.hid hf1; have HB1 := Lib.hid hb1; clear hd1 hf1 hb1)
        | (go_at_call 16; (with_reducible refine (HS.out _ _ _ HN1.out HB1.out).mono ?_); rintro e2 w2 ⟨rfl, F2, hn2, ht2, hf2⟩; have HN2 := Lib.hid hn2; have HF2 := Lib.hid (show ∀ k, F2 k → w.heap.size ≤ k from fun k hk => (hf2 k hk).elim (HF1.out k) (fun h => Nat.le_trans HB1.out.size h)); have HB2 := Lib.hid (HB1.out.trans (ht2.base HB1.out.size HF1.out)); clear hn2 ht2 hf2)
        | (go_at_call 18; (with_reducible refine (HT.out _ _ _ HN2.out).mono ?_); rintro e3 w3 ⟨rfl, F3, hn3, ht3, hf3⟩; have HN3 := Lib.hid hn3; have HF3 := Lib.hid (show ∀ k, F3 k → w.heap.size ≤ k from fun k hk => (hf3 k hk).elim (HF2.out k) (fun h => Nat.le_trans HB2.out.size h)); have HB3 := Lib.hid (HB2.out.trans (ht3.base HB2.out.size HF2.out)); clear hn3 ht3 hf3)
        | (go_at_call 19; (with_reducible refine (HU.out _ _ _ HN3.out).mono ?_); rintro e4 w4 ⟨rfl, F4, hn4, ht4, hf4⟩; have HB4 := Lib.hid (HB3.out.trans (ht4.base HB3.out.size HF3.out)); clear hn4 ht4 hf4)
        | (go_at_call 11; (with_reducible refine (HLV.out _).mono ?_); rintro e8 w8 ⟨rfl, hb8⟩))
      go_ret
      exact ⟨rfl, HB4.out.trans (hb8.mono HB4.out.size)⟩
    · have hz1 : ((n : Int) == 0) = false := by simp; omega
      have hn0 : (n : Int) ≠ 0 := by omega
      have hwu : IntKind.u64.wrap (n : Int) = (n : Int) := by
        have e : IntKind.u64.wrap (n : Int) = (n : Int) % 18446744073709551616 := by simp [IntKind.wrap, IntKind.signed, IntKind.bits]
        rw [e]; omega
      obtain ⟨k9, hk, hk0, hk1⟩ := umodN2 at9 (n : Int) (by omega) (by omega)
      obtain ⟨k, rfl⟩ := Int.eq_ofNat_of_zero_le hk0
      have hkn : k < l.length := by rw [HLN.out]; omega
      obtain ⟨p, hp⟩ : ∃ y, l.set k (xorB (l.getD k 0) z) = y := ⟨_, rfl⟩
      have HP5 := Lib.hid (show p.length ≤ 5000 from by rw [← hp, List.length_set]; exact HL5.out)
      have HPL := Lib.hid (show p.length = n from by rw [← hp, List.length_set]; exact HLN.out)
      have HBY := Lib.hid (show ∀ i, by8 p i = if i = k then bits .xor .u8 (by8 l i) z else by8 l i from fun i => by rw [← hp]; exact by8_set l k i z hkn HZ.out.1 HZ.out.2)
      have HU := Lib.hid (fun (W : World) (g : Nat) (F : Nat → Prop) (hn : Nk W 56 g (tn l l) F) => (show Calls Try.prog 19 #[.pointer (some ⟨g, 0, none⟩), .int .i64 0, .int .i64 (k : Int), .int .u8 z] W (NPost 56 g F (.int .i64 0) (tn p l) W) from by
        have := nturn_c hn (tn_ok HL5.out HL5.out) 0 (k : Int) z HZ.out.1 HZ.out.2
        rw [tn_turn l l k z hkn, hp] at this
        exact this))
      have HV := Lib.hid (fun (W : World) (g : Nat) (F : Nat → Prop) (hn : Nk W 56 g (tn p l) F) => (show Calls Try.prog 19 #[.pointer (some ⟨g, 0, none⟩), .int .i64 0, .int .i64 (k : Int), .int .u8 z] W (NPost 56 g F (.int .i64 0) (tn l l) W) from by
        have := nturn_c hn (tn_ok HL5.out HP5.out) 0 (k : Int) z HZ.out.1 HZ.out.2
        have hb2 := tn_back l k z hkn HZ.out.1 HZ.out.2
        rw [hp] at hb2
        rw [tn_turn p l k z (by rw [HPL.out]; omega), hb2] at this
        exact this))
      obtain ⟨tp, htp⟩ : ∃ y, text p = y := ⟨_, rfl⟩
      obtain ⟨tl, htl⟩ : ∃ y, text l = y := ⟨_, rfl⟩
      have HTP := Lib.hid htp
      have HTL := Lib.hid htl
      have HK0 := Lib.hid (fun (W : World) (g : Nat) (F : Nat → Prop) (hn : Nk W 56 g (tn p l) F) => (show Calls Try.prog 20 #[.pointer (some ⟨g, 0, none⟩), .int .i64 0] W (fun e W' => e = .returned (.tuple #[.agg #[.int .i64 2, .string tp], .int .i64 0]) ∧ Below W.heap.size W W') from by
        have := nlook_c hn (show (1 : Int) ≤ 3 by decide) 0
        unfold LkPost at this
        rw [tn_look0] at this
        rw [← HTP.out]
        exact this))
      have HK1 := Lib.hid (fun (W : World) (g : Nat) (F : Nat → Prop) (hn : Nk W 56 g (tn p l) F) => (show Calls Try.prog 20 #[.pointer (some ⟨g, 0, none⟩), .int .i64 1] W (fun e W' => e = .returned (.tuple #[.agg #[.int .i64 2, .string tl], .int .i64 0]) ∧ Below W.heap.size W W') from by
        have := nlook_c hn (show (1 : Int) ≤ 3 by decide) 1
        unfold LkPost at this
        rw [tn_look1] at this
        rw [← HTL.out]
        exact this))
      have HK2 := Lib.hid (fun (W : World) (g : Nat) (F : Nat → Prop) (hn : Nk W 56 g (tn l l) F) => (show Calls Try.prog 20 #[.pointer (some ⟨g, 0, none⟩), .int .i64 0] W (fun e W' => e = .returned (.tuple #[.agg #[.int .i64 2, .string tl], .int .i64 0]) ∧ Below W.heap.size W W') from by
        have := nlook_c hn (show (1 : Int) ≤ 3 by decide) 0
        unfold LkPost at this
        rw [tn_look0] at this
        rw [← HTL.out]
        exact this))
      have HIX := Lib.hid (fun (W : World) (i : Nat) (hi : i < n) => (show (Instr.index 9 (.string tp) (.int .i64 (i : Int))).run Try.prog W = .ok (.int .u8 (by8 p i)) W from by rw [← HTP.out]; exact run_index_text W p i (by rw [HPL.out]; exact hi)))
      have hsz : ((tp.size : Nat) : Int) = (n : Int) := by rw [← htp, text_sizeN, HPL.out]
      have HKN := Lib.hid (show k < n from by omega)
      clear hp htp htl hkn hk0 hk1
      go_enter Try.func6, Try.ntmps6
      go_upto_region 11 with (first
        | (go_at_call 8; (with_reducible refine (HN.out _).mono ?_); rintro e1 w1 ⟨g, rfl, F1, hd1, hf1, hb1⟩; have HN1 := Lib.hid hd1; have HF1 := Lib.hid hf1; have HB1 := Lib.hid hb1; clear hd1 hf1 hb1)
        | (go_at_call 16; (with_reducible refine (HS.out _ _ _ HN1.out HB1.out).mono ?_); rintro e2 w2 ⟨rfl, F2, hn2, ht2, hf2⟩; have HN2 := Lib.hid hn2; have HF2 := Lib.hid (show ∀ k, F2 k → w.heap.size ≤ k from fun k hk => (hf2 k hk).elim (HF1.out k) (fun h => Nat.le_trans HB1.out.size h)); have HB2 := Lib.hid (HB1.out.trans (ht2.base HB1.out.size HF1.out)); clear hn2 ht2 hf2)
        | (go_at_call 18; (with_reducible refine (HT.out _ _ _ HN2.out).mono ?_); rintro e3 w3 ⟨rfl, F3, hn3, ht3, hf3⟩; have HN3 := Lib.hid hn3; have HF3 := Lib.hid (show ∀ k, F3 k → w.heap.size ≤ k from fun k hk => (hf3 k hk).elim (HF2.out k) (fun h => Nat.le_trans HB2.out.size h)); have HB3 := Lib.hid (HB2.out.trans (ht3.base HB2.out.size HF2.out)); clear hn3 ht3 hf3)
        | (go_at_call 19; (with_reducible refine (HU.out _ _ _ HN3.out).mono ?_); rintro e4 w4 ⟨rfl, F4, hn4, ht4, hf4⟩; have HN4 := Lib.hid hn4; have HF4 := Lib.hid (show ∀ k, F4 k → w.heap.size ≤ k from fun k hk => (hf4 k hk).elim (HF3.out k) (fun h => Nat.le_trans HB3.out.size h)); have HB4 := Lib.hid (HB3.out.trans (ht4.base HB3.out.size HF3.out)); clear hn4 ht4 hf4))
      clear hk hwu
      go_upto_region 12 with (go_at_call 20; (with_reducible refine (HK0.out _ _ _ HN4.out).mono ?_); rintro e5 w5 ⟨rfl, hb5⟩; have HB5 := Lib.hid hb5; clear hb5)
      have hal5 := alloc_below w5 (.cells #[.int .i64 2, .string tp] 43)
      have HB6 := Lib.hid (HB5.out.trans (hal5.mono HB5.out.size))
      have HP6 := Lib.hid (heap_alloc_new w5 (.cells #[.int .i64 2, .string tp] 43))
      obtain ⟨P1, hP1⟩ : ∃ y, w5.heap.size = y := ⟨_, rfl⟩
      have HG1 := Lib.hid (show w4.heap.size ≤ P1 from by rw [← hP1]; exact HB5.out.size)
      rw [hP1] at HP6 ⊢
      clear hal5 hP1
      generalize w5.alloc (.cells #[.int .i64 2, .string tp] 43) = w6 at *
      go_upto_region 13 with (go_at_call 20; (with_reducible refine (HK1.out _ _ _ (HN4.out.below HB6.out)).mono ?_); rintro e7 w7 ⟨rfl, hb7⟩; have HB7 := Lib.hid hb7; clear hb7)
      have hal7 := alloc_below w7 (.cells #[.int .i64 2, .string tl] 43)
      have hb78 := HB7.out.trans (hal7.mono HB7.out.size)
      have HB8 := Lib.hid (HB6.out.trans (hb78.mono HB6.out.size))
      have HP8 := Lib.hid ((hb78.block P1 (Array.getElem?_eq_some_iff.1 HP6.out).1).trans HP6.out)
      have HQ8 := Lib.hid (heap_alloc_new w7 (.cells #[.int .i64 2, .string tl] 43))
      obtain ⟨P2, hP2⟩ : ∃ y, w7.heap.size = y := ⟨_, rfl⟩
      have HG2 := Lib.hid (show w4.heap.size ≤ P2 ∧ P1 < P2 from by
        have h1 := (HB6.out.trans (HB7.out.mono HB6.out.size)).size
        have h2 := (Array.getElem?_eq_some_iff.1 HP6.out).1
        have h3 := HB7.out.size
        omega)
      rw [hP2] at HQ8 ⊢
      clear hal7 hb78 hP2
      generalize w7.alloc (.cells #[.int .i64 2, .string tl] 43) = w8 at *
      have HW8 := Lib.hid (HB4.out.trans (HB8.out.mono HB4.out.size))
      have HN8 := Lib.hid (HN4.out.below HB8.out)
      have HY8 := Lib.hid (HY.out.below HW8.out)
      have d1 : w8.cell? ⟨P1, 1, none⟩ = some (.string tp) := by rw [cell_of_row w8 P1 1 _ _ (0, 0) HP8.out]; rfl
      have e1 : w8.cell? ⟨P2, 1, none⟩ = some (.string tl) := by rw [cell_of_row w8 P2 1 _ _ (0, 0) HQ8.out]; rfl
      go_wp2
      go_loopw [72] (fun i wr => ∃ j : Nat, j ≤ n ∧ i = .int .i64 (j : Int) ∧ wr = w8) (fun i _ => n - (RowKit.intOf i).toNat)
      case atStart => exact ⟨0, by omega, rfl, rfl⟩
      case round =>
        obtain ⟨j, hj, rfl, rfl⟩ := hrel
        by_cases hlt : j < n
        · have hji : (j : Int) < (n : Int) := by omega
          have hjc : (j : Int) < (cap : Int) := by omega
          obtain ⟨b, off, rfl, hdat⟩ : ∃ b off, a = some ⟨b, off, none⟩ ∧ wr.cell? ⟨b, off + j, none⟩ = some (.int .u8 (by8 l j)) := by
            rcases HY8.out.adr with h9 | ⟨b, off, e, hc⟩
            · omega
            · exact ⟨b, off, e, hc j hlt⟩
          have hge : ¬ (n : Int) ≤ (j : Int) := by omega
          have hix := HIX.out wr j hlt
          rw [HBY.out j] at hix
          have HJ := Lib.hid hlt
          obtain ⟨x8, hx8⟩ : ∃ y, by8 l j = y := ⟨_, rfl⟩
          rw [hx8] at hdat hix
          clear hx8 hlt
          by_cases hjk : j = k
          · subst hjk
            rw [if_pos rfl] at hix
            have hjj : ((j : Int) == (j : Int)) = true := by simp
            obtain ⟨y8, hy8⟩ : ∃ y, bits .xor .u8 x8 z = y := ⟨_, rfl⟩
            rw [hy8] at hix
            have hne : (y8 != y8) = false := by simp
            go_wp2
            go_roundw
            case rel => exact ⟨j + 1, HJ.out, by go_num, by first | rfl | trivial⟩
            case measure => simp [RowKit.intOf]; have := HJ.out; omega
          · rw [if_neg hjk] at hix
            have hjj : ((j : Int) == (k : Int)) = false := by simp; omega
            have hne : (x8 != x8) = false := by simp
            clear hjk
            go_wp2
            go_roundw
            case rel => exact ⟨j + 1, HJ.out, by go_num, by first | rfl | trivial⟩
            case measure => simp [RowKit.intOf]; have := HJ.out; omega
        · obtain rfl : j = n := by omega
          have hcv : (convert 29 9 (.slice a j cap)).run Try.prog wr = .ok (.string tl) wr := by rw [← HTL.out]; exact conv_bys HY8.out Try.underlying29 Try.underlying5 Try.underlying9
          have hss : (!(tl.toList == tl.toList)) = false := by simp
          have hs2 : (tl.toList == tl.toList) = true := by simp
          go_upto_region 24 with (go_at_call 19; (with_reducible refine (HV.out _ _ _ HN8.out).mono ?_); rintro e9 w9 ⟨rfl, F9, hn9, ht9, hf9⟩; have HN9 := Lib.hid hn9; have HT9 := Lib.hid ht9; clear hn9 ht9 hf9)
          have hnf : ∀ q, w4.heap.size ≤ q → ¬ F4 q := fun q hq hf => by have := HN4.out.lt hf; omega
          have HP9 := Lib.hid (HT9.out.heap HP8.out (hnf _ HG1.out))
          have HQ9 := Lib.hid (HT9.out.heap HQ8.out (hnf _ HG2.out.1))
          have HW9 := Lib.hid (HW8.out.trans (HT9.out.base HW8.out.size HF4.out))
          clear d1 e1 hcv hnf hss
          go_upto_region 25 with (go_at_call 20; (with_reducible refine (HK2.out _ _ _ HN9.out).mono ?_); rintro eA wA ⟨rfl, hbA⟩; have HBA := Lib.hid hbA; clear hbA; have hpA := (HBA.out.block P1 (Array.getElem?_eq_some_iff.1 HP9.out).1).trans HP9.out; have x0 : wA.cell? ⟨P1, 0, none⟩ = some (.int .i64 2) := (by rw [cell_of_row wA P1 0 _ _ (0, 0) hpA]; rfl); have x1 : wA.cell? ⟨P1, 1, none⟩ = some (.string tp) := (by rw [cell_of_row wA P1 1 _ _ (0, 0) hpA]; rfl); have f0 := frozen_of_row wA P1 0 _ _ hpA; have f1 := frozen_of_row wA P1 1 _ _ hpA; have HPA := Lib.hid hpA; clear hpA)
          have HQA := Lib.hid ((HBA.out.block P2 (Array.getElem?_eq_some_iff.1 HQ9.out).1).trans HQ9.out)
          have hpB : ((wA.setCell ⟨P1, 0, none⟩ (.int .i64 2)).setCell ⟨P1, 1, none⟩ (.string tl)).heap[P1]? = some (.cells #[.int .i64 2, .string tl] 43 (0, 0)) := by
            rw [heap_setCell_same _ P1 1 _ _ _ (heap_setCell_same wA P1 0 _ _ _ HPA.out)]
            rfl
          have hqB : ((wA.setCell ⟨P1, 0, none⟩ (.int .i64 2)).setCell ⟨P1, 1, none⟩ (.string tl)).heap[P2]? = some (.cells #[.int .i64 2, .string tl] 43 (0, 0)) := by
            rw [heap_setCell_other _ _ _ _ (Nat.ne_of_gt HG2.out.2), heap_setCell_other _ _ _ _ (Nat.ne_of_gt HG2.out.2)]
            exact HQA.out
          have HBB := Lib.hid (show Below w.heap.size w ((wA.setCell ⟨P1, 0, none⟩ (.int .i64 2)).setCell ⟨P1, 1, none⟩ (.string tl)) from ((HW9.out.trans (HBA.out.mono HW9.out.size)).setCell (p := ⟨P1, 0, none⟩) (Nat.le_trans HB4.out.size HG1.out) _).setCell (p := ⟨P1, 1, none⟩) (Nat.le_trans HB4.out.size HG1.out) _)
          clear x0 x1 f0 f1
          generalize (wA.setCell ⟨P1, 0, none⟩ (.int .i64 2)).setCell ⟨P1, 1, none⟩ (.string tl) = wB at *
          have x0 : wB.cell? ⟨P1, 0, none⟩ = some (.int .i64 2) := by rw [cell_of_row wB P1 0 _ _ (0, 0) hpB]; rfl
          have x1 : wB.cell? ⟨P1, 1, none⟩ = some (.string tl) := by rw [cell_of_row wB P1 1 _ _ (0, 0) hpB]; rfl
          have y0 : wB.cell? ⟨P2, 0, none⟩ = some (.int .i64 2) := by rw [cell_of_row wB P2 0 _ _ (0, 0) hqB]; rfl
          have y1 : wB.cell? ⟨P2, 1, none⟩ = some (.string tl) := by rw [cell_of_row wB P2 1 _ _ (0, 0) hqB]; rfl
          clear hpB hqB
          go_wp2_with (go_at_call 11; (with_reducible refine (HLV.out _).mono ?_); rintro eC wC ⟨rfl, hbC⟩)
          go_ret
          exact ⟨by first | rfl | simp, HBB.out.trans (hbC.mono HBB.out.size)⟩
end Go.Proofs.Ytngfohedddcboaa
