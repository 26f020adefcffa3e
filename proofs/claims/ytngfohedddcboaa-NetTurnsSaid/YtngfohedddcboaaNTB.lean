/-
  Net: the reference: Turn; the program's Counts.
-/
import Derived.Test.YtngfohedddcboaaNTA
namespace Go.Proofs.Ytngfohedddcboaa
open Go.RowKit Go Go.Sort Go.Lib Go.Maps
set_option linter.unusedVariables false
set_option maxRecDepth 20000

/-- One packet of a list is another, both its cells stored. -/
theorem NtIn.repack2 {W W3 : World} {ty : TypeId} {g b cap : Nat} {q : Nt} (h : NtIn W ty g (.slice (some ⟨b, 0, none⟩) q.l.length cap) q) {i : Nat} (hi : i < q.l.length) (x : Pk) (hb : ∀ k, nfoot g (.slice (some ⟨b, 0, none⟩) q.l.length cap) k → W3.heap[k]? = W.heap[k]?) : NtIn ((W3.setCell ⟨b, i * 2, none⟩ (.int .i64 x.frm)).setCell ⟨b, i * 2 + 1, none⟩ (.string (text x.s))) ty g (.slice (some ⟨b, 0, none⟩) q.l.length cap) { q with l := q.l.set i x } := by
  have h3 := h.keep hb
  refine ⟨h.ne, ?_, ?_⟩
  · exact (heap_setCell_other _ ⟨b, i * 2 + 1, none⟩ g _ (Ne.symm (h.off rfl))).trans ((heap_setCell_other W3 ⟨b, i * 2, none⟩ g _ (Ne.symm (h.off rfl))).trans h3.head)
  · have h1 := OwnL.storeN (z := Pk.zero) pk_size h3.list hi (j := 0) (by decide) (.int .i64 x.frm) ⟨x.frm, (q.l.getD i Pk.zero).s⟩ (by simp [Pk.arr])
    have h2 := OwnL.storeN (z := Pk.zero) pk_size h1 (i := i) (by simpa using hi) (j := 1) (by decide) (.string (text x.s)) x (by
      rw [List.getD_eq_getElem?_getD, List.getElem?_set_self hi]
      simp [Pk.arr])
    rw [List.set_set] at h2
    exact h2
def TurnR2 (w : World) (b o : Nat) (x y : Value) : Nat → World → Prop
  | 0, W => SameN w W
  | _, W => ∃ W3, SameN w W3 ∧ W = (W3.setCell ⟨b, o, none⟩ x).setCell ⟨b, o + 1, none⟩ y
theorem TurnR2.any {w W : World} {b o : Nat} {x y : Value} {k : Nat} (h : TurnR2 w b o x y k W) : TrN (fun j => j = b) w W := by
  cases k with
  | zero => exact TrN.of (SameN.below h)
  | succ k =>
    obtain ⟨W3, hs, rfl⟩ := h
    exact ((TrN.of (F := fun j => j = b) hs.below).set (p := ⟨b, o, none⟩) (.inl rfl)).set (p := ⟨b, o + 1, none⟩) (.inl rfl)
set_option maxRecDepth 100000 in
set_option maxHeartbeats 6400000 in
theorem rnturn_c {w : World} {g nn : Nat} {q : Nt} {F : Nat → Prop} (hk : Nk w 60 g q F) (ho : q.Ok nn) (i9 a9 z : Int) (hz0 : 0 ≤ z) (hz1 : z ≤ 255) : Calls Try.prog 27 #[.pointer (some ⟨g, 0, none⟩), .int .i64 i9, .int .i64 a9, .int .u8 z] w (NPost 60 g F (.int .i64 (q.turn i9 a9 z).1) (q.turn i9 a9 z).2 w) := by
  have HLK := Lib.hid (rnlook_c hk i9)
  have HK := Lib.hid hk
  have hgl := Nt.get_len ho i9
  have H64 := Lib.hid (show q.l.length ≤ 64 from by have := ho.len; have := ho.m1; omega)
  have hm1 := ho.m1
  have hml := ho.len
  obtain ⟨v, h, rfl⟩ := hk
  unfold LkPost at HLK
  by_cases hi : q.has i9
  · have he : q.look i9 = (q.get i9, 0) := by unfold Nt.look; rw [if_pos hi]
    rw [he] at HLK
    obtain ⟨b, cap, hv, hle, hcm, hbg, hbt, -⟩ := h.pk hi
    obtain ⟨i, rfl⟩ := Int.eq_ofNat_of_zero_le hi.1
    have hlt : i < q.l.length := by have := hi.2; omega
    have hgd : q.get (i : Int) = q.l.getD i Pk.zero := rfl
    unfold Nt.turn
    rw [if_neg (not_not_intro hi), Int.toNat_natCast]
    obtain ⟨p9, hp9⟩ : ∃ z, q.get (i : Int) = z := ⟨_, rfl⟩
    rw [hp9] at HLK hgl ⊢
    have HGP := Lib.hid hp9
    have HFR := Lib.hid (show ∀ a : Int, (p9.turned a z).frm = (q.l.getD i Pk.zero).frm from fun a => by rw [← hgd, hp9]; rfl)
    obtain ⟨pf, hpf⟩ : ∃ z, p9.frm = z := ⟨_, rfl⟩
    have HPFE := Lib.hid hpf
    obtain ⟨tp, htp⟩ : ∃ z, text p9.s = z := ⟨_, rfl⟩
    have HPA := Lib.hid (show p9.arr = #[.int .i64 pf, .string tp] from by simp only [Pk.arr, hpf, htp])
    have HTX := Lib.hid (show (Value.int .i64 p9.frm = .int .i64 pf) ∧ (Value.string (text p9.s) = .string tp) from by rw [← hpf, ← htp]; exact ⟨rfl, rfl⟩)
    have HTP := Lib.hid htp
    have hsz := text_sizeN p9.s
    simp only [HPA.out] at HLK
    obtain ⟨n, hn⟩ : ∃ z, q.l.length = z := ⟨_, rfl⟩
    have HLN := Lib.hid hn
    have HIL := Lib.hid hlt
    have HV := Lib.hid (show v = .slice (some ⟨b, 0, none⟩) n cap from by rw [hv, hn])
    have HVL := Lib.hid hv
    have HBG := Lib.hid hbg
    have hin : i < n := by omega
    have hnc : n ≤ cap := by omega
    obtain ⟨pl, hpl⟩ : ∃ z, p9.s.length = z := ⟨_, rfl⟩
    have HPL := Lib.hid hpl
    have HGL := Lib.hid hgl
    rw [hpl] at hsz ⊢
    rw [htp] at hsz
    have hszi : ((tp.size : Nat) : Int) = (pl : Int) := by rw [hsz]
    by_cases hbad : a9 < 0 ∨ ((pl : Nat) : Int) ≤ a9
    · rw [if_pos hbad]
      have HB0 := Lib.hid hbad
      clear hi he hv hp9 hpf htp hn hlt hgd hpl hgl hsz hle hm1 hml h hbg hbt
      by_cases h0 : a9 < 0
      · clear hbad
        go_enter Try.func27, Try.ntmps27
        go_upto_region 2 with (go_at_call 28; (with_reducible refine HLK.out.mono ?_); rintro e1 w1 ⟨rfl, hb1⟩; have HB1 := Lib.hid hb1; clear hb1)
        have HB2 := Lib.hid (HB1.out.trans ((alloc_below w1 (.cells #[.int .i64 pf, .string tp] 43)).mono HB1.out.size))
        have hp1 : PkB (w1.alloc (.cells #[.int .i64 pf, .string tp] 43)) w1.heap.size p9 := by unfold PkB; rw [HPA.out]; exact heap_alloc_new w1 _
        obtain ⟨B, hB⟩ : ∃ z, w1.heap.size = z := ⟨_, rfl⟩
        rw [hB] at hp1 ⊢
        have l0 := hp1.c0
        have l1 := hp1.c1
        rw [HTX.out.1] at l0
        rw [HTX.out.2] at l1
        clear hp1 hB
        generalize w1.alloc (.cells #[.int .i64 pf, .string tp] 43) = w2 at *
        go_wp2
        go_ret
        exact ⟨rfl, _, HK.out.below HB2.out, TrN.of HB2.out, fun k hf => .inl hf⟩
      · have h1 : (pl : Int) ≤ a9 := by omega
        clear hbad
        go_enter Try.func27, Try.ntmps27
        go_upto_region 2 with (go_at_call 28; (with_reducible refine HLK.out.mono ?_); rintro e1 w1 ⟨rfl, hb1⟩; have HB1 := Lib.hid hb1; clear hb1)
        have HB2 := Lib.hid (HB1.out.trans ((alloc_below w1 (.cells #[.int .i64 pf, .string tp] 43)).mono HB1.out.size))
        have hp1 : PkB (w1.alloc (.cells #[.int .i64 pf, .string tp] 43)) w1.heap.size p9 := by unfold PkB; rw [HPA.out]; exact heap_alloc_new w1 _
        obtain ⟨B, hB⟩ : ∃ z, w1.heap.size = z := ⟨_, rfl⟩
        rw [hB] at hp1 ⊢
        have l0 := hp1.c0
        have l1 := hp1.c1
        rw [HTX.out.1] at l0
        rw [HTX.out.2] at l1
        clear hp1 hB
        generalize w1.alloc (.cells #[.int .i64 pf, .string tp] 43) = w2 at *
        go_wp2
        go_ret
        exact ⟨rfl, _, HK.out.below HB2.out, TrN.of HB2.out, fun k hf => .inl hf⟩
    · rw [if_neg hbad]
      obtain ⟨at9, rfl⟩ := Int.eq_ofNat_of_zero_le (show 0 ≤ a9 by omega)
      have hal : at9 < pl := by omega
      have h0 : ¬ ((at9 : Nat) : Int) < 0 := by omega
      have h1 : ¬ (pl : Int) ≤ ((at9 : Nat) : Int) := by omega
      have HZ := Lib.hid (And.intro hz0 hz1)
      clear hi he hv hp9 hpf htp hn hlt hgd hpl hgl hsz hle hm1 hml hbad hbg hbt hz0 hz1
      have HH := Lib.hid h
      clear h
      go_enter Try.func27, Try.ntmps27
      go_upto_region 2 with (go_at_call 28; (with_reducible refine HLK.out.mono ?_); rintro e1 w1 ⟨rfl, hb1⟩; have HB1 := Lib.hid hb1; clear hb1)
      have HB2 := Lib.hid (HB1.out.trans ((alloc_below w1 (.cells #[.int .i64 pf, .string tp] 43)).mono HB1.out.size))
      have hp1 : PkB (w1.alloc (.cells #[.int .i64 pf, .string tp] 43)) w1.heap.size p9 := by unfold PkB; rw [HPA.out]; exact heap_alloc_new w1 _
      obtain ⟨B, hB⟩ : ∃ z, w1.heap.size = z := ⟨_, rfl⟩
      rw [hB] at hp1 ⊢
      have HP1x := Lib.hid hp1
      have HBE := Lib.hid hB
      have l0 := hp1.c0
      have l1 := hp1.c1
      rw [HTX.out.1] at l0
      rw [HTX.out.2] at l1
      clear hp1 hB
      generalize w1.alloc (.cells #[.int .i64 pf, .string tp] 43) = w2 at *
      go_upto_region 6 with (fail)
      have HN2 := Lib.hid (HH.out.below HB2.out)
      have HBG1 := Lib.hid (show g < B ∧ B < w2.heap.size from ⟨by have h1 := HBE.out; have h2 := HB1.out.size; have h3 := HH.out.lt (.inl rfl); omega, HP1x.out.lt⟩)
      obtain ⟨gc, Wb, htb⟩ := tbN w2 p9.s at9 (by rw [HPL.out]; exact hal) z HZ.out.1 HZ.out.2 HGL.out
      have HTB := Lib.hid htb
      have hrun := htb.run
      rw [HTP.out, HPL.out] at hrun
      have hgc1 := htb.le
      rw [HPL.out] at hgc1
      have hgc2 := htb.max
      obtain ⟨bb, hbb⟩ : ∃ z, w2.heap.size = z := ⟨_, rfl⟩
      have HBBE := Lib.hid hbb
      rw [hbb] at hrun
      have hcell := htb.cell
      have hfz := htb.fz
      rw [hbb] at hcell hfz
      obtain ⟨x8, hx8⟩ : ∃ z, by8 p9.s at9 = z := ⟨_, rfl⟩
      have HX8 := Lib.hid hx8
      rw [hx8] at hcell
      have hac : ((at9 : Nat) : Int) < (gc : Int) := by omega
      have hal2 : ((at9 : Nat) : Int) < (pl : Int) := by omega
      clear htb hbb hx8
      go_upto_region 8 with (fail)
      clear hrun hcell hfz l0 l1
      have hby := HTB.out.bys
      rw [HBBE.out, HX8.out, HPL.out] at hby
      have HBY := Lib.hid hby
      have hb78 : Below w2.heap.size w2 (Wb.setCell ⟨bb, at9, none⟩ (.int .u8 (bits .xor .u8 x8 z))) := HTB.out.bl.setCell (p := ⟨bb, at9, none⟩) (Nat.le_of_eq HBBE.out) _
      have HB8 := Lib.hid (HB2.out.trans (hb78.mono HB2.out.size))
      have HN8' := Lib.hid (HN2.out.below hb78)
      have HB78 := Lib.hid hb78
      have HBB8 := Lib.hid (show bb < (Wb.setCell ⟨bb, at9, none⟩ (.int .u8 (bits .xor .u8 x8 z))).heap.size from by rw [World.size_setCell, ← HBBE.out]; exact HTB.out.lt)
      clear hby hb78
      generalize Wb.setCell ⟨bb, at9, none⟩ (.int .u8 (bits .xor .u8 x8 z)) = w8 at *
      have HP8 := Lib.hid (HP1x.out.kept HB78.out)
      have HNA := Lib.hid (show NtIn (w8.alloc (.cells #[] 43)) 60 g (.slice (some ⟨b, 0, none⟩) n cap) q from by have := HN8'.out.below (alloc_below w8 (.cells #[] 43)); rw [HV.out] at this; exact this)
      have y1 := (HN8'.out.below (alloc_below w8 (.cells #[] 43))).cs.2.1
      rw [HV.out] at y1
      have yf := HN8'.out.fz 1
      have HN8' := HN8'
      go_upto_region 9 with (first
        | (refine wpList_append_cp (w8 := w8) (x := p9) rfl _ _ rfl (g := g) (v := .slice (some ⟨b, 0, none⟩) n cap) (q := q) rfl (empty_pks w8 _ (Nat.le_refl _)) (heap_alloc_new w8 _) rfl HNA.out H64.out (alloc_below w8 _) ?_; intro v5 w5 ho5 hb5 hk5; obtain ⟨va5, vc5, ev5, -⟩ := OwnL.ls (z := Pk.zero) pk_size ho5; rw [HLN.out] at ev5; subst ev5; have HO5 := Lib.hid ho5; have HB5 := Lib.hid hb5; have zf5 := (HN8'.out.below hb5).fz 1; have zc5 := (HN8'.out.below hb5).cs.2.1; rw [HV.out] at zc5; clear ho5 hb5 hk5))
      have hcp := HN8'.out.copied (w := w) HB5.out HO5.out HB8.out
      have HCP := Lib.hid hcp
      have HBF := Lib.hid ((TrN.of (F := fun k => k = g) HB5.out).set (p := ⟨g, 1, none⟩) (v := .slice va5 n vc5) (.inl rfl))
      clear hcp zf5 zc5 y1 yf
      generalize w5.setCell ⟨g, 1, none⟩ (.slice va5 n vc5) = w9 at *
      have HW8 := HB8
      obtain ⟨b5, cap5, e5, hle5, hcm5, hbg5, -, hat5⟩ := HCP.out.1.pk (i := (i : Int)) ⟨by omega, by have := HIL.out; show (i : Int) < (q.l.length : Int); omega⟩
      rw [show ({ q with l := q.l } : Nt).l.length = n from HLN.out] at e5 hle5
      injection e5 with e5a e5b e5c
      subst e5a e5c
      have HN9 := Lib.hid (show NtIn w9 60 g (.slice (some ⟨b5, 0, none⟩) q.l.length vc5) q from by rw [HLN.out]; exact HCP.out.1)
      have HTR := Lib.hid HCP.out.2.1
      have HFB := Lib.hid (show w.heap.size ≤ b5 from Nat.le_trans HB8.out.size (HO5.out.lt b5 rfl).1)
      have HPB9 := Lib.hid (show PkB w9 B p9 from HBF.out.heap HP8.out (fun e => by have h1 := HBG1.out; omega))
      have HBY9 := Lib.hid (show Bys w9 (some ⟨bb, 0, none⟩) pl gc (p9.s.set at9 (xorB (p9.s.getD at9 0) z)) from by
        obtain ⟨a1, a2, a3, a4⟩ := HBY.out
        refine ⟨a1, a2, a3, a4.imp id ?_⟩
        rintro ⟨b9, off9, e9, hc9⟩
        injection e9 with e9
        injection e9 with e9 e10
        subst e9
        refine ⟨bb, off9, by rw [e10], fun k hk => ?_⟩
        have h9 := hc9 k hk
        have hlt9 := World.block_lt_of_cell? w8 _ h9
        rw [← h9]
        have hblk := HBF.out.block bb hlt9 (fun e => by have h1 := HBBE.out; have h2 := HBG1.out; omega)
        simp only [World.cell?, hblk])
      have HNE5 := Lib.hid (show B ≠ b5 ∧ bb ≠ b5 ∧ g ≠ b5 from by
        have h1 := (HO5.out.lt b5 rfl).1
        have h2 := HP8.out.lt
        have h3 := HBB8.out
        exact ⟨by omega, by omega, fun e => hbg5 e.symm⟩)
      clear HN8' HBY HP8 HB8 hle5 hcm5 hbg5 hat5 HW8 HCP
      have HNC := Lib.hid (show n ≤ vc5 from by
        rcases HN9.out.list.2 with ⟨e, -⟩ | ⟨b', cap', cur, e, -, -, hnc', -, -, -⟩
        · cases e
        · injection e with e1 e2 e3
          rw [HLN.out] at hnc'
          omega)
      clear hnc HBG HBF HO5 HB5 HV HVL
      obtain ⟨tq, htq⟩ : ∃ y, text (p9.turned ((at9 : Nat) : Int) z).s = y := ⟨_, rfl⟩
      have HTQ := Lib.hid htq
      have HTF := Lib.hid (show (p9.turned ((at9 : Nat) : Int) z).frm = pf from HPFE.out)
      clear htq
      revert HN9 HTR HFB HPB9 HBY9 HNE5 HNC
      generalize w9 = w8 at *
      generalize b5 = b at *
      generalize vc5 = cap at *
      intro HN8 HTR HFB HPB9 HBY9 HNE5 HNC
      have hnc := HNC.out
      have HC := Lib.hid (fun (W : World) (hW : TrN (fun k => k = b) w8 W) => show W.cell? ⟨g, 1, none⟩ = some (.slice (some ⟨b, 0, none⟩) n cap) ∧ (SameN w8 W → W.cell? ⟨b, i * 2, none⟩ = some (.int .i64 pf) ∧ W.frozen? ⟨b, i * 2, none⟩ = false ∧ W.cell? ⟨b, i * 2 + 1, none⟩ = some (.string tp) ∧ W.frozen? ⟨b, i * 2 + 1, none⟩ = false) from by
        have hh := hW.heap HN8.out.head (fun hk => HNE5.out.2.2 hk)
        refine ⟨by rw [cell_of_row W g 1 _ _ (0, 0) hh, ← HLN.out]; rfl, fun hs => ?_⟩
        obtain ⟨b', cap', e, -, -, -, ⟨cur, hcur⟩, hat⟩ := HN8.out.pk (i := (i : Int)) ⟨by omega, by have := HIL.out; omega⟩
        injection e with e1 e2 e3
        injection e1 with e1
        injection e1 with e1
        subst e1
        have := hat W hs.below
        rw [Int.toNat_natCast, HGP.out, HTP.out, HPFE.out] at this
        exact ⟨this.1, frozen_of_row W b _ _ _ (by rw [hs.heap]; exact hcur), this.2, frozen_of_row W b _ _ _ (by rw [hs.heap]; exact hcur)⟩)
      have HPF := Lib.hid (fun (W : World) (hW : TrN (fun k => k = b) w8 W) => show W.cell? ⟨B, 0, none⟩ = some (.int .i64 pf) from by
        have := (show PkB W B p9 from hW.heap HPB9.out (fun e => HNE5.out.1 e)).c0
        rw [HPFE.out] at this
        exact this)
      have HCV := Lib.hid (fun (W : World) (hW : TrN (fun k => k = b) w8 W) => show (convert 29 9 (.slice (some ⟨bb, 0, none⟩) pl gc)).run Try.prog W = .ok (.string tq) W from by
        have hb9 : Bys W (some ⟨bb, 0, none⟩) pl gc (p9.s.set at9 (xorB (p9.s.getD at9 0) z)) := by
          obtain ⟨a1, a2, a3, a4⟩ := HBY9.out
          refine ⟨a1, a2, a3, a4.imp id ?_⟩
          rintro ⟨b9, off9, e9, hc9⟩
          injection e9 with e9
          injection e9 with e9 e10
          subst e9
          refine ⟨bb, off9, by rw [e10], fun k hk => ?_⟩
          have h9 := hc9 k hk
          have hlt9 := World.block_lt_of_cell? w8 _ h9
          rw [← h9]
          have hblk := hW.block bb hlt9 (fun e => HNE5.out.2.1 e)
          simp only [World.cell?, hblk]
        rw [← HTQ.out]
        exact conv_bys hb9 Try.underlying29 Try.underlying5 Try.underlying9)
      refine wp_region_inv [none, none, none, none, none, none, none, none, none, none, none, none, none, none, none, none, none, none, none, none, none, none, none, none, none, none, none, none, none, none, none, none, none, none, none, none, none, none, none, none, none, none, none, none, none, none, none, none, none, none, none, some 0, some 1, some 2, some 3, some 4, some 5, some 6, some 7, some 8, some 9, some 10] (fun i => [undef, undef, undef, undef, undef, undef, undef, undef, undef, undef, undef, undef].getD i undef) (fun L xs W => InvQ [11] 12 (RvN [some (.pointer (some ⟨g, 0, none⟩)), some (.pointer (some ⟨g, 0, none⟩)), some (.pointer (some ⟨g, 1, none⟩)), some (.slice (some ⟨b, 0, none⟩) n cap), some (.int .i64 (i : Int)), some (.pointer (some ⟨B, 0, none⟩)), some (.int .i64 pf), some (.slice (some ⟨bb, 0, none⟩) pl gc), some (.string tq), some (.agg #[.int .i64 pf, .string tq]), some (.pointer (some ⟨b, i * 2, none⟩)), none]) (TurnR2 w8 b (i * 2) (.int .i64 pf) (.string tq)) L xs W ∧ ((L 11 = true → L 8 = true))) (by kernel_rfl) (by kernel_rfl) rfl rfl (fun L hL => ⟨InvQ.start hL (by decide) (by decide) (SameN.drawn _ _), (fun h => by rw [hL 11 (by decide)] at h; cases h)⟩) ?_ ?_
      · simp only [invOps, and_true]
        refine ⟨?_, ?_, ?_, ?_, ?_, ?_, ?_, ?_, ?_, ?_, ?_, ?_⟩
        · intro L xs W ⟨hI, hE⟩ hL hn
          have hE0 := hE
          simp only [flowAct, List.zipWith_cons_cons, List.zipWith_nil_left]
          go_wp2_with (fail)
          exact ⟨rfl, _, rfl, hI.pure 0 (by decide) (fun _ h => h) (fun x hx => by first | (injection hx with hx) | cases hx), hE0⟩
        · intro L xs W ⟨hI, hE⟩ hL hn
          simp [invNeeds, Region.binds] at hn
          have e0 : xs 0 = .pointer (some ⟨g, 0, none⟩) := hI.val 0 (by decide) (by simp only [hn]) _ rfl
          have hE0 := hE
          simp only [flowAct, List.zipWith_cons_cons, List.zipWith_nil_left]
          simp only [e0]
          go_wp2_with (fail)
          exact ⟨rfl, _, rfl, hI.pure 1 (by decide) (fun _ h => h) (fun x hx => by first | (injection hx with hx) | cases hx), hE0⟩
        · intro L xs W ⟨hI, hE⟩ hL hn
          simp [invNeeds, Region.binds] at hn
          have e1 : xs 1 = .pointer (some ⟨g, 0, none⟩) := hI.val 1 (by decide) (by simp only [hn]) _ rfl
          have hE0 := hE
          simp only [flowAct, List.zipWith_cons_cons, List.zipWith_nil_left]
          simp only [e1]
          go_wp2_with (fail)
          exact ⟨rfl, _, rfl, hI.pure 2 (by decide) (fun _ h => h) (fun x hx => by first | (injection hx with hx) | cases hx), hE0⟩
        · intro L xs W ⟨hI, hE⟩ hL hn
          simp [invNeeds, Region.binds] at hn
          have e2 : xs 2 = .pointer (some ⟨g, 1, none⟩) := hI.val 2 (by decide) (by simp only [hn]) _ rfl
          have hE0 := hE
          have z1 := (HC.out W (hI.any |> fun ⟨k, _, h⟩ => h.any)).1
          simp only [flowAct, List.zipWith_cons_cons, List.zipWith_nil_left]
          simp only [e2]
          go_wp2_with (fail)
          exact ⟨rfl, _, rfl, hI.pure 3 (by decide) (fun _ h => h) (fun x hx => by first | (injection hx with hx) | cases hx), hE0⟩
        · intro L xs W ⟨hI, hE⟩ hL hn
          have hE0 := hE
          simp only [flowAct, List.zipWith_cons_cons, List.zipWith_nil_left]
          go_wp2_with (fail)
          exact ⟨rfl, _, rfl, hI.pure 4 (by decide) (fun _ h => h) (fun x hx => by first | (injection hx with hx) | cases hx), hE0⟩
        · intro L xs W ⟨hI, hE⟩ hL hn
          have hE0 := hE
          simp only [flowAct, List.zipWith_cons_cons, List.zipWith_nil_left]
          go_wp2_with (fail)
          exact ⟨rfl, _, rfl, hI.pure 5 (by decide) (fun _ h => h) (fun x hx => by first | (injection hx with hx) | cases hx), hE0⟩
        · intro L xs W ⟨hI, hE⟩ hL hn
          simp [invNeeds, Region.binds] at hn
          have e5 : xs 5 = .pointer (some ⟨B, 0, none⟩) := hI.val 5 (by decide) (by simp only [hn]) _ rfl
          have hE0 := hE
          have z1 := HPF.out W (hI.any |> fun ⟨k, _, h⟩ => h.any)
          simp only [flowAct, List.zipWith_cons_cons, List.zipWith_nil_left]
          simp only [e5]
          go_wp2_with (fail)
          exact ⟨rfl, _, rfl, hI.pure 6 (by decide) (fun _ h => h) (fun x hx => by first | (injection hx with hx) | cases hx), hE0⟩
        · intro L xs W ⟨hI, hE⟩ hL hn
          have hE0 := hE
          simp only [flowAct, List.zipWith_cons_cons, List.zipWith_nil_left]
          go_wp2_with (fail)
          exact ⟨rfl, _, rfl, hI.pure 7 (by decide) (fun _ h => h) (fun x hx => by first | (injection hx with hx) | cases hx), hE0⟩
        · intro L xs W ⟨hI, hE⟩ hL hn
          simp [invNeeds, Region.binds] at hn
          have e7 : xs 7 = .slice (some ⟨bb, 0, none⟩) pl gc := hI.val 7 (by decide) (by simp only [hn]) _ rfl
          have hE0 := hE
          have Lb0 : L 11 = false := by
            cases h : L 11 with
            | false => rfl
            | true => have := hE0 h; rw [hL] at this; cases this
          have cv := HCV.out W (hI.any |> fun ⟨k, _, h⟩ => h.any)
          simp only [flowAct, List.zipWith_cons_cons, List.zipWith_nil_left]
          simp only [e7]
          go_wp2_with (fail)
          exact ⟨rfl, _, rfl, hI.pure 8 (by decide) (fun _ h => h) (fun x hx => by first | (injection hx with hx) | cases hx), (fun _ => by simp)⟩
        · intro L xs W ⟨hI, hE⟩ hL hn
          simp [invNeeds, Region.binds] at hn
          have e6 : xs 6 = .int .i64 pf := hI.val 6 (by decide) (by simp only [hn]) _ rfl
          have e8 : xs 8 = .string tq := hI.val 8 (by decide) (by simp only [hn]) _ rfl
          have hE0 := hE
          simp only [flowAct, List.zipWith_cons_cons, List.zipWith_nil_left]
          simp only [e6, e8]
          go_wp2_with (fail)
          exact ⟨rfl, _, rfl, hI.pure 9 (by decide) (fun _ h => h) (fun x hx => by first | (injection hx with hx) | cases hx), hE0⟩
        · intro L xs W ⟨hI, hE⟩ hL hn
          simp [invNeeds, Region.binds] at hn
          have e3 : xs 3 = .slice (some ⟨b, 0, none⟩) n cap := hI.val 3 (by decide) (by simp only [hn]) _ rfl
          have e4 : xs 4 = .int .i64 (i : Int) := hI.val 4 (by decide) (by simp only [hn]) _ rfl
          have hE0 := hE
          simp only [flowAct, List.zipWith_cons_cons, List.zipWith_nil_left]
          simp only [e3, e4]
          go_wp2_with (fail)
          exact ⟨rfl, _, rfl, hI.pure 10 (by decide) (fun _ h => h) (fun x hx => by first | (injection hx with hx) | cases hx), hE0⟩
        · intro L xs W ⟨hI, hE⟩ hL hn
          simp [invNeeds, Region.binds] at hn
          have e10 : xs 10 = .pointer (some ⟨b, i * 2, none⟩) := hI.val 10 (by decide) (by simp only [hn]) _ rfl
          have e9 : xs 9 = .agg #[.int .i64 pf, .string tq] := hI.val 9 (by decide) (by simp only [hn]) _ rfl
          have hr := hI.at 0 rfl hL (fun p hp => absurd hp.1 (by omega))
          have hE0 := hE
          have Li0 : L 8 = true := by simp only [hn]
          have HR := Lib.hid hr
          obtain ⟨z2, z3, z4, z5⟩ := (HC.out W (TrN.of (SameN.below hr))).2 hr
          clear hr
          simp only [flowAct, List.zipWith_cons_cons, List.zipWith_nil_left]
          simp only [e10, e9]
          go_wp2_with (fail)
          exact ⟨rfl, undef, rfl, hI.step 0 rfl hL (fun p hp => absurd hp.1 (by omega)) (by decide) (⟨W, HR.out, rfl⟩) (fun x hx => by first | (injection hx with hx) | cases hx), (fun _ => by simpa using Li0)⟩
      · intro L xs W ⟨hI, hE⟩ hL
        have hdone := (hI.done hL (by decide) (by decide)).1
        obtain ⟨W3, hs3, rfl⟩ : ∃ W3, SameN w8 W3 ∧ W = (W3.setCell ⟨b, i * 2, none⟩ (.int .i64 pf)).setCell ⟨b, i * 2 + 1, none⟩ (.string tq) := hdone
        have hrp := HN8.out.repack2 HIL.out (p9.turned ((at9 : Nat) : Int) z) (W3 := W3) (fun k hk => by rw [hs3.heap])
        rw [HLN.out, HTQ.out, HTF.out] at hrp
        have HRP := Lib.hid hrp
        have HT := Lib.hid (((TrN.of (F := fun k => k = b) hs3.below).set (p := ⟨b, i * 2, none⟩) (v := .int .i64 pf) (.inl rfl)).set (p := ⟨b, i * 2 + 1, none⟩) (v := .string tq) (.inl rfl))
        clear hrp hs3 hI hE hL
        simp only [flowAct, List.zipWith_cons_cons, List.zipWith_nil_left]
        generalize (W3.setCell ⟨b, i * 2, none⟩ (.int .i64 pf)).setCell ⟨b, i * 2 + 1, none⟩ (.string tq) = W6 at *
        go_wp2
        go_ret
        refine ⟨rfl, _, ⟨_, HRP.out, rfl⟩, HTR.out.trans HT.out (fun k hk => .inr (by rw [hk]; exact HFB.out)), fun k hk => ?_⟩
        rcases hk with rfl | hk
        · exact .inl (.inl rfl)
        · injection hk with hk
          subst hk
          exact .inr HFB.out
  · have he : q.look i9 = (Pk.zero, 211) := by unfold Nt.look; rw [if_neg hi]
    have he2 : q.turn i9 a9 z = (211, q) := by unfold Nt.turn; rw [if_pos hi]
    rw [he] at HLK
    rw [he2]
    have hza : Pk.arr Pk.zero = #[.int .i64 0, .string ⟨#[]⟩] := rfl
    simp only [hza] at HLK
    clear h hi he he2 hza hgl hm1 hml
    go_enter Try.func27, Try.ntmps27
    go_wp2_with (go_at_call 28; (with_reducible refine HLK.out.mono ?_); rintro e1 w1 ⟨rfl, hb1⟩; have HB1 := Lib.hid hb1; clear hb1)
    go_ret
    have hb2 := HB1.out.trans ((alloc_below w1 (.cells #[.int .i64 0, .string ⟨#[]⟩] 43)).mono HB1.out.size)
    exact ⟨rfl, _, HK.out.below hb2, TrN.of hb2, fun k hf => .inl hf⟩
/-- Counts, as told. -/
def cntV (q : Nt) : Value := .agg #[.int .i64 q.c0, .int .i64 q.c1, .int .i64 q.c2, .int .i64 q.c3]
end Go.Proofs.Ytngfohedddcboaa
