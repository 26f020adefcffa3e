/-
  THE WALK over ShaCuts.
-/
import Derived.Test.YticcmhgahbnboaaDoorSY
import Derived.Test.YticcmhgahbnboaaDoorRO
import Derived.Test.YticcmhgahbnboaaDoorSZ
namespace Go.Proofs.YticcmhgahbnboaaDoor
open Go.RowKit Go
set_option linter.unusedVariables false

theorem OwnB.of_block {w w' : World} {B : Nat} {e : TypeId} {v : Value} {l : List UInt8} (h : OwnB w B e v l) (hb : ∀ q, v.ownBlock = some q → w'.heap[q]? = w.heap[q]?) : OwnB w' B e v l := by
  refine ⟨h.1, ?_⟩
  rcases h.2 with hn | ⟨g, cap, cur, rfl, hB, hg, rest⟩
  · exact .inl hn
  · exact .inr ⟨g, cap, cur, rfl, hB, by rw [hb g rfl]; exact hg, rest⟩
theorem St.of_block {w w' : World} {g : Nat} {r : Rd} {wt : List UInt8} {n : Nat} (h : St w g r wt n) (hb : w'.heap[g]? = w.heap[g]?) : St w' g r wt n := ⟨h.len, hb.trans h.row⟩
theorem xor1 : ∀ c : Fin 256, bits .xor .u8 (c.val : Int) 1 = (((UInt8.ofNat c.val) ^^^ 1).toNat : Int) := by decide +kernel
theorem xor1' (c : UInt8) : bits .xor .u8 (c.toNat : Int) 1 = ((c ^^^ 1).toNat : Int) := by
  have := xor1 ⟨c.toNat, c.toNat_lt⟩
  simp only [UInt8.ofNat_toNat] at this
  exact this

/-- What is known between two parts. -/
structure CutInv (w : World) (L : List UInt8) (v : Value) (wr : World) : Prop where
  all : OwnB wr (w.heap.size + 1) 5 v L
  st : ∃ r wt, St wr w.heap.size r wt L.length ∧ Came r wt L
  below : Below w.heap.size w wr
  small : L.length ≤ 3000

set_option maxRecDepth 100000 in
set_option maxHeartbeats 6400000 in
theorem cuts_walk {w : World} (hT : TabS w) {a : Option Addr} {n cap : Nat} {ls : List (List UInt8)} (ha : Rws w a n cap ls) (hsz : ∀ r, r < n → (ls.getD r []).length ≤ 140737488351232) : Calls Tryd.prog 10 #[.slice a n cap] w (BoolPost true w) := by
  obtain ⟨i0, hi, hz0, hz1, hz2⟩ := info_parts Tryd.info5
  have hln := ha.len
  have hnle := ha.le
  have hnm := ha.max
  have HA := Lib.hid ha
  have HT := Lib.hid hT
  have HI5 := Lib.hid hi
  have hEG := eqg_dig
  have HSZ := Lib.hid hsz
  clear ha hT hi hsz
  go_enter Tryd.func10, Tryd.ntmps10
  go_upto_region 2 with (go_at_call 26; (with_reducible refine (new_c HT.out).mono ?_); rintro e w1 ⟨rfl, hS1, hb1⟩)
  by_cases h30 : 30 < n
  · have hd : decide ((30 : Int) < (n : Int)) = true := by simp; omega
    have HB1 := Lib.hid hb1
    clear hb1 hS1
    go_wp2_with (go_at_call 23; (with_reducible refine (slives_c (HT.out.below HB1.out)).mono ?_); rintro e w2 ⟨rfl, hb2⟩)
    go_ret
    exact ⟨rfl, HB1.out.trans (hb2.mono HB1.out.size)⟩
  · have hd : decide ((30 : Int) < (n : Int)) = false := by simp; omega
    have HI := Lib.hid (show CutInv w (ls.take 0).flatten (.slice none 0 0) w1 from ⟨⟨rfl, .inl ⟨rfl, rfl⟩⟩, ⟨_, _, hS1, Came.nil _⟩, hb1, by simp⟩)
    clear hS1 hb1
    go_wp2
    go_loopw [4, 24] (fun v i wr => ∃ k : Nat, k ≤ n ∧ i = .int .i64 k ∧ CutInv w (ls.take k).flatten v wr) (fun _ i _ => n - (intOf i).toNat)
    case atStart => exact ⟨0, by omega, rfl, HI.out⟩
    case round =>
      clear HI
      obtain ⟨k, hk, rfl, hI⟩ := hrel
      by_cases hlt : k < n
      · have hki : (k : Int) < (n : Int) := by omega
        obtain ⟨b, off, rfl, hcell⟩ : ∃ b off, a = some ⟨b, off, none⟩ ∧ ∀ i, i < n → ∃ ai ni ci, w.cell? ⟨b, off + i, none⟩ = some (.slice ai ni ci) ∧ Bys w ai ni ci (ls.getD i []) := by
          rcases HA.out.adr with h0 | h
          · omega
          · exact h
        obtain ⟨ai, ni, ci, hci, hbi⟩ := hcell k hlt
        have hcw : wr.cell? ⟨b, off + k, none⟩ = some (.slice ai ni ci) := by rw [hI.below.cell (World.block_lt_of_cell? w _ hci)]; exact hci
        have HFL := Lib.hid (flat_take ls k (by omega))
        have hps := HSZ.out k hlt
        obtain ⟨P, hP⟩ : ∃ P, ls.getD k [] = P := ⟨_, rfl⟩
        obtain ⟨L, hL⟩ : ∃ L, (ls.take k).flatten = L := ⟨_, rfl⟩
        rw [hP] at hbi HFL hps
        rw [hL] at hI HFL
        have hpl := hbi.len
        have hnb : ni ≤ 140737488351232 := by omega
        have hsm := hI.small
        have hni := hbi.le
        have hcx := hbi.max
        obtain ⟨av, cv, rfl, hbv⟩ := hI.all.bys
        have HBI := Lib.hid hbi
        have HIV := Lib.hid hI
        obtain ⟨lL, hlL⟩ : ∃ x, L.length = x := ⟨_, rfl⟩
        rw [hlL] at hsm hbv HIV ⊢
        clear hcell hci hbi hbv hP hL hI
        by_cases hbig : 3000 < lL + ni
        · have hdb : decide ((3000 : Int) < (lL : Int) + (ni : Int)) = true := by simp; omega
          go_wp2_with (go_at_call 23; (with_reducible refine (slives_c (HT.out.below HIV.out.below)).mono ?_); rintro e w2 ⟨rfl, hb2⟩)
          go_ret
          exact ⟨rfl, HIV.out.below.trans (hb2.mono HIV.out.below.size)⟩
        · have hdb : decide ((3000 : Int) < (lL : Int) + (ni : Int)) = false := by simp; omega
          have hni3 : lL + ni ≤ 3000 := by omega
          have hbp := HBI.out.below HIV.out.below
          have hao := HIV.out.all
          have hbw := HIV.out.below.size
          have hgl := (HIV.out.st.choose_spec.choose_spec.1).lt
          go_upto_region 11 with (first
            | (at_builtin; refine wpList_append_bys rfl (.tmp 35) (.tmp 36) 22 rfl Tryd.underlying22 HI5.out hz0 hz1 hz2 rfl rfl hao rfl hbp (by omega) (by omega) ?_; intro v2 w2 ho2 hg2))
          obtain ⟨r, wt, hS, hC⟩ := HIV.out.st
          have hB2 : Below w.heap.size w w2 := HIV.out.below.grown hg2 (by omega) (fun q hq => by have := (hao.lt q hq).1; omega)
          have hS2 := hS.of_block (hg2.block _ hS.lt (fun e => by have := (hao.lt _ e.symm).1; omega))
          have hbp2 := HBI.out.below hB2
          have hg2s := hg2.size
          clear hao hg2 hbp hS
          have hal := (Below.refl w2.heap.size w2).alloc (Nat.le_refl _) (.cells #[] 5)
          have hoe := OwnB.empty w2 w2.heap.size 5 (Nat.le_refl _)
          have hbp3 := hbp2.below hal
          go_upto_region 12 with (first
            | (at_builtin; refine wpList_append_bys rfl (.tmp 38) (.tmp 39) 22 rfl Tryd.underlying22 HI5.out hz0 hz1 hz2 rfl rfl hoe rfl hbp3 (by simp; omega) (by simp) ?_; intro v4 w4 ho4 hg4))
          rw [List.nil_append] at ho4
          have hB24 : Below w2.heap.size w2 w4 := hal.grown hg4 (by simp) (fun q hq => (hoe.lt q hq).1)
          have hB4 : Below w.heap.size w w4 := hB2.trans (hB24.mono hB2.size)
          have ho24 := ho2.kept hB24
          have hS4 := hS2.kept hB24
          clear hal hoe hbp3 hg4 hbp2
          have hl2 := fun q hq => (ho2.lt q hq).2
          obtain ⟨a4, c4, rfl, hb4⟩ := ho4.bys
          obtain ⟨a2, c2, rfl, hb2⟩ := ho24.bys
          have hgl2 := hS2.lt
          have hsep : 0 < ni → ∀ b' off', a4 = some ⟨b', off', none⟩ → b' ≠ w.heap.size := by
            intro _ b' off' e
            subst e
            have := (ho4.lt b' rfl).1
            omega
          rw [hpl] at hb4 ⊢
          have hLP : (L ++ P).length = lL + ni := by rw [List.length_append, hlL, hpl]
          rw [hLP] at hb2 ho24 hl2 ⊢
          rw [hlL] at hS4
          have HADD := Lib.hid (add_c (l := L) (HT.out.below hB4) (by rw [hlL]; exact hS4) hC hb4 hsep (by omega))
          have HL2 := Lib.hid hl2
          have HO2 := Lib.hid ho24
          have HO4 := Lib.hid ho4
          have HB4 := Lib.hid hB4
          have HB24 := Lib.hid hB24
          have HSP := Lib.hid hsep
          have HG2 := Lib.hid hgl2
          clear hl2 hB2 hB24 hB4 ho2 ho24 ho4 hS2 hS4 hC hb2 hb4 hsep hgl2
          go_wp2_with (first
            | (go_at_call 27; (with_reducible refine (HADD.out).mono ?_); rintro e w5 ⟨rfl, ⟨r', wt', hS5, hC5⟩, hG5⟩; rw [hLP] at hS5)
            | (go_at_call 28; (with_reducible refine (len_c hS5).mono ?_); rintro e w6 ⟨rfl, rfl⟩))
          have ho5 := HO4.out.of_block (fun q hq => hG5.block q (HO4.out.lt q hq).2 (fun e => by have h1 := (HO4.out.lt q hq).1; have h2 := HG2.out; cases e; omega))
          have hs5 := hG5.size
          have HO5 := Lib.hid ho5
          have HS5 := Lib.hid hS5
          have HC5 := Lib.hid hC5
          have HG5 := Lib.hid hG5
          clear ho5 hS5 hC5 hG5
          go_loopw [54] (fun j wx => ∃ i : Nat, i ≤ ni ∧ j = .int .i64 i ∧ ∃ P', P'.length = ni ∧ OwnB wx w2.heap.size 5 (.slice a4 ni c4) P' ∧ Below w2.heap.size w5 wx) (fun j _ => ni - (intOf j).toNat)
          case atStart => exact ⟨0, by omega, rfl, P, hpl, by have := HO5.out; rw [hpl] at this; exact this, Below.refl _ _⟩
          case round =>
            obtain ⟨i, hin, rfl, P', hpl', hox, hBx⟩ := hrel
            by_cases hil : i < ni
            · have hii : (i : Int) < (ni : Int) := by omega
              obtain ⟨g4, c4', he4, hor⟩ := hox.row (by omega)
              rw [hpl'] at he4 hor
              obtain ⟨rfl, rfl⟩ : a4 = some ⟨g4, 0, none⟩ ∧ c4 = c4' := by simpa using he4
              have hor2 : wr.ownsRow w2.heap.size 5 1 (.slice (some ⟨g4, 0, none⟩) ni c4) ni (u8v P') := by
                have := hor
                unfold OwnB at this
                rw [hpl'] at this
                exact this
              have hcell := hor2.cellAt i (by omega)
              rw [u8v_get P' i (by omega)] at hcell
              have hfz := hor2.frozenAt i
              have hst := (hor2.stored i (.int .u8 (((P'.getD i 0) ^^^ 1).toNat : Int))).1
              rw [u8v_set] at hst
              unfold by8 at hcell
              have hgb := (hor.lt g4 rfl).1
              have HBN := Lib.hid (hBx.setCell (p := ⟨g4, i, none⟩) hgb (.int .u8 (((P'.getD i 0) ^^^ 1).toNat : Int)))
              have hx := xor1' (P'.getD i 0)
              have HPS := Lib.hid (show (P'.set i ((P'.getD i 0) ^^^ 1)).length = ni by rw [List.length_set]; exact hpl')
              obtain ⟨c, hc⟩ : ∃ c, P'.getD i 0 = c := ⟨_, rfl⟩
              rw [hc] at hcell hst hx HBN HPS
              have HST := Lib.hid hst
              have HX := Lib.hid hx
              have hc255 := c.toNat_lt
              clear hst hx hc hox hBx hor hor2 he4
              go_wp2
              rw [HX.out]
              go_roundw
              case rel =>
                refine ⟨i + 1, by omega, rfl, _, HPS.out, ?_, HBN.out⟩
                unfold OwnB
                rw [HPS.out]
                exact HST.out
              case measure => simp [intOf]; omega
            · obtain rfl : i = ni := by omega
              have hw4 := HB4.out.size
              have hB5 : Below w.heap.size w w5 := HB4.out.trans (grown_below HG5.out (by omega))
              have hBw : Below w.heap.size w wr := hB5.trans (hBx.mono (by have := HG2.out; omega))
              have hSw := HS5.out.of_block (hBx.block _ HG2.out)
              have hOw := HO2.out.of_block (w' := wr) (fun q hq => (hBx.block q (HL2.out q hq)).trans (HG5.out.block q (HO2.out.lt q hq).2 (fun e => by have := (HO2.out.lt q hq).1; cases e; omega)))
              obtain ⟨a2', c2', he2, hbw⟩ := hOw.bys
              rw [hLP] at he2 hbw
              obtain ⟨rfl, rfl⟩ : a2 = a2' ∧ c2 = c2' := by simpa using he2
              have HSUM := Lib.hid (ssum_c (l := L ++ P) (HT.out.below hBw) (by rw [hLP]; exact hSw) HC5.out (by omega))
              have HRS := Lib.hid (fun W (hb : Below wr.heap.size wr W) => rhash_c (hbw.below hb) (by omega))
              have HIN := Lib.hid (fun W (hb : Below wr.heap.size wr W) => (show CutInv w (ls.take (k + 1)).flatten (.slice a2 (lL + i) c2) W by
                rw [HFL.out]
                exact ⟨hOw.kept hb, ⟨r', wt', by rw [hLP]; exact hSw.kept hb, HC5.out⟩, hBw.trans (hb.mono hBw.size), by omega⟩))
              obtain ⟨D, hD⟩ : ∃ D, (u8v (digS (lastS (L ++ P)))).toArray = D := ⟨_, rfl⟩
              have hNE : ∀ W, (binOp .neq 46 (.agg D) (.agg D)).run Tryd.prog W = .ok (.bool false) W := by
                intro W; rw [← hD]; exact dig_neq _ rfl W
              rw [hD] at HSUM
              simp only [hD] at HRS
              clear hB5 hBw hSw hOw he2 hbw hBx hox hD HADD
              go_wp2_with (first
                | (go_at_call 29; (with_reducible refine (HSUM.out).mono ?_); rintro e w7 ⟨rfl, hb7⟩)
                | (go_at_call 25; (with_reducible refine (HRS.out _ hb7).mono ?_); rintro e w8 ⟨rfl, hb8⟩))
              go_roundw
              case rel => exact ⟨k + 1, by omega, rfl, HIN.out _ (hb7.trans (hb8.mono hb7.size))⟩
              case measure => simp [intOf]; omega
      · obtain rfl : k = n := by omega
        rw [List.take_of_length_le (by omega)] at hI
        obtain ⟨av, cv, rfl, hbv⟩ := hI.all.bys
        obtain ⟨r, wt, hS, hC⟩ := hI.st
        have hsm := hI.small
        have hBw := hI.below
        have HSH := Lib.hid (shasum_c (HT.out.below hBw) (HA.out.below hBw) (by omega))
        have HSS := Lib.hid (fun W (hb : Below wr.heap.size wr W) => ssum_c (HT.out.below (hBw.trans (hb.mono hBw.size))) (hS.kept hb) hC (by omega))
        have HRS := Lib.hid (fun W (hb : Below wr.heap.size wr W) => rhash_c (hbv.below hb) (by omega))
        obtain ⟨D, hD⟩ : ∃ D, (u8v (digS (lastS ls.flatten))).toArray = D := ⟨_, rfl⟩
        have hEQ : ∀ W, (binOp .eql 46 (.agg D) (.agg D)).run Tryd.prog W = .ok (.bool true) W := by
          intro W; rw [← hD]; exact dig_eq _ rfl W
        rw [hD] at HSH
        simp only [hD] at HRS HSS
        obtain ⟨lL, hlL⟩ : ∃ x, ls.flatten.length = x := ⟨_, rfl⟩
        rw [hlL] at HRS ⊢
        have HBW := Lib.hid hBw
        clear hD hI hbv hS hC hsm hBw hlL
        go_wp2_with (first
          | (go_at_call 24; (with_reducible refine (HSH.out).mono ?_); rintro e w3 ⟨rfl, hb3⟩)
          | (go_at_call 25; (with_reducible refine (HRS.out _ hb3).mono ?_); rintro e w4 ⟨rfl, hb4⟩)
          | (go_at_call 29; (with_reducible refine (HSS.out _ (hb3.trans (hb4.mono hb3.size))).mono ?_); rintro e w5 ⟨rfl, hb5⟩; have hb35 := (hb3.trans (hb4.mono hb3.size)).trans (hb5.mono (Nat.le_trans hb3.size hb4.size)))
          | (go_at_call 25; (with_reducible refine (HRS.out _ hb35).mono ?_); rintro e w6 ⟨rfl, hb6⟩; have hb36 := HBW.out.trans ((hb35.trans (hb6.mono hb35.size)).mono HBW.out.size))
          | (go_at_call 23; (with_reducible refine (slives_c (HT.out.below hb36)).mono ?_); rintro e w7 ⟨rfl, hb7⟩))
        go_ret
        exact ⟨rfl, hb36.trans (hb7.mono hb36.size)⟩
end Go.Proofs.YticcmhgahbnboaaDoor
