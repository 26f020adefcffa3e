/-
  THE WALK over ShaTexts.
-/
import Derived.Test.YticcmhgahbnboaaDoorU3
namespace Go.Proofs.YticcmhgahbnboaaDoor
open Go.RowKit Go
set_option linter.unusedVariables false

/-- A digest laid into a variable that was just made. -/
def laidD (W : World) (d : List UInt8) : World := (W.alloc (.cells #[.int .u8 0, .int .u8 0, .int .u8 0, .int .u8 0, .int .u8 0, .int .u8 0, .int .u8 0, .int .u8 0, .int .u8 0, .int .u8 0, .int .u8 0, .int .u8 0, .int .u8 0, .int .u8 0, .int .u8 0, .int .u8 0, .int .u8 0, .int .u8 0, .int .u8 0, .int .u8 0, .int .u8 0, .int .u8 0, .int .u8 0, .int .u8 0, .int .u8 0, .int .u8 0, .int .u8 0, .int .u8 0, .int .u8 0, .int .u8 0, .int .u8 0, .int .u8 0] 46)).setRow W.heap.size (u8v d).toArray
theorem laidD_new (W : World) : RowB (W.alloc (.cells #[.int .u8 0, .int .u8 0, .int .u8 0, .int .u8 0, .int .u8 0, .int .u8 0, .int .u8 0, .int .u8 0, .int .u8 0, .int .u8 0, .int .u8 0, .int .u8 0, .int .u8 0, .int .u8 0, .int .u8 0, .int .u8 0, .int .u8 0, .int .u8 0, .int .u8 0, .int .u8 0, .int .u8 0, .int .u8 0, .int .u8 0, .int .u8 0, .int .u8 0, .int .u8 0, .int .u8 0, .int .u8 0, .int .u8 0, .int .u8 0, .int .u8 0, .int .u8 0] 46)) W.heap.size 46 (List.replicate 32 0) := heap_alloc_new W _
theorem laidD_row (W : World) (d : List UInt8) : RowB (laidD W d) W.heap.size 46 d := (laidD_new W).setRow d
theorem laidD_below (W : World) (d : List UInt8) : Below W.heap.size W (laidD W d) := below_setRow ((Below.refl _ W).alloc (Nat.le_refl _) _) (Nat.le_refl _) _
theorem RowB.loads {W : World} {g : Nat} {t : TypeId} {l : List UInt8} (h : RowB W g t l) (hl : l.length = 32) : (loadCells ⟨g, 0, none⟩ 32).run Tryd.prog W = .ok (u8v l).toArray W := by
  rw [show 32 = (u8v l).length by rw [u8v_length, hl]]
  refine run_loadCells_list (P := Tryd.prog) W ⟨g, 0, none⟩ (u8v l) (fun j v hv => ?_)
  have hj : j < l.length := by have := (List.getElem?_eq_some_iff.1 hv).1; rwa [u8v_length] at this
  rw [u8v_get l j hj] at hv
  cases hv
  rw [addr_add, Nat.zero_add]
  exact h.cell j hj

attribute [-go_sem] loadCells
set_option maxRecDepth 100000 in
set_option maxHeartbeats 3200000 in
theorem texts_walk {w : World} (hT : TabS w) (d : List UInt8) (hd : d.length = 32) (s : List UInt8) (hlim : s.length ≤ 9223372036854775807) : Calls Tryd.prog 11 #[.agg (u8v d).toArray, .string (text s)] w (BoolPost true w) := by
  have hsz : (text s).size = s.length := by unfold text; simp [ByteArray.size]
  have hR1 : RowB (w.alloc (.cells (u8v d).toArray 46)) w.heap.size 46 d := heap_alloc_new w _
  have hb1 := (Below.refl w.heap.size w).alloc (Nat.le_refl _) (.cells (u8v d).toArray 46)
  have hrd := fun W => read_c s (w := W)
  have hrr := fun W => rread_c s (w := W)
  have htx := fun W => text_c d hd (w := W)
  have hrt := fun W => rtext_c d hd (w := W)
  have hrx := fun W => read_c (hexS d) (by rw [hexS_length, hd]; decide) (w := W)
  have hbk : (readD s).2 = 0 → ∀ W, Calls Tryd.prog 30 #[.agg (u8v (readD s).1).toArray] W (fun e w' => e = .returned (.string (text s)) ∧ Below W.heap.size W w') := by
    intro h W
    have := text_c (readD s).1 (readD_length s) (w := W)
    rw [readD_back s h] at this
    exact this
  unfold ReadPost at hrd hrr hrx
  rw [readD_hex d hd] at hrx
  have hcode := readD_code s
  have hEG := eqg_dig
  have hEQd := dig_eq d hd
  have hEQy := dig_eq (readD s).1 (readD_length s)
  have hyl := readD_length s
  obtain ⟨y, hy⟩ : ∃ y, (readD s).1 = y := ⟨_, rfl⟩
  obtain ⟨f, hf⟩ : ∃ f, (readD s).2 = f := ⟨_, rfl⟩
  rw [hy, hf] at hbk
  simp only [hy, hf] at hrd hrr
  rw [hf] at hcode
  rw [hy] at hEQy hyl
  obtain ⟨T, hTT⟩ : ∃ T, text (hexS d) = T := ⟨_, rfl⟩
  unfold TextPost at htx hrt
  rw [hTT] at htx hrt hrx
  obtain ⟨S, hS⟩ : ∃ S, text s = S := ⟨_, rfl⟩
  rw [hS] at hsz hrd hrr hbk ⊢
  obtain ⟨n, hn⟩ : ∃ n, s.length = n := ⟨_, rfl⟩
  rw [hn] at hsz hrd hrr hlim
  clear hy hf hTT hS hn
  have hmd := size_dig d hd
  have hmy := size_dig y hyl
  have hszd : (u8v d).length = 32 := by rw [u8v_length]; exact hd
  have hszy : (u8v y).length = 32 := by rw [u8v_length]; exact hyl
  have HRD := Lib.hid hrd
  have HRR := Lib.hid hrr
  have HTX := Lib.hid htx
  have HRT := Lib.hid hrt
  have HRX := Lib.hid hrx
  have HBK := Lib.hid hbk
  have HCO := Lib.hid hcode
  have HT := Lib.hid hT
  have HR1 := Lib.hid hR1
  have HB1 := Lib.hid hb1
  clear hrd hrr htx hrt hrx hbk hcode hT hR1 hb1
  by_cases hlt : 1000 < n
  · have hdc : decide ((1000 : Int) < (n : Int)) = true := by simp; omega
    go_enter Tryd.func11, Tryd.ntmps11
    go_wp2_with (go_at_call 23; (with_reducible refine (slives_c (HT.out.below HB1.out)).mono ?_); rintro e w1 ⟨rfl, hbl⟩)
    go_ret
    exact ⟨rfl, HB1.out.trans (hbl.mono HB1.out.size)⟩
  · have hdc : decide ((1000 : Int) < (n : Int)) = false := by simp; omega
    have HSM := Lib.hid (show n ≤ 1000000 by omega)
    go_enter Tryd.func11, Tryd.ntmps11
    go_upto_region 1 with (fail)
    generalize w.alloc (.cells (u8v d).toArray 46) = W1 at *
    have hl1 := HR1.out.loads hd
    go_upto_region 4 with (first
      | (go_at_call 30; (with_reducible refine (HTX.out _).mono ?_); rintro e w2 ⟨rfl, hb2⟩))
    have hst2 := fun (W : World) => (laidD_new W).store d (by rw [hd]; simp)
    have hst3 := fun (W : World) => (laidD_new W).store y (by rw [hyl]; simp)
    go_upto_region 5 with (first
      | (go_at_call 31; (with_reducible refine (HRX.out _).mono ?_); rintro e w3 ⟨rfl, hb3⟩))
    rw [show ((w3.alloc (.cells #[.int .u8 0, .int .u8 0, .int .u8 0, .int .u8 0, .int .u8 0, .int .u8 0, .int .u8 0, .int .u8 0, .int .u8 0, .int .u8 0, .int .u8 0, .int .u8 0, .int .u8 0, .int .u8 0, .int .u8 0, .int .u8 0, .int .u8 0, .int .u8 0, .int .u8 0, .int .u8 0, .int .u8 0, .int .u8 0, .int .u8 0, .int .u8 0, .int .u8 0, .int .u8 0, .int .u8 0, .int .u8 0, .int .u8 0, .int .u8 0, .int .u8 0, .int .u8 0] 46)).setRow w3.heap.size (u8v d).toArray) = laidD w3 d from rfl]
    have hB3 : Below w.heap.size w w3 := HB1.out.trans ((hb2.trans (hb3.mono hb2.size)).mono HB1.out.size)
    have hA3 := (HR1.out.kept hb2).kept hb3
    have HA3 := Lib.hid (hA3.kept (laidD_below w3 d))
    have HX3 := Lib.hid (laidD_row w3 d)
    have HB3 := Lib.hid (hB3.trans ((laidD_below w3 d).mono hB3.size))
    obtain ⟨gx, hgx⟩ : ∃ g, w3.heap.size = g := ⟨_, rfl⟩
    rw [hgx] at HX3 ⊢
    clear hB3 hA3 hb2 hb3 hl1 HR1 HB1 hgx
    generalize laidD w3 d = W3 at *
    go_upto_region 6 with (first
      | (go_at_call 31; (with_reducible refine (HRD.out _ HSM.out).mono ?_); rintro e w4 ⟨rfl, hb4⟩))
    rw [show ((w4.alloc (.cells #[.int .u8 0, .int .u8 0, .int .u8 0, .int .u8 0, .int .u8 0, .int .u8 0, .int .u8 0, .int .u8 0, .int .u8 0, .int .u8 0, .int .u8 0, .int .u8 0, .int .u8 0, .int .u8 0, .int .u8 0, .int .u8 0, .int .u8 0, .int .u8 0, .int .u8 0, .int .u8 0, .int .u8 0, .int .u8 0, .int .u8 0, .int .u8 0, .int .u8 0, .int .u8 0, .int .u8 0, .int .u8 0, .int .u8 0, .int .u8 0, .int .u8 0, .int .u8 0] 46)).setRow w4.heap.size (u8v y).toArray) = laidD w4 y from rfl]
    have hB4 : Below w.heap.size w w4 := HB3.out.trans (hb4.mono HB3.out.size)
    have HA4 := Lib.hid ((HA3.out.kept hb4).kept (laidD_below w4 y))
    have HX4 := Lib.hid ((HX3.out.kept hb4).kept (laidD_below w4 y))
    have HY4 := Lib.hid (laidD_row w4 y)
    have HB4 := Lib.hid (hB4.trans ((laidD_below w4 y).mono hB4.size))
    obtain ⟨gy, hgy⟩ : ∃ g, w4.heap.size = g := ⟨_, rfl⟩
    rw [hgy] at HY4 ⊢
    clear hB4 hb4 HA3 HX3 HB3 hgy
    generalize laidD w4 y = W4 at *
    go_upto_region 7 with (first
      | (go_at_call 32; (with_reducible refine (HRR.out _ HSM.out).mono ?_); rintro e w5 ⟨rfl, hb5⟩))
    rw [show ((w5.alloc (.cells #[.int .u8 0, .int .u8 0, .int .u8 0, .int .u8 0, .int .u8 0, .int .u8 0, .int .u8 0, .int .u8 0, .int .u8 0, .int .u8 0, .int .u8 0, .int .u8 0, .int .u8 0, .int .u8 0, .int .u8 0, .int .u8 0, .int .u8 0, .int .u8 0, .int .u8 0, .int .u8 0, .int .u8 0, .int .u8 0, .int .u8 0, .int .u8 0, .int .u8 0, .int .u8 0, .int .u8 0, .int .u8 0, .int .u8 0, .int .u8 0, .int .u8 0, .int .u8 0] 46)).setRow w5.heap.size (u8v y).toArray) = laidD w5 y from rfl]
    have hB5 : Below w.heap.size w w5 := HB4.out.trans (hb5.mono HB4.out.size)
    have hA5 := (HA4.out.kept hb5).kept (laidD_below w5 y)
    have HX5 := Lib.hid ((HX4.out.kept hb5).kept (laidD_below w5 y))
    have HY5 := Lib.hid ((HY4.out.kept hb5).kept (laidD_below w5 y))
    have HZ5 := Lib.hid (laidD_row w5 y)
    have HB5 := Lib.hid (hB5.trans ((laidD_below w5 y).mono hB5.size))
    obtain ⟨gz, hgz⟩ : ∃ g, w5.heap.size = g := ⟨_, rfl⟩
    rw [hgz] at HZ5 ⊢
    clear hB5 hb5 HA4 HX4 HY4 HB4 hgz hst2 hst3
    generalize laidD w5 y = W5 at *
    have hl5 := hA5.loads hd
    have HA5 := Lib.hid hA5
    clear hA5
    rcases HCO.out with rfl | rfl
    · have HBK0 := Lib.hid (HBK.out rfl)
      clear HBK
      go_wp2_with (first
        | (go_at_call 33; (with_reducible refine (HRT.out _).mono ?_); rintro e w6 ⟨rfl, hb6⟩; have hl6 := (HA5.out.kept hb6).loads hd; have hlx := (HX5.out.kept hb6).loads hd; have hly := (HY5.out.kept hb6).loads hyl; have hlz := (HZ5.out.kept hb6).loads hyl)
        | (go_at_call 30; (with_reducible refine (HBK0.out _).mono ?_); rintro e w7 ⟨rfl, hb7⟩)
        | (go_at_call 23; (with_reducible refine (slives_c (HT.out.below (HB5.out.trans ((hb6.trans (hb7.mono hb6.size)).mono HB5.out.size)))).mono ?_); rintro e w8 ⟨rfl, hb8⟩))
      go_ret
      have h67 := hb6.trans (hb7.mono hb6.size)
      have h5 := HB5.out.trans (h67.mono HB5.out.size)
      exact ⟨rfl, h5.trans (hb8.mono h5.size)⟩
    · go_wp2_with (first
        | (go_at_call 33; (with_reducible refine (HRT.out _).mono ?_); rintro e w6 ⟨rfl, hb6⟩; have hl6 := (HA5.out.kept hb6).loads hd; have hlx := (HX5.out.kept hb6).loads hd; have hly := (HY5.out.kept hb6).loads hyl; have hlz := (HZ5.out.kept hb6).loads hyl)
        | (go_at_call 23; (with_reducible refine (slives_c (HT.out.below (HB5.out.trans (hb6.mono HB5.out.size)))).mono ?_); rintro e w8 ⟨rfl, hb8⟩))
      go_ret
      have h5 := HB5.out.trans (hb6.mono HB5.out.size)
      exact ⟨rfl, h5.trans (hb8.mono h5.size)⟩
end Go.Proofs.YticcmhgahbnboaaDoor
