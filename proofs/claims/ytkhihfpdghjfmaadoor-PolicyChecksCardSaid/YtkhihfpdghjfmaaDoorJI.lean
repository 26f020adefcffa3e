/-
  Policy: the laws' lives, PolicyChecks.
-/
import Derived.Test.YtkhihfpdghjfmaaDoorJH
namespace Go.Proofs.YtkhihfpdghjfmaaDoor
open Go.RowKit Go Go.Sort
set_option linter.unusedVariables false
set_option maxRecDepth 20000

def exT : List UInt8 := [110, 97, 109, 101, 61, 108, 97, 115, 116, 44, 116, 97, 103, 115, 61, 100, 101, 108, 101, 116, 101]
def exL : List Grp := [([110, 97, 109, 101], 1), ([116, 97, 103, 115], 2)]
def exB : List UInt8 := [2, 4, 110, 97, 109, 101, 1, 4, 116, 97, 103, 115, 2]
theorem ex_parse : pparseS exT = (exL, 0) := by decide +kernel
theorem ex_good : pgoodS exL = 0 := by decide +kernel
theorem ex_bytes : pbytesS exL = exB := by decide +kernel

set_option maxHeartbeats 1600000 in
theorem plives_c {w : World} (hT : TabW w) : Calls Tryd.prog 13 #[] w (Tells (.bool true) w) := by
  have hp := pparse_c exT (by decide) w
  rw [ex_parse] at hp
  have he := fun (W : World) (a : Option Addr) (c : Nat) (h : Grs W a 2 c exL) (hT : TabW W) => pencode_c h (by decide) hT
  rw [ex_good, if_pos rfl, ex_bytes] at he
  have hc := fun (W : World) (a : Option Addr) (c : Nat) (h : Bys W a 13 c exB) => conv_bys (P := Tryd.prog) (src := 34) (dst := 9) (e := 5) h Tryd.underlying34 Tryd.underlying5 Tryd.underlying9
  have hEG := grp_eqg
  have hEB := grp_eqb [116, 97, 103, 115] [116, 97, 103, 115] 2 2 true (by decide)
  have hT1 : text exT = ⟨#[110, 97, 109, 101, 61, 108, 97, 115, 116, 44, 116, 97, 103, 115, 61, 100, 101, 108, 101, 116, 101]⟩ := rfl
  have hT2 : text exB = ⟨#[2, 4, 110, 97, 109, 101, 1, 4, 116, 97, 103, 115, 2]⟩ := rfl
  have hcm : ((text exB).toList == [2, 4, 110, 97, 109, 101, 1, 4, 116, 97, 103, 115, 2]) = true := by rw [text_list]; rfl
  have hT3 : text [116, 97, 103, 115] = ⟨#[116, 97, 103, 115]⟩ := rfl
  rw [hT1] at hp
  rw [hT3] at hEB
  have HP := Lib.hid hp
  have HE := Lib.hid he
  have HC := Lib.hid hc
  have HT := Lib.hid hT
  obtain ⟨X, hX⟩ : ∃ X, exL = X := ⟨_, rfl⟩
  have HX := Lib.hid hX
  rw [hX] at HP HE
  have hXl : X.length = 2 := by rw [← hX]; rfl
  have HXL := Lib.hid hXl
  clear hp he hc hT hT1 hT2 hT3 hX hXl
  go_enter Tryd.func13, Tryd.ntmps13
  go_upto_region 2 with (go_at_call 27; (with_reducible refine HP.out.mono ?_); rintro e w1 ⟨v, rfl, ho, hb1⟩)
  obtain ⟨a1, c1, rfl, hg⟩ := ho.grs
  have hmx := hg.max
  have hle := hg.le
  rw [HXL.out] at hg hle ⊢
  have HG := Lib.hid hg
  have HB1 := Lib.hid hb1
  have HT1 := Lib.hid (HT.out.below hb1)
  clear ho hb1 hg HT HP
  go_upto_region 3 with (go_at_call 20; (with_reducible refine (HE.out _ _ _ HG.out HT1.out).mono ?_); rintro e w2 ⟨v, rfl, ho, hb2⟩)
  obtain ⟨a2, c2, rfl, hy⟩ := ho.bys
  have h13 : exB.length = 13 := rfl
  rw [h13] at hy ⊢
  have hcv := HC.out _ _ _ hy
  have HB2 := Lib.hid (HB1.out.trans (hb2.mono HB1.out.size))
  obtain ⟨b, off, rfl, hat⟩ := (HG.out.below hb2).at (show 1 < 2 by omega)
  obtain ⟨q0, q1⟩ := hat w2 (Below.refl _ _)
  rw [← HX.out] at q0 q1
  simp only [exL, List.getD_cons_succ, List.getD_cons_zero] at q0 q1
  have hT3 : text [116, 97, 103, 115] = ⟨#[116, 97, 103, 115]⟩ := rfl
  rw [hT3] at q0
  have hcl : (2 : Int) ≤ (c1 : Int) := by omega
  clear ho hb2 hy hat h13 hT3 HG HX HXL HC HE HT1 HB1
  go_wp2
  go_ret
  exact ⟨rfl, HB2.out⟩
end Go.Proofs.YtkhihfpdghjfmaaDoor
