/-
  Cell: the laws' lives.
-/
import Derived.Test.YtkhihfpdghjfmaaDoorKB
import Derived.Test.YtkhihfpdghjfmaaDoorKD
namespace Go.Proofs.YtkhihfpdghjfmaaDoor
open Go.RowKit Go Go.Sort
set_option linter.unusedVariables false
set_option maxRecDepth 20000

def cxB : List UInt8 := [1, 13, 0, 1, 1, 120]
theorem cx_of : cofS 1 6 2 0 1 false [120] = (⟨6, 2, 0, 1, false, [120], 0, 0⟩, 0) := by unfold cofS; rw [if_pos (by decide +kernel), if_neg (by decide), if_neg (by decide)]
theorem cx_seen : cseenS 1 6 2 0 1 false [120] 0 0 = ([120], true) := by decide +kernel
theorem cx_put : cputS [] 1 ⟨6, 2, 0, 1, false, [120], 0, 0⟩ = cxB := by decide +kernel
theorem none_bys (W : World) : Bys W none 0 0 [] := ⟨rfl, Nat.le_refl _, by omega, .inl rfl⟩

set_option maxHeartbeats 3200000 in
theorem clives_c {w : World} (hT : TabW w) : Calls Tryd.prog 35 #[] w (Tells (.bool true) w) := by
  have hT3 : text [120] = ⟨#[120]⟩ := rfl
  have hp : Calls Tryd.prog 36 #[.int .i64 1, .agg #[.int .i64 6, .int .i64 2], .agg #[.int .i64 0, .int .i64 1], .bool false, .string ⟨#[120]⟩] w (Tells (.tuple #[.agg #[.int .i64 6, .int .i64 2, .int .i64 0, .int .i64 1, .bool false, .string ⟨#[120]⟩, .int .i64 0, .int .i64 0], .int .i64 0]) w) := by
    have := cof_c 1 6 2 0 1 false [120] (by decide) w
    rw [cx_of] at this
    exact this
  have hs : ∀ W, Calls Tryd.prog 29 #[.int .i64 1, .agg #[.int .i64 6, .int .i64 2, .int .i64 0, .int .i64 1, .bool false, .string ⟨#[120]⟩, .int .i64 0, .int .i64 0]] W (Tells (.tuple #[.string ⟨#[120]⟩, .bool true]) W) := by
    intro W
    have := cseen_c 1 6 2 0 1 false [120] 0 0 (by decide) W
    rw [cx_seen] at this
    exact this
  have he : ∀ W, Below w.heap.size w W → Calls Tryd.prog 40 #[.slice none 0 0, .int .i64 1, .agg #[.int .i64 6, .int .i64 2, .int .i64 0, .int .i64 1, .bool false, .string ⟨#[120]⟩, .int .i64 0, .int .i64 0]] W (BytesPost cxB W) := by
    intro W hW
    have := cput_c (none_bys W) (by omega) (hT.below hW) 1 6 2 0 1 false [120] 0 0 (by decide)
    rw [cx_put] at this
    exact this
  have hc := fun (W : World) (a : Option Addr) (c : Nat) (h : Bys W a 6 c cxB) => conv_bys (P := Tryd.prog) (src := 34) (dst := 9) (e := 5) h Tryd.underlying34 Tryd.underlying5 Tryd.underlying9
  have hcm : ((text cxB).toList == [1, 13, 0, 1, 1, 120]) = true := by rw [text_toList]; rfl
  have HP := Lib.hid hp
  have HS := Lib.hid hs
  have HE := Lib.hid he
  have HC := Lib.hid hc
  clear hp hs he hc hT hT3
  go_enter Tryd.func35, Tryd.ntmps35
  go_upto_region 2 with (go_at_call 36; (with_reducible refine HP.out.mono ?_); rintro e9 w1 ⟨rfl, hb1⟩)
  have HB := Lib.hid (hb1.alloc hb1.size (.cells #[.int .i64 6, .int .i64 2, .int .i64 0, .int .i64 1, .bool false, .string ⟨#[120]⟩, .int .i64 0, .int .i64 0] 61))
  have hce : Cel (w1.alloc (.cells #[.int .i64 6, .int .i64 2, .int .i64 0, .int .i64 1, .bool false, .string ⟨#[120]⟩, .int .i64 0, .int .i64 0] 61)) w1.heap.size 6 2 0 1 false [120] 0 0 := Cel.new w1 6 2 0 1 false [120] 0 0
  obtain ⟨gc, hgc⟩ : ∃ q, w1.heap.size = q := ⟨_, rfl⟩
  rw [hgc] at hce ⊢
  clear hgc hb1 HP
  generalize w1.alloc (.cells #[.int .i64 6, .int .i64 2, .int .i64 0, .int .i64 1, .bool false, .string ⟨#[120]⟩, .int .i64 0, .int .i64 0] 61) = W1 at *
  have HCW := Lib.hid (fun W (h : Below W1.heap.size W1 W) => (hce.kept h).cs)
  have hcur := Below.refl W1.heap.size W1
  obtain ⟨c0, c1, c2, c3, c4, c5, c6, c7⟩ := HCW.out _ hcur
  have hT3 : text [120] = ⟨#[120]⟩ := rfl
  rw [hT3] at c5
  clear hce hT3
  go_upto_region 3 with (go_at_call 29; (with_reducible refine (HS.out _).mono ?_); rintro e9 w9 ⟨rfl, hb9⟩)
  replace hcur := hcur.trans (hb9.mono hcur.size)
  obtain ⟨c0, c1, c2, c3, c4, c5, c6, c7⟩ := HCW.out _ hcur
  have hT3 : text [120] = ⟨#[120]⟩ := rfl
  rw [hT3] at c5
  clear hb9 hT3
  go_wp2_with (go_at_call 40; (with_reducible refine (HE.out _ (HB.out.trans (hcur.mono HB.out.size))).mono ?_); rintro e9 w9 ⟨v9, rfl, ho9, hb9⟩; (replace hcur := hcur.trans (hb9.mono hcur.size)); clear hb9; obtain ⟨a2, c2, rfl, hy⟩ := ho9.bys; have h6 : cxB.length = 6 := rfl; rw [h6] at hy ⊢; have hcv := HC.out _ _ _ hy; clear ho9 hy h6)
  go_ret
  exact ⟨rfl, HB.out.trans (hcur.mono HB.out.size)⟩
end Go.Proofs.YtkhihfpdghjfmaaDoor
