/-
  Stamp: the walk of StampTexts.
-/
import Derived.Test.YtjlolljlhoclhaaDoorWZ
namespace Go.Proofs.YtjlolljlhoclhaaDoor
open Go.RowKit Go Go.Sort
set_option linter.unusedVariables false

set_option maxRecDepth 100000 in
set_option maxHeartbeats 3200000 in
theorem stexts_walk (n s : Int) (l : List UInt8) {w : World} (hT : TabE w) (hmax : l.length ≤ 9223372036854775807) :
    Calls Tryd.prog 6 #[.agg #[.int .i64 n, .int .i64 s], .string (text l)] w (Tells (.bool true) w) := by
  have hp := Pair.new w 23 n s
  have hb := alloc_below w (.cells #[.int .i64 n, .int .i64 s] 23)
  have hEQ := stamp_eql
  have hEG := stamp_eqg
  have hs : (text l).size = l.length := by show l.toArray.size = _; simp
  have HLv := Lib.hid (slives_c stampOk)
  have HT := Lib.hid (hT.grown hb)
  have HP := Lib.hid hp
  have HB := Lib.hid hb
  clear hp hb hT
  by_cases h1 : 1000 < l.length
  · obtain ⟨S, hS⟩ : ∃ S, text l = S := ⟨_, rfl⟩
    rw [hS] at hs ⊢
    have hsz : (S.size : Int) = l.length := by omega
    obtain ⟨L, hL⟩ : ∃ L, l.length = L := ⟨_, rfl⟩
    rw [hL] at hsz h1
    have hgt : (1000 : Int) < (L : Int) := by omega
    clear hs hS
    go_enter Tryd.func6, Tryd.ntmps6
    go_wp2_with (go_at_call 10; (with_reducible refine (HLv.out _).mono ?_); rintro e w1 ⟨rfl, hb1⟩)
    go_ret
    exact ⟨rfl, HB.out.trans (hb1.mono HB.out.size)⟩
  · have N1 := fun {W : World} (hT : TabE W) => sread_c l (by omega) hT
    have N2 := rsread_c l
    rw [read_eq] at N2
    obtain ⟨⟨⟨x, y⟩, f⟩, hx⟩ : ∃ q, sreadS l = q := ⟨_, rfl⟩
    simp only [hx] at N1 N2
    have hq : (⟨l.toArray⟩ : ByteArray) = text l := rfl
    rw [hq] at N1
    obtain ⟨S, hS⟩ : ∃ S, text l = S := ⟨_, rfl⟩
    rw [hS] at hs N1 N2 ⊢
    have hsz : (S.size : Int) = l.length := by omega
    obtain ⟨L, hL⟩ : ∃ L, l.length = L := ⟨_, rfl⟩
    rw [hL] at hsz h1
    have hgt : ¬ (1000 : Int) < (L : Int) := by omega
    have X1 := fun {W : World} (hT : TabE W) => stext_c n s hT.i
    have X2 := rstext_c n s
    obtain ⟨X, hX⟩ : ∃ S : ByteArray, (⟨(stextS n s).toArray⟩ : ByteArray) = S := ⟨_, rfl⟩
    rw [hX] at X1 X2
    have HN1 := Lib.hid (fun (W : World) (hT : TabE W) => N1 hT)
    have HN2 := Lib.hid N2
    have HX1 := Lib.hid (fun (w : World) (hT : TabE w) => tells_grown_at (w := w) (fun d os => X1 (hT.grown (below_regrown w d os))))
    have HX2 := Lib.hid (fun (w : World) => tells_grown (w := w) X2)
    have HL1 := Lib.hid (fun (w : World) => tells_grown (w := w) (slives_c stampOk))
    clear hs hS N1 N2 X1 X2 hX hq hx HLv hmax
    go_enter Tryd.func6, Tryd.ntmps6
    go_upto_region 3 with (fail)
    generalize w.alloc (.cells #[.int .i64 n, .int .i64 s] 23) = W1 at *
    go_upto_region 4 with (go_at_call 23; (with_reducible refine (HN1.out _ HT.out).mono ?_); rintro e w2 ⟨rfl, hb2⟩)
    have HP2 := Lib.hid ((HP.out.kept hb2).alloc (.cells #[.int .i64 x, .int .i64 y] 23))
    have HX2b := Lib.hid (Pair.new w2 23 x y)
    have HB2 := Lib.hid ((HB.out.trans (hb2.mono HB.out.size)).alloc (Nat.le_trans HB.out.size hb2.size) (.cells #[.int .i64 x, .int .i64 y] 23))
    have HT2 := Lib.hid ((HT.out.grown hb2).grown (alloc_below w2 (.cells #[.int .i64 x, .int .i64 y] 23)))
    obtain ⟨gx, hgx⟩ : ∃ g, w2.heap.size = g := ⟨_, rfl⟩
    rw [hgx] at HX2b ⊢
    clear hb2 hgx HP HB HT
    generalize w2.alloc (.cells #[.int .i64 x, .int .i64 y] 23) = W2 at *
    go_upto_region 5 with (go_at_call 24; (with_reducible refine (HN2.out _).mono ?_); rintro e w3 ⟨rfl, hb3⟩)
    have hp3 := (HP2.out.kept hb3).alloc (.cells #[.int .i64 x, .int .i64 y] 23)
    have hx3 := (HX2b.out.kept hb3).alloc (.cells #[.int .i64 x, .int .i64 y] 23)
    have hy3 := Pair.new w3 23 x y
    have HB3 := Lib.hid ((HB2.out.trans (hb3.mono HB2.out.size)).alloc (Nat.le_trans HB2.out.size hb3.size) (.cells #[.int .i64 x, .int .i64 y] 23))
    have HT3 := Lib.hid ((HT2.out.grown hb3).grown (alloc_below w3 (.cells #[.int .i64 x, .int .i64 y] 23)))
    obtain ⟨gy, hgy⟩ : ∃ g, w3.heap.size = g := ⟨_, rfl⟩
    rw [hgy] at hy3 ⊢
    clear hb3 hgy HP2 HX2b HB2 HT2
    generalize w3.alloc (.cells #[.int .i64 x, .int .i64 y] 23) = W3 at *
    have k0 := cell_regrown hp3.c0
    have k1 := cell_regrown hp3.c1
    have k2 := cell_regrown hx3.c0
    have k3 := cell_regrown hx3.c1
    have k4 := cell_regrown hy3.c0
    have k5 := cell_regrown hy3.c1
    have HX1b := Lib.hid (HX1.out W3 HT3.out)
    clear hp3 hx3 hy3
    refine wp_region_quiet_below (by kernel_rfl) (by kernel_rfl) ?_
    repeat (go_big_quiet_step (first | with_reducible exact HX1b.out _ _ | with_reducible exact HX2.out _ _ _ | with_reducible exact HL1.out _ _ _))
    refine wpQuiet_nil ?_
    intro _ hw'
    obtain ⟨⟨dq, osq⟩, hw''⟩ := hw'
    subst hw''
    have hB4 := below_regrown W3 dq osq
    go_wp2
    go_ret
    exact ⟨rfl, HB3.out.trans (hB4.mono HB3.out.size)⟩
end Go.Proofs.YtjlolljlhoclhaaDoor
