/-
  Vec: the example, and more of the laws' walks over contracts.
-/
import Derived.Test.YtjlolljlhoclhaaV5
namespace Go.Proofs.Ytjlolljlhoclhaa
open Go.RowKit Go Go.Sort
set_option linter.unusedVariables false

theorem prs2 (W : World) (a b c d : Int) : Prs (W.alloc (.cells #[.int .i64 a, .int .i64 b, .int .i64 c, .int .i64 d] 23)) (some ⟨W.heap.size, 0, none⟩) 2 2 [(a, b), (c, d)] := by
  have h : (W.alloc (.cells #[.int .i64 a, .int .i64 b, .int .i64 c, .int .i64 d] 23)).heap[W.heap.size]? = some (.cells #[.int .i64 a, .int .i64 b, .int .i64 c, .int .i64 d] 23 (0, 0)) := heap_alloc_new W _
  refine ⟨rfl, Nat.le_refl _, by omega, .inr ⟨W.heap.size, 0, rfl, fun i hi => ?_⟩⟩
  rcases (by omega : i = 0 ∨ i = 1) with rfl | rfl
  · exact ⟨by rw [cell_of_row _ _ _ _ _ _ h]; rfl, by rw [cell_of_row _ _ _ _ _ _ h]; rfl⟩
  · exact ⟨by rw [cell_of_row _ _ _ _ _ _ h]; rfl, by rw [cell_of_row _ _ _ _ _ _ h]; rfl⟩

set_option maxRecDepth 100000 in
set_option maxHeartbeats 1600000 in
theorem vlives_c (K : VecOk) (w : World) : Calls Try.prog 16 #[] w (Tells (.bool true) w) := by
  have hEQ := vec_eql
  have hEG := vec_eqg
  have HC := Lib.hid (K.cmp 1 2 2 1)
  have hj := fun W => K.join (prs2 W 1 2 2 1)
  simp only [show joinS [((1 : Int), (2 : Int)), (2, 1)] = (2, 2) by decide] at hj
  have HJ := Lib.hid hj
  clear hj
  go_enter Try.func16, Try.ntmps16
  go_wp2_with (first
    | (go_at_call 12; (with_reducible refine (HC.out _).mono ?_); rintro e w1 ⟨rfl, hb1⟩)
    | (go_at_call 17; (with_reducible refine (HJ.out _).mono ?_); rintro e w2 ⟨rfl, hb2⟩))
  go_ret
  have h1 := hb1.trans ((alloc_below w1 (.cells #[.int .i64 1, .int .i64 2, .int .i64 2, .int .i64 1] 23)).mono hb1.size)
  exact ⟨rfl, h1.trans (hb2.mono h1.size)⟩

set_option maxRecDepth 100000 in
set_option maxHeartbeats 1600000 in
theorem vjoins_walk (K : VecOk) {a : Option Addr} {n cap : Nat} {l : List (Int × Int)} {w : World} (hl : Prs w a n cap l) : Calls Try.prog 4 #[.slice a n cap] w (Tells (.bool true) w) := by
  have hEQ := vec_eql
  have hEG := vec_eqg
  have HJ := Lib.hid (fun W (h : Below w.heap.size w W) => K.join (hl.below h))
  have HR := Lib.hid (fun W (h : Below w.heap.size w W) => rvjoin_c (hl.below h))
  have hnm := hl.max
  have hnl := hl.le
  obtain ⟨⟨x, y⟩, hx⟩ : ∃ q, joinS l = q := ⟨_, rfl⟩
  simp only [hx] at HJ HR
  have HL := Lib.hid (vlives_c K)
  clear hl hx
  by_cases hn : 1000 < n
  · have hd : decide ((1000 : Int) < (n : Int)) = true := by simp; omega
    go_enter Try.func4, Try.ntmps4
    go_wp2_with (go_at_call 16; (with_reducible refine (HL.out _).mono ?_); rintro e w1 ⟨rfl, hb1⟩)
    go_ret
    exact ⟨rfl, hb1⟩
  · have hd : decide ((1000 : Int) < (n : Int)) = false := by simp; omega
    go_enter Try.func4, Try.ntmps4
    go_wp2_with (first
      | (go_at_call 17; (with_reducible refine (HJ.out _ (Below.refl _ _)).mono ?_); rintro e w1 ⟨rfl, hb1⟩)
      | (go_at_call 18; (with_reducible refine (HR.out _ hb1).mono ?_); rintro e w2 ⟨rfl, hb2⟩)
      | (go_at_call 16; (with_reducible refine (HL.out _).mono ?_); rintro e w3 ⟨rfl, hb3⟩))
    go_ret
    have h2 := hb1.trans (hb2.mono hb1.size)
    exact ⟨rfl, h2.trans (hb3.mono h2.size)⟩

set_option maxRecDepth 100000 in
set_option maxHeartbeats 3200000 in
theorem vnexts_walk (K : VecOk) (a b site seq : Int) {w : World} : Calls Try.prog 5 #[.agg #[.int .i64 a, .int .i64 b], .int .i64 site, .int .i64 seq] w (Tells (.bool true) w) := by
  have hp := Pair.new w 23 a b
  have hb := alloc_below w (.cells #[.int .i64 a, .int .i64 b] 23)
  have hEQ := vec_eql
  have hEG := vec_eqg
  have N1 := K.next a b site
  have N2 := rvnext_c a b site
  obtain ⟨⟨⟨x, y⟩, f⟩, hx⟩ : ∃ q, vnext a b site = q := ⟨_, rfl⟩
  simp only [hx] at N1 N2
  have H1 := fun (w : World) => tells_grown (w := w) (K.has a b site seq)
  have H2 := fun (w : World) => tells_grown (w := w) (rvhas_c a b site seq)
  have L1 := fun (w : World) => tells_grown (w := w) (vlives_c K)
  obtain ⟨g, hg⟩ : ∃ q, vhas a b site seq = q := ⟨_, rfl⟩
  simp only [hg] at H1 H2
  have HN1 := Lib.hid N1
  have HN2 := Lib.hid N2
  have HH1 := Lib.hid H1
  have HH2 := Lib.hid H2
  have HL1 := Lib.hid L1
  have HP := Lib.hid hp
  have HB := Lib.hid hb
  clear N1 N2 H1 H2 L1 hp hb hx hg
  go_enter Try.func5, Try.ntmps5
  go_upto_region 1 with (fail)
  generalize w.alloc (.cells #[.int .i64 a, .int .i64 b] 23) = W1 at *
  have a0 := HP.out.c0
  have a1 := HP.out.c1
  go_upto_region 2 with (go_at_call 19; (with_reducible refine (HN1.out _).mono ?_); rintro e w2 ⟨rfl, hb2⟩)
  have HP2 := Lib.hid ((HP.out.kept hb2).alloc (.cells #[.int .i64 x, .int .i64 y] 23))
  have HX2 := Lib.hid (Pair.new w2 23 x y)
  have HB2 := Lib.hid ((HB.out.trans (hb2.mono HB.out.size)).alloc (Nat.le_trans HB.out.size hb2.size) (.cells #[.int .i64 x, .int .i64 y] 23))
  obtain ⟨gx, hgx⟩ : ∃ g, w2.heap.size = g := ⟨_, rfl⟩
  rw [hgx] at HX2 ⊢
  clear a0 a1 hb2 hgx HP HB
  generalize w2.alloc (.cells #[.int .i64 x, .int .i64 y] 23) = W2 at *
  have a0 := HP2.out.c0
  have a1 := HP2.out.c1
  go_upto_region 3 with (go_at_call 20; (with_reducible refine (HN2.out _).mono ?_); rintro e w3 ⟨rfl, hb3⟩)
  have hP3 := (HP2.out.kept hb3).alloc (.cells #[.int .i64 x, .int .i64 y] 23)
  have hX3 := (HX2.out.kept hb3).alloc (.cells #[.int .i64 x, .int .i64 y] 23)
  have hY3 := Pair.new w3 23 x y
  have HB3 := Lib.hid ((HB2.out.trans (hb3.mono HB2.out.size)).alloc (Nat.le_trans HB2.out.size hb3.size) (.cells #[.int .i64 x, .int .i64 y] 23))
  obtain ⟨gy, hgy⟩ : ∃ g, w3.heap.size = g := ⟨_, rfl⟩
  rw [hgy] at hY3 ⊢
  clear a0 a1 hb3 hgy HP2 HX2 HB2
  generalize w3.alloc (.cells #[.int .i64 x, .int .i64 y] 23) = W3 at *
  have k0 := cell_regrown hP3.c0
  have k1 := cell_regrown hP3.c1
  have k2 := cell_regrown hX3.c0
  have k3 := cell_regrown hX3.c1
  have k4 := cell_regrown hY3.c0
  have k5 := cell_regrown hY3.c1
  clear hP3 hX3 hY3
  refine wp_region_quiet_below (by kernel_rfl) (by kernel_rfl) ?_
  repeat (go_big_quiet_step (first | with_reducible exact HH1.out _ _ _ | with_reducible exact HH2.out _ _ _ | with_reducible exact HL1.out _ _ _))
  refine wpQuiet_nil ?_
  intro _ hw'
  obtain ⟨⟨dq, osq⟩, hw''⟩ := hw'
  subst hw''
  have hB4 := below_regrown W3 dq osq
  go_wp2
  go_ret
  exact ⟨rfl, HB3.out.trans (hB4.mono HB3.out.size)⟩
end Go.Proofs.Ytjlolljlhoclhaa
