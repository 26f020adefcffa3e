/-
  Merged: MR U9.
-/
import Derived.Test.YtkjpmdpljdgcjaaDoorR3
import Derived.Test.YtkjpmdpljdgcjaaDoorR2

section
/-
  Row: the reference's Empty and New.
-/
namespace Go.Proofs.YtkjpmdpljdgcjaaDoor
open Go.RowKit Go Go.Sort
set_option linter.unusedVariables false
set_option maxRecDepth 20000

theorem own_ne {W : World} {q B s k : Nat} {e t : TypeId} {cs : Array Value} {fr : Nat × Nat} {v : Value} {xs : List Value} (h : W.heap[q]? = some (.cells cs t fr)) (ht : t ≠ e) (ho : W.ownsRow B e s v k xs) : some q ≠ v.ownBlock := by
  rcases ho.2 with ⟨rfl, _⟩ | ⟨g, cap, cur, rfl, _, hgb, _⟩
  · simp [Value.ownBlock]
  · intro e'
    obtain rfl : q = g := by simpa [Value.ownBlock] using e'
    rw [h] at hgb; cases hgb; exact ht rfl
theorem heap_grown {W W' : World} {q : Nat} {o : Obj} {r : Option Nat} (h : W.heap[q]? = some o) (hg : W.grownBy W' r) (hr : some q ≠ r) : W'.heap[q]? = some o :=
  (hg.block q (Array.getElem?_eq_some_iff.1 h).1 (fun e => hr e)).trans h
theorem zerosC_succ (n : Nat) : zerosC (n + 1) = zerosC n ++ [⟨0, 0, 0, 0, false, [], 0, 0⟩] := List.replicate_succ' ..

set_option maxRecDepth 100000 in
set_option maxHeartbeats 3200000 in
theorem rempty_c {w : World} {x : Option Addr} {n1 cap : Nat} (hle : n1 ≤ cap) (hmax : cap ≤ 9223372036854775807) (hn : n1 ≤ 1000000) (key : ByteArray) :
    Calls Tryd.prog 37 #[.slice x n1 cap, .string key] w (fun e w' => ∃ v, e = .returned (.agg #[.string key, v]) ∧ OwnC w' w.heap.size v (zerosC n1) ∧ Below w.heap.size w w') := by
  have hb := (alloc_below w (.cells #[.string ⟨#[]⟩, .slice none 0 0] 25)).alloc (by simp) (.cells #[.string key, .slice none 0 0] 25)
  have hr0 : ((w.alloc (.cells #[.string ⟨#[]⟩, .slice none 0 0] 25)).alloc (.cells #[.string key, .slice none 0 0] 25)).heap[w.heap.size]? = some (.cells #[.string ⟨#[]⟩, .slice none 0 0] 25 (0, 0)) := (Below.heap_alloc _ _ _ (by simp)).trans (heap_alloc_new w _)
  have hr1 := heap_alloc_new (w.alloc (.cells #[.string ⟨#[]⟩, .slice none 0 0] 25)) (.cells #[.string key, .slice none 0 0] 25)
  rw [World.size_alloc] at hr1
  go_enter Tryd.func37, Tryd.ntmps37
  go_upto_region 2 with (fail)
  obtain ⟨B, hB⟩ : ∃ q, w.heap.size = q := ⟨_, rfl⟩
  have HBe := Lib.hid hB
  rw [hB] at hr0 hr1 ⊢
  clear hB
  generalize (w.alloc (.cells #[.string ⟨#[]⟩, .slice none 0 0] 25)).alloc (.cells #[.string key, .slice none 0 0] 25) = W1 at *
  have HR0 := Lib.hid hr0
  have HR1 := Lib.hid hr1
  have HB1 := Lib.hid hb
  clear hr0 hr1 hb
  go_wp2
  go_loopw [6] (fun i wr => ∃ k v, k ≤ n1 ∧ i = .int .i64 ((k : Nat) : Int) ∧ OwnC wr w.heap.size v (zerosC k) ∧ Below w.heap.size w wr ∧ wr.heap[B]? = some (.cells #[.string ⟨#[]⟩, .slice none 0 0] 25 (0, 0)) ∧ wr.heap[B + 1]? = some (.cells #[.string key, v] 25 (0, 0))) (fun i _ => n1 - (intOf i).toNat)
  case atStart => exact ⟨0, .slice none 0 0, by omega, rfl, OwnC.nil _ _, HB1.out, HR0.out, HR1.out⟩
  case round =>
    clear HB1 HR1 HR0
    obtain ⟨i, v, hk, rfl, ho, hB, hr0, hr1⟩ := hrel
    obtain ⟨a9, c9, rfl, -⟩ := ho.cls
    obtain ⟨q0, q1, qf⟩ := row_cells hr1
    have HO := Lib.hid ho
    have HB := Lib.hid hB
    have HR0 := Lib.hid hr0
    have HR1 := Lib.hid hr1
    have hzl : (zerosC i).length = i := by simp [zerosC]
    rw [hzl] at HO HR1 q1
    clear ho hB hr0 hr1
    by_cases hlt : i < n1
    · have hki : (i : Int) < (n1 : Int) := by omega
      have hbs := HB.out.size
      go_wp2_with (at_builtin; refine wpList_append_cell rfl _ _ rfl (v := .slice a9 i c9) rfl HO.out 0 0 0 0 false [] 0 0 rfl (by rw [hzl]; omega) hbs ?_; intro v' w' ho' hg'; rw [← zerosC_succ] at ho'; obtain ⟨a8, c8, rfl, -⟩ := ho'.cls; have hr1' := heap_grown ((Below.heap_alloc wr (.cells #[.int .i64 0, .int .i64 0, .int .i64 0, .int .i64 0, .bool false, .string ⟨#[]⟩, .int .i64 0, .int .i64 0] 50) (B + 1) (Array.getElem?_eq_some_iff.1 HR1.out).1).trans HR1.out) hg' (own_ne HR1.out (by decide) HO.out); obtain ⟨s0, s1, sf⟩ := row_cells hr1')
      have hbw := ((HB.out.alloc hbs (.cells #[.int .i64 0, .int .i64 0, .int .i64 0, .int .i64 0, .bool false, .string (text []), .int .i64 0, .int .i64 0] 50)).grown hg' (by simp; omega) (fun k e => (HO.out.lt k e).1))
      have hr0' := heap_grown ((Below.heap_alloc wr (.cells #[.int .i64 0, .int .i64 0, .int .i64 0, .int .i64 0, .bool false, .string (text []), .int .i64 0, .int .i64 0] 50) B (Array.getElem?_eq_some_iff.1 HR0.out).1).trans HR0.out) hg' (own_ne HR0.out (by decide) HO.out)
      refine ⟨⟨i + 1, _, by omega, by go_num, own_set hr1' (by decide) ho', hbw.setCell (p := ⟨B + 1, 1, none⟩) (by have := HBe.out; simp; omega) _, (Below.heap_setCell _ ⟨B + 1, 1, none⟩ _ B (by simp)).trans hr0', (heap_setCell_same _ (B + 1) 1 _ _ _ hr1').trans rfl⟩, ?_⟩
      simp [intOf]; omega
    · obtain rfl : i = n1 := by omega
      obtain ⟨z0, z1, zf⟩ := row_cells HR0.out
      have HS := Lib.hid (row_set HR0.out key (.slice a9 i c9))
      go_wp2
      refine bodyPost_ret (results_cell_row rfl _ _ B 25 _ (0, 0) _ rfl HS.out Tryd.underlying25 rfl (by kernel_rfl)) rfl ⟨_, rfl, ?_, (HB.out.setCell (p := ⟨B, 0, none⟩) (by have := HBe.out; simp; omega) _).setCell (p := ⟨B, 1, none⟩) (by have := HBe.out; simp; omega) _⟩
      exact own_set (i := 1) (show (wr.setCell ⟨B, 0, none⟩ (.string key)).heap[B]? = _ from (heap_setCell_same _ _ 0 _ _ _ HR0.out).trans rfl) (by decide) (own_set (i := 0) HR0.out (by decide) HO.out)

theorem cg_zero {p : Int} (h : p = 1 ∨ p = 2) : Cl.zero.good p = true := by rcases h with rfl | rfl <;> decide +kernel
theorem new_yes {gs : List Grp} {key : List UInt8} (h : pgoodS gs = 0) (h2 : keyS key = 0) : rnewS gs key = (key, zerosC gs.length, 0) := by
  have hm : min gs.length 4 = gs.length := by have := pgood_len h; omega
  have hR : rgoodS gs key (zerosC gs.length) = 0 := rgood_yes h h2 (by simp [zerosC]) fun j hj => by
    unfold cgAt
    have e : (zerosC gs.length).getD j Cl.zero = Cl.zero := by simp [zerosC, hj]
    rw [e]
    exact cg_zero (pgood_pol h j hj)
  unfold rnewS
  rw [hm, if_pos hR]
theorem new_pol {gs : List Grp} {key : List UInt8} (h : ¬ pgoodS gs = 0) : rnewS gs key = ([], [], pgoodS gs) := by
  unfold rnewS; rw [rgood_pol h, if_neg h]
theorem new_key {gs : List Grp} {key : List UInt8} (h : pgoodS gs = 0) (h2 : ¬ keyS key = 0) : rnewS gs key = ([], [], keyS key) := by
  unfold rnewS; rw [rgood_key h h2, if_neg h2]

set_option maxRecDepth 100000 in
set_option maxHeartbeats 3200000 in
theorem rrownew_c {w : World} {x : Option Addr} {n1 cap : Nat} {gs : List Grp} (hg : Grs w x n1 cap gs) (hs : ∀ g ∈ gs, g.1.length ≤ 9223372036854775807) (key : List UInt8) (hk : key.length ≤ 9223372036854775807) :
    Calls Tryd.prog 11 #[.slice x n1 cap, .string (text key)] w (RowPost (rnewS gs key) w) := by
  have hgl := hg.len
  have hle := hg.le
  have hmax := hg.max
  have hPG := fun W (h : Below w.heap.size w W) => rpgood_c (hg.below h) hs
  have hKY := fun W => rkey_c key hk W
  have HY := Lib.hid (@new_yes gs key)
  have HP := Lib.hid (@new_pol gs key)
  have HK := Lib.hid (@new_key gs key)
  have HN4 := Lib.hid (@pgood_len gs)
  obtain ⟨P0, hP⟩ : ∃ z, pgoodS gs = z := ⟨_, rfl⟩
  obtain ⟨K0, hK⟩ : ∃ z, keyS key = z := ⟨_, rfl⟩
  obtain ⟨RV, hRV⟩ : ∃ z, rnewS gs key = z := ⟨_, rfl⟩
  obtain ⟨tk, htk⟩ : ∃ z, text key = z := ⟨_, rfl⟩
  rw [hP] at HY HP HK HN4
  rw [hK] at HY HK
  rw [hRV, hgl] at HY
  rw [hRV] at HP HK ⊢
  rw [hgl] at HN4
  simp only [hP] at hPG
  simp only [hK, htk] at hKY
  rw [htk]
  have HTK := Lib.hid htk
  have HPG := Lib.hid hPG
  have HKY := Lib.hid hKY
  have hb := alloc_below w (.cells #[.string ⟨#[]⟩, .slice none 0 0] 25)
  have hr := heap_alloc_new w (.cells #[.string ⟨#[]⟩, .slice none 0 0] 25)
  clear hP hK hRV hPG hKY htk hg
  go_enter Tryd.func11, Tryd.ntmps11
  go_upto_region 1 with (fail)
  obtain ⟨B, hB⟩ : ∃ q, w.heap.size = q := ⟨_, rfl⟩
  have HBe := Lib.hid hB
  rw [hB] at hr ⊢
  clear hB
  generalize w.alloc (.cells #[.string ⟨#[]⟩, .slice none 0 0] 25) = W1 at *
  have HR1 := Lib.hid hr
  have HB1 := Lib.hid hb
  clear hr hb
  go_upto_region 2 with (go_at_call 35; (with_reducible refine (HPG.out _ HB1.out).mono ?_); rintro e9 w2 ⟨rfl, hb2⟩)
  have HR2 := Lib.hid ((hb2.block _ (Array.getElem?_eq_some_iff.1 HR1.out).1).trans HR1.out)
  have HB2 := Lib.hid (HB1.out.trans (hb2.mono HB1.out.size))
  clear hb2 HR1 HB1 HPG
  have hbad : ∀ (f : Int), RV = ([], [], f) → RowPost RV w (.returned (.tuple #[.agg #[.string ⟨#[]⟩, .slice none 0 0], .int .i64 f])) ((w2.setCell ⟨B, 0, none⟩ (.string ⟨#[]⟩)).setCell ⟨B, 1, none⟩ (.slice none 0 0)) := fun f h => by
    rw [h]
    exact ⟨_, rfl, OwnC.nil _ _, (HB2.out.setCell (p := ⟨B, 0, none⟩) (by have := HBe.out; simp; omega) _).setCell (p := ⟨B, 1, none⟩) (by have := HBe.out; simp; omega) _⟩
  have HBAD := Lib.hid hbad
  have HSB := Lib.hid (row_set HR2.out ⟨#[]⟩ (.slice none 0 0))
  clear hbad
  by_cases h0 : P0 = 0
  · subst h0
    by_cases h1 : K0 = 0
    · subst h1
      have HRR := Lib.hid (HY.out (by first | rfl | trivial) (by first | rfl | trivial))
      have hn4 := HN4.out (by first | rfl | trivial)
      clear HY HP HK HN4 HBAD HSB
      go_upto_region 7 with (go_at_call 36; (with_reducible refine (HKY.out _).mono ?_); rintro e9 w9 ⟨rfl, rfl⟩)
      go_wp2_with (go_at_call 37; (with_reducible refine (rempty_c hle hmax (by omega) tk).mono ?_); rintro e9 w3 ⟨v3, rfl, ho3, hb3⟩; obtain ⟨a3, c3, rfl, -⟩ := ho3.cls; have HO3 := Lib.hid ho3; have HB3 := Lib.hid hb3; have hr3 := (hb3.block _ (Array.getElem?_eq_some_iff.1 HR2.out).1).trans HR2.out; clear ho3 hb3; obtain ⟨z0, z1, zf⟩ := row_cells hr3; have HR3 := Lib.hid hr3; clear hr3)
      refine bodyPost_ret (res_cell_tmp rfl _ _ B 25 _ (0, 0) _ (.int .i64 0) rfl rfl (row_set HR3.out tk (.slice a3 (zerosC n1).length c3)) Tryd.underlying25 rfl (by kernel_rfl)) rfl ?_
      rw [HRR.out]
      have hb4 := HB2.out.trans (HB3.out.mono HB2.out.size)
      refine ⟨_, by rw [HTK.out], ?_, (hb4.setCell (p := ⟨B, 0, none⟩) (by have := HBe.out; simp; omega) _).setCell (p := ⟨B, 1, none⟩) (by have := HBe.out; simp; omega) _⟩
      exact own_set (i := 1) (show (w3.setCell ⟨B, 0, none⟩ (.string tk)).heap[B]? = _ from (heap_setCell_same _ _ 0 _ _ _ HR3.out).trans rfl) (by decide) (own_set (i := 0) HR3.out (by decide) (HO3.out.mono HB2.out.size))
    · have h1n : (K0 != 0) = true := by simpa using h1
      have HRR := Lib.hid (HK.out (by first | rfl | trivial) h1)
      obtain ⟨z0, z1, zf⟩ := row_cells HR2.out
      clear h1
      go_wp2_with (go_at_call 36; (with_reducible refine (HKY.out _).mono ?_); rintro e9 w9 ⟨rfl, rfl⟩)
      exact bodyPost_ret (res_cell_tmp rfl _ _ B 25 _ (0, 0) _ (.int .i64 K0) rfl rfl HSB.out Tryd.underlying25 rfl (by kernel_rfl)) rfl (HBAD.out _ HRR.out)
  · have h0n : (P0 != 0) = true := by simpa using h0
    have HRR := Lib.hid (HP.out h0)
    obtain ⟨z0, z1, zf⟩ := row_cells HR2.out
    clear h0
    go_wp2
    exact bodyPost_ret (res_cell_tmp rfl _ _ B 25 _ (0, 0) _ (.int .i64 P0) rfl rfl HSB.out Tryd.underlying25 rfl (by kernel_rfl)) rfl (HBAD.out _ HRR.out)
end Go.Proofs.YtkjpmdpljdgcjaaDoor
end

section
/-
  Row: what law walks want of rows.
-/
namespace Go.Proofs.YtkjpmdpljdgcjaaDoor
open Go.RowKit Go Go.Sort
set_option linter.unusedVariables false
set_option maxRecDepth 20000

theorem heap_below {W W' : World} {q : Nat} {o : Obj} (h : W.heap[q]? = some o) (hb : Below W.heap.size W W') : W'.heap[q]? = some o := (hb.block _ (Array.getElem?_eq_some_iff.1 h).1).trans h
theorem rowsAt_one {W : World} {q : Nat} {key : List UInt8} {tk : ByteArray} {a : Option Addr} {m c : Nat} {cs : List Cl} {t : TypeId} (h : W.heap[q]? = some (.cells #[.string tk, .slice a m c] t (0, 0))) (ht : text key = tk) (hl : Cls W a m c cs) : RowsAt W q [(key, cs)] := by
  intro i hi
  obtain rfl : i = 0 := by simpa using hi
  subst ht
  exact ⟨a, m, c, (cell_of_row W q 0 _ _ (0, 0) h).trans rfl, (cell_of_row W q 1 _ _ (0, 0) h).trans rfl, hl⟩
/-- New and View, as a law's walk wants them. -/
theorem RowPost.cells {r : List UInt8 × List Cl × Int} {w : World} {e : Ending} {w' : World} (h : RowPost r w e w') : ∃ a c, e = .returned (.tuple #[.agg #[.string (text r.1), .slice a r.2.1.length c], .int .i64 r.2.2]) ∧ Cls w' a r.2.1.length c r.2.1 ∧ Below w.heap.size w w' := by
  obtain ⟨v, rfl, ho, hb⟩ := h
  obtain ⟨a, c, rfl, hc⟩ := ho.cls
  exact ⟨a, c, rfl, hc, hb⟩
end Go.Proofs.YtkjpmdpljdgcjaaDoor
end

