/-
  Merged: MR MS MT MU.
-/
import Derived.Test.YtkjpmdpljdgcjaaDoorR3
import Derived.Test.YtkjpmdpljdgcjaaDoorR2
import Derived.Test.YtkjpmdpljdgcjaaDoorK2
import Derived.ChangeKeysEq

section
/-
  Row: the reference's Empty and New.
-/
namespace Go.Proofs.YtkjpmdpljdgcjaaDoor
open Go.RowKit Go Go.Sort
set_option linter.unusedVariables false
set_option maxRecDepth 20000

theorem own_ne {W : World} {q B s k : Nat} {e t : TypeId} {cs : Array Value} {fr : Nat × Nat} {v : Value} {xs : List Value} (h : W.heap[q]? = some (.cells cs t fr)) (ht : t ≠ e) (ho : W.ownsRow B e s v k xs) : some q ≠ v.ownBlock := by
  rcases ho.2 with ⟨rfl, _⟩ | ⟨g, cap, cur, rfl, _, hgb, _⟩
  · simp [Value.ownBlock]
  · intro e'
    obtain rfl : q = g := by simpa [Value.ownBlock] using e'
    rw [h] at hgb; cases hgb; exact ht rfl
theorem heap_grown {W W' : World} {q : Nat} {o : Obj} {r : Option Nat} (h : W.heap[q]? = some o) (hg : W.grownBy W' r) (hr : some q ≠ r) : W'.heap[q]? = some o :=
  (hg.block q (Array.getElem?_eq_some_iff.1 h).1 (fun e => hr e)).trans h
theorem zerosC_succ (n : Nat) : zerosC (n + 1) = zerosC n ++ [⟨0, 0, 0, 0, false, [], 0, 0⟩] := List.replicate_succ' ..

set_option maxRecDepth 100000 in
set_option maxHeartbeats 3200000 in
theorem rempty_c {w : World} {x : Option Addr} {n1 cap : Nat} (hle : n1 ≤ cap) (hmax : cap ≤ 9223372036854775807) (hn : n1 ≤ 1000000) (key : ByteArray) :
    Calls Tryd.prog 37 #[.slice x n1 cap, .string key] w (fun e w' => ∃ v, e = .returned (.agg #[.string key, v]) ∧ OwnC w' w.heap.size v (zerosC n1) ∧ Below w.heap.size w w') := by
  have hb := (alloc_below w (.cells #[.string ⟨#[]⟩, .slice none 0 0] 25)).alloc (by simp) (.cells #[.string key, .slice none 0 0] 25)
  have hr0 : ((w.alloc (.cells #[.string ⟨#[]⟩, .slice none 0 0] 25)).alloc (.cells #[.string key, .slice none 0 0] 25)).heap[w.heap.size]? = some (.cells #[.string ⟨#[]⟩, .slice none 0 0] 25 (0, 0)) := (Below.heap_alloc _ _ _ (by simp)).trans (heap_alloc_new w _)
  have hr1 := heap_alloc_new (w.alloc (.cells #[.string ⟨#[]⟩, .slice none 0 0] 25)) (.cells #[.string key, .slice none 0 0] 25)
  rw [World.size_alloc] at hr1
  go_enter Tryd.func37, Tryd.ntmps37
  go_upto_region 2 with (fail)
  obtain ⟨B, hB⟩ : ∃ q, w.heap.size = q := ⟨_, rfl⟩
  have HBe := Lib.hid hB
  rw [hB] at hr0 hr1 ⊢
  clear hB
  generalize (w.alloc (.cells #[.string ⟨#[]⟩, .slice none 0 0] 25)).alloc (.cells #[.string key, .slice none 0 0] 25) = W1 at *
  have HR0 := Lib.hid hr0
  have HR1 := Lib.hid hr1
  have HB1 := Lib.hid hb
  clear hr0 hr1 hb
  go_wp2
  go_loopw [6] (fun i wr => ∃ k v, k ≤ n1 ∧ i = .int .i64 ((k : Nat) : Int) ∧ OwnC wr w.heap.size v (zerosC k) ∧ Below w.heap.size w wr ∧ wr.heap[B]? = some (.cells #[.string ⟨#[]⟩, .slice none 0 0] 25 (0, 0)) ∧ wr.heap[B + 1]? = some (.cells #[.string key, v] 25 (0, 0))) (fun i _ => n1 - (intOf i).toNat)
  case atStart => exact ⟨0, .slice none 0 0, by omega, rfl, OwnC.nil _ _, HB1.out, HR0.out, HR1.out⟩
  case round =>
    clear HB1 HR1 HR0
    obtain ⟨i, v, hk, rfl, ho, hB, hr0, hr1⟩ := hrel
    obtain ⟨a9, c9, rfl, -⟩ := ho.cls
    obtain ⟨q0, q1, qf⟩ := row_cells hr1
    have HO := Lib.hid ho
    have HB := Lib.hid hB
    have HR0 := Lib.hid hr0
    have HR1 := Lib.hid hr1
    have hzl : (zerosC i).length = i := by simp [zerosC]
    rw [hzl] at HO HR1 q1
    clear ho hB hr0 hr1
    by_cases hlt : i < n1
    · have hki : (i : Int) < (n1 : Int) := by omega
      have hbs := HB.out.size
      go_wp2_with (at_builtin; refine wpList_append_cell rfl _ _ rfl (v := .slice a9 i c9) rfl HO.out 0 0 0 0 false [] 0 0 rfl (by rw [hzl]; omega) hbs ?_; intro v' w' ho' hg'; rw [← zerosC_succ] at ho'; obtain ⟨a8, c8, rfl, -⟩ := ho'.cls; have hr1' := heap_grown ((Below.heap_alloc wr (.cells #[.int .i64 0, .int .i64 0, .int .i64 0, .int .i64 0, .bool false, .string ⟨#[]⟩, .int .i64 0, .int .i64 0] 50) (B + 1) (Array.getElem?_eq_some_iff.1 HR1.out).1).trans HR1.out) hg' (own_ne HR1.out (by decide) HO.out); obtain ⟨s0, s1, sf⟩ := row_cells hr1')
      have hbw := ((HB.out.alloc hbs (.cells #[.int .i64 0, .int .i64 0, .int .i64 0, .int .i64 0, .bool false, .string (text []), .int .i64 0, .int .i64 0] 50)).grown hg' (by simp; omega) (fun k e => (HO.out.lt k e).1))
      have hr0' := heap_grown ((Below.heap_alloc wr (.cells #[.int .i64 0, .int .i64 0, .int .i64 0, .int .i64 0, .bool false, .string (text []), .int .i64 0, .int .i64 0] 50) B (Array.getElem?_eq_some_iff.1 HR0.out).1).trans HR0.out) hg' (own_ne HR0.out (by decide) HO.out)
      refine ⟨⟨i + 1, _, by omega, by go_num, own_set hr1' (by decide) ho', hbw.setCell (p := ⟨B + 1, 1, none⟩) (by have := HBe.out; simp; omega) _, (Below.heap_setCell _ ⟨B + 1, 1, none⟩ _ B (by simp)).trans hr0', (heap_setCell_same _ (B + 1) 1 _ _ _ hr1').trans rfl⟩, ?_⟩
      simp [intOf]; omega
    · obtain rfl : i = n1 := by omega
      obtain ⟨z0, z1, zf⟩ := row_cells HR0.out
      have HS := Lib.hid (row_set HR0.out key (.slice a9 i c9))
      go_wp2
      refine bodyPost_ret (results_cell_row rfl _ _ B 25 _ (0, 0) _ rfl HS.out Tryd.underlying25 rfl (by kernel_rfl)) rfl ⟨_, rfl, ?_, (HB.out.setCell (p := ⟨B, 0, none⟩) (by have := HBe.out; simp; omega) _).setCell (p := ⟨B, 1, none⟩) (by have := HBe.out; simp; omega) _⟩
      exact own_set (i := 1) (show (wr.setCell ⟨B, 0, none⟩ (.string key)).heap[B]? = _ from (heap_setCell_same _ _ 0 _ _ _ HR0.out).trans rfl) (by decide) (own_set (i := 0) HR0.out (by decide) HO.out)

theorem cg_zero {p : Int} (h : p = 1 ∨ p = 2) : Cl.zero.good p = true := by rcases h with rfl | rfl <;> decide +kernel
theorem new_yes {gs : List Grp} {key : List UInt8} (h : pgoodS gs = 0) (h2 : keyS key = 0) : rnewS gs key = (key, zerosC gs.length, 0) := by
  have hm : min gs.length 4 = gs.length := by have := pgood_len h; omega
  have hR : rgoodS gs key (zerosC gs.length) = 0 := rgood_yes h h2 (by simp [zerosC]) fun j hj => by
    unfold cgAt
    have e : (zerosC gs.length).getD j Cl.zero = Cl.zero := by simp [zerosC, hj]
    rw [e]
    exact cg_zero (pgood_pol h j hj)
  unfold rnewS
  rw [hm, if_pos hR]
theorem new_pol {gs : List Grp} {key : List UInt8} (h : ¬ pgoodS gs = 0) : rnewS gs key = ([], [], pgoodS gs) := by
  unfold rnewS; rw [rgood_pol h, if_neg h]
theorem new_key {gs : List Grp} {key : List UInt8} (h : pgoodS gs = 0) (h2 : ¬ keyS key = 0) : rnewS gs key = ([], [], keyS key) := by
  unfold rnewS; rw [rgood_key h h2, if_neg h2]

set_option maxRecDepth 100000 in
set_option maxHeartbeats 3200000 in
theorem rrownew_c {w : World} {x : Option Addr} {n1 cap : Nat} {gs : List Grp} (hg : Grs w x n1 cap gs) (hs : ∀ g ∈ gs, g.1.length ≤ 9223372036854775807) (key : List UInt8) (hk : key.length ≤ 9223372036854775807) :
    Calls Tryd.prog 11 #[.slice x n1 cap, .string (text key)] w (RowPost (rnewS gs key) w) := by
  have hgl := hg.len
  have hle := hg.le
  have hmax := hg.max
  have hPG := fun W (h : Below w.heap.size w W) => rpgood_c (hg.below h) hs
  have hKY := fun W => rkey_c key hk W
  have HY := Lib.hid (@new_yes gs key)
  have HP := Lib.hid (@new_pol gs key)
  have HK := Lib.hid (@new_key gs key)
  have HN4 := Lib.hid (@pgood_len gs)
  obtain ⟨P0, hP⟩ : ∃ z, pgoodS gs = z := ⟨_, rfl⟩
  obtain ⟨K0, hK⟩ : ∃ z, keyS key = z := ⟨_, rfl⟩
  obtain ⟨RV, hRV⟩ : ∃ z, rnewS gs key = z := ⟨_, rfl⟩
  obtain ⟨tk, htk⟩ : ∃ z, text key = z := ⟨_, rfl⟩
  rw [hP] at HY HP HK HN4
  rw [hK] at HY HK
  rw [hRV, hgl] at HY
  rw [hRV] at HP HK ⊢
  rw [hgl] at HN4
  simp only [hP] at hPG
  simp only [hK, htk] at hKY
  rw [htk]
  have HTK := Lib.hid htk
  have HPG := Lib.hid hPG
  have HKY := Lib.hid hKY
  have hb := alloc_below w (.cells #[.string ⟨#[]⟩, .slice none 0 0] 25)
  have hr := heap_alloc_new w (.cells #[.string ⟨#[]⟩, .slice none 0 0] 25)
  clear hP hK hRV hPG hKY htk hg
  go_enter Tryd.func11, Tryd.ntmps11
  go_upto_region 1 with (fail)
  obtain ⟨B, hB⟩ : ∃ q, w.heap.size = q := ⟨_, rfl⟩
  have HBe := Lib.hid hB
  rw [hB] at hr ⊢
  clear hB
  generalize w.alloc (.cells #[.string ⟨#[]⟩, .slice none 0 0] 25) = W1 at *
  have HR1 := Lib.hid hr
  have HB1 := Lib.hid hb
  clear hr hb
  go_upto_region 2 with (go_at_call 35; (with_reducible refine (HPG.out _ HB1.out).mono ?_); rintro e9 w2 ⟨rfl, hb2⟩)
  have HR2 := Lib.hid ((hb2.block _ (Array.getElem?_eq_some_iff.1 HR1.out).1).trans HR1.out)
  have HB2 := Lib.hid (HB1.out.trans (hb2.mono HB1.out.size))
  clear hb2 HR1 HB1 HPG
  have hbad : ∀ (f : Int), RV = ([], [], f) → RowPost RV w (.returned (.tuple #[.agg #[.string ⟨#[]⟩, .slice none 0 0], .int .i64 f])) ((w2.setCell ⟨B, 0, none⟩ (.string ⟨#[]⟩)).setCell ⟨B, 1, none⟩ (.slice none 0 0)) := fun f h => by
    rw [h]
    exact ⟨_, rfl, OwnC.nil _ _, (HB2.out.setCell (p := ⟨B, 0, none⟩) (by have := HBe.out; simp; omega) _).setCell (p := ⟨B, 1, none⟩) (by have := HBe.out; simp; omega) _⟩
  have HBAD := Lib.hid hbad
  have HSB := Lib.hid (row_set HR2.out ⟨#[]⟩ (.slice none 0 0))
  clear hbad
  by_cases h0 : P0 = 0
  · subst h0
    by_cases h1 : K0 = 0
    · subst h1
      have HRR := Lib.hid (HY.out (by first | rfl | trivial) (by first | rfl | trivial))
      have hn4 := HN4.out (by first | rfl | trivial)
      clear HY HP HK HN4 HBAD HSB
      go_upto_region 7 with (go_at_call 36; (with_reducible refine (HKY.out _).mono ?_); rintro e9 w9 ⟨rfl, rfl⟩)
      go_wp2_with (go_at_call 37; (with_reducible refine (rempty_c hle hmax (by omega) tk).mono ?_); rintro e9 w3 ⟨v3, rfl, ho3, hb3⟩; obtain ⟨a3, c3, rfl, -⟩ := ho3.cls; have HO3 := Lib.hid ho3; have HB3 := Lib.hid hb3; have hr3 := (hb3.block _ (Array.getElem?_eq_some_iff.1 HR2.out).1).trans HR2.out; clear ho3 hb3; obtain ⟨z0, z1, zf⟩ := row_cells hr3; have HR3 := Lib.hid hr3; clear hr3)
      refine bodyPost_ret (res_cell_tmp rfl _ _ B 25 _ (0, 0) _ (.int .i64 0) rfl rfl (row_set HR3.out tk (.slice a3 (zerosC n1).length c3)) Tryd.underlying25 rfl (by kernel_rfl)) rfl ?_
      rw [HRR.out]
      have hb4 := HB2.out.trans (HB3.out.mono HB2.out.size)
      refine ⟨_, by rw [HTK.out], ?_, (hb4.setCell (p := ⟨B, 0, none⟩) (by have := HBe.out; simp; omega) _).setCell (p := ⟨B, 1, none⟩) (by have := HBe.out; simp; omega) _⟩
      exact own_set (i := 1) (show (w3.setCell ⟨B, 0, none⟩ (.string tk)).heap[B]? = _ from (heap_setCell_same _ _ 0 _ _ _ HR3.out).trans rfl) (by decide) (own_set (i := 0) HR3.out (by decide) (HO3.out.mono HB2.out.size))
    · have h1n : (K0 != 0) = true := by simpa using h1
      have HRR := Lib.hid (HK.out (by first | rfl | trivial) h1)
      obtain ⟨z0, z1, zf⟩ := row_cells HR2.out
      clear h1
      go_wp2_with (go_at_call 36; (with_reducible refine (HKY.out _).mono ?_); rintro e9 w9 ⟨rfl, rfl⟩)
      exact bodyPost_ret (res_cell_tmp rfl _ _ B 25 _ (0, 0) _ (.int .i64 K0) rfl rfl HSB.out Tryd.underlying25 rfl (by kernel_rfl)) rfl (HBAD.out _ HRR.out)
  · have h0n : (P0 != 0) = true := by simpa using h0
    have HRR := Lib.hid (HP.out h0)
    obtain ⟨z0, z1, zf⟩ := row_cells HR2.out
    clear h0
    go_wp2
    exact bodyPost_ret (res_cell_tmp rfl _ _ B 25 _ (0, 0) _ (.int .i64 P0) rfl rfl HSB.out Tryd.underlying25 rfl (by kernel_rfl)) rfl (HBAD.out _ HRR.out)
end Go.Proofs.YtkjpmdpljdgcjaaDoor
end

section
/-
  Row: the reference's View.
-/
namespace Go.Proofs.YtkjpmdpljdgcjaaDoor
open Go.RowKit Go Go.Sort
set_option linter.unusedVariables false
set_option maxRecDepth 20000

theorem view_cells {W : World} {q : Nat} {k0 : ByteArray} {v0 : Value} (h : W.heap[q]? = some (.cells #[.string k0, v0] 35 (0, 0))) :
    W.cell? ⟨q, 0, none⟩ = some (.string k0) ∧ W.cell? ⟨q, 1, none⟩ = some v0 ∧ ∀ i, W.frozen? ⟨q, i, none⟩ = false :=
  ⟨by rw [cell_of_row _ q 0 _ _ (0, 0) h]; rfl, by rw [cell_of_row _ q 1 _ _ (0, 0) h]; rfl, fun i => frozen_of_row _ q i _ _ h⟩
/-- append(v, f), v of the call's own. -/
theorem wpList_append_fld {w : World} {ops : Array Oper} {rest : List Oper} {o : Oper} {a : Act} {Q : Exit → Act → World → Prop} (hgd : o.guard = none) (s x : Operand)
    (ho : o.op = .call { callee := .builtin .append, args := #[s, x], argTypes := #[33, 33] })
    {base : Nat} {v : Value} {l : List Fld} (hs : a.eval s = v) (hown : OwnF w base v l) {t : ByteArray} (g : List UInt8) {p : Int} (ht : t = text g) {e : TypeId}
    (hx : a.eval x = .slice (some ⟨w.heap.size, 0, none⟩) 1 1) (h63 : l.length ≤ 1000000000) (hbase : base ≤ w.heap.size)
    (h : ∀ g' cap' w', OwnF w' base (.slice (some ⟨g', 0, none⟩) (l.length + 1) cap') (l ++ [(p, g)]) → (w.alloc (.cells #[.int .i64 p, .string t] e)).grownBy w' v.ownBlock → wpList Tryd.prog ops Q rest (a.put o.dst (.slice (some ⟨g', 0, none⟩) (l.length + 1) cap')) w') :
    wpList Tryd.prog ops Q (o :: rest) a (w.alloc (.cells #[.int .i64 p, .string t] e)) := by
  subst ht
  obtain ⟨i0, hi, hz0, hz1, hz2⟩ := info_parts Tryd.infoF
  refine wpList_append_own_wide (P := Tryd.prog) (w.alloc (.cells #[.int .i64 p, .string (text g)] e)) hgd s x 33 ho base 85 i0 _ 2 24 Tryd.underlying33 hi hz0 hz1 hz2 rfl (by decide) v l.length (fCells l) hs (World.ownsRow.alloc hown _)
    ⟨w.heap.size, 0, none⟩ 1 1 [.int .i64 p, .string (text g)] hx rfl ?_ ?_ (by unfold maxLen; omega) (by omega) (by simp; omega) ?_
  · intro j u hj
    rw [addr_add, Nat.zero_add, cell_of_row _ _ j #[.int .i64 p, .string (text g)] e (0, 0) (by rw [heap_alloc_new])]
    rw [← hj]; simp
  · intro u hu
    simp only [List.mem_cons, List.not_mem_nil, or_false] at hu
    rcases hu with rfl | rfl <;> rfl
  · intro v' w' h2 h3 _
    obtain ⟨g', cap', rfl⟩ := ownsRow_succ h2
    refine h g' cap' w' ?_ h3
    unfold OwnF
    rw [List.length_append, fCells_append]
    exact h2

set_option maxRecDepth 100000 in
set_option maxHeartbeats 6400000 in
theorem rview_c {w : World} {x x2 : Option Addr} {n1 cap m cap2 : Nat} {gs : List Grp} {cs : List Cl} (hg : Grs w x n1 cap gs) (hs : ∀ g ∈ gs, g.1.length ≤ 9223372036854775807)
    (hl : Cls w x2 m cap2 cs) (hx : ∀ c ∈ cs, c.t.length ≤ 9223372036854775807) (key : List UInt8) (hk : key.length ≤ 9223372036854775807) :
    Calls Tryd.prog 13 #[.slice x n1 cap, .agg #[.string (text key), .slice x2 m cap2]] w (ViewPost (viewS gs key cs) w) := by
  have hgl := hg.len
  have hll := hl.len
  have hle1 := hg.le
  have hmax1 := hg.max
  have hle2 := hl.le
  have hmax2 := hl.max
  have hGD := fun W (h : Below w.heap.size w W) => rrowgood_c (hg.below h) hs (hl.below h) hx key hk
  have H0 := Lib.hid (@view_bad gs key cs)
  have H1 := Lib.hid (@view_none gs key cs)
  have H2 := Lib.hid (@view_some gs key cs)
  have HIN := Lib.hid (@rgood_inv gs key cs)
  have HG := Lib.hid hg
  have HL := Lib.hid hl
  have HX := Lib.hid hx
  obtain ⟨RV, hRV⟩ : ∃ z, viewS gs key cs = z := ⟨_, rfl⟩
  obtain ⟨R, hR⟩ : ∃ z, rgoodS gs key cs = z := ⟨_, rfl⟩
  rw [hR] at H0 H2 HIN
  simp only [hR] at hGD
  rw [hRV] at H0 H1 H2 ⊢
  obtain ⟨tk, htk⟩ : ∃ z, text key = z := ⟨_, rfl⟩
  rw [htk] at hGD ⊢
  have HTK := Lib.hid htk
  have hB1 := (alloc_below w (.cells #[.string tk, .slice x2 m cap2] 25)).alloc (by simp) (.cells #[.string ⟨#[]⟩, .slice none 0 0] 35)
  have hr1 : ((w.alloc (.cells #[.string tk, .slice x2 m cap2] 25)).alloc (.cells #[.string ⟨#[]⟩, .slice none 0 0] 35)).heap[w.heap.size]? = some (.cells #[.string tk, .slice x2 m cap2] 25 (0, 0)) := (Below.heap_alloc _ _ _ (by simp)).trans (heap_alloc_new w _)
  have he1 := heap_alloc_new (w.alloc (.cells #[.string tk, .slice x2 m cap2] 25)) (.cells #[.string ⟨#[]⟩, .slice none 0 0] 35)
  rw [World.size_alloc] at he1
  have HGD := Lib.hid hGD
  clear hRV hR hGD htk hk hg hl hx hs
  go_enter Tryd.func13, Tryd.ntmps13
  go_upto_region 1 with (fail)
  obtain ⟨B, hB⟩ : ∃ q, w.heap.size = q := ⟨_, rfl⟩
  have HBe := Lib.hid hB
  rw [hB] at hr1 he1 ⊢
  clear hB
  generalize (w.alloc (.cells #[.string tk, .slice x2 m cap2] 25)).alloc (.cells #[.string ⟨#[]⟩, .slice none 0 0] 35) = W1 at *
  obtain ⟨r0, r1, -⟩ := row_cells hr1
  have HR1 := Lib.hid hr1
  have HE1 := Lib.hid he1
  have HB1 := Lib.hid hB1
  clear hr1 he1 hB1
  by_cases h0 : R = 0
  · subst h0
    obtain ⟨hp0, hk0, hlen, hcg⟩ := HIN.out rfl
    have h4 := pgood_len hp0
    obtain rfl : m = n1 := by omega
    clear HIN hp0 hk0 hcg
    go_upto_region 3 with (go_at_call 15; (with_reducible refine (HGD.out _ HB1.out).mono ?_); rintro e9 w2 ⟨rfl, hb2⟩)
    have hr2 := (hb2.block _ (Array.getElem?_eq_some_iff.1 HR1.out).1).trans HR1.out
    have he2 := (hb2.block _ (Array.getElem?_eq_some_iff.1 HE1.out).1).trans HE1.out
    have HB2 := Lib.hid (HB1.out.trans (hb2.mono HB1.out.size))
    clear hb2 HR1 HE1 HB1 HGD r0 r1
    obtain ⟨r0, r1, -⟩ := row_cells hr2
    have HR2 := Lib.hid hr2
    have HE2 := Lib.hid he2
    clear hr2 he2
    go_upto_region 4 with (fail)
    have hr3 := (Below.heap_alloc w2 (.cells #[.string tk, .slice none 0 0] 35) B (Array.getElem?_eq_some_iff.1 HR2.out).1).trans HR2.out
    have he3 := (Below.heap_alloc w2 (.cells #[.string tk, .slice none 0 0] 35) (B + 1) (Array.getElem?_eq_some_iff.1 HE2.out).1).trans HE2.out
    have hv3 := heap_alloc_new w2 (.cells #[.string tk, .slice none 0 0] 35)
    have hb3 := HB2.out.alloc HB2.out.size (.cells #[.string tk, .slice none 0 0] 35)
    have HLT := Lib.hid (show B + 1 < w2.heap.size from (Array.getElem?_eq_some_iff.1 HE2.out).1)
    obtain ⟨G0, hG⟩ : ∃ q, w2.heap.size = q := ⟨_, rfl⟩
    rw [hG] at hv3 HLT ⊢
    generalize w2.alloc (.cells #[.string tk, .slice none 0 0] 35) = W3 at *
    have HR3 := Lib.hid hr3
    have HE3 := Lib.hid he3
    have HV3 := Lib.hid hv3
    have HB3 := Lib.hid hb3
    clear hr3 he3 hv3 hb3 hG HR2 HE2 HB2 r0 r1
    go_wp2
    go_loopw [7] (fun i wr => ∃ k v, k ≤ m ∧ i = .int .i64 ((k : Nat) : Int) ∧ OwnF wr w.heap.size v (fieldsN gs cs k) ∧ Below w.heap.size w wr ∧ wr.heap[B]? = some (.cells #[.string tk, .slice x2 m cap2] 25 (0, 0)) ∧ wr.heap[B + 1]? = some (.cells #[.string ⟨#[]⟩, .slice none 0 0] 35 (0, 0)) ∧ wr.heap[G0]? = some (.cells #[.string tk, v] 35 (0, 0))) (fun i _ => m - (intOf i).toNat)
    case atStart => exact ⟨0, .slice none 0 0, by omega, rfl, OwnF.nil _ _, HB3.out, HR3.out, HE3.out, HV3.out⟩
    case round =>
      clear HB3 HR3 HE3 HV3
      obtain ⟨i, v, hk, rfl, ho, hB, hr, he, hv⟩ := hrel
      obtain ⟨a9, c9, rfl, -⟩ := OwnF.flds ho
      have hnl := fieldsN_le gs cs i
      have hFY := @fieldsN_yes gs cs i
      have hFN := @fieldsN_no gs cs i
      obtain ⟨Z, hZ⟩ : ∃ z, fieldsN gs cs i = z := ⟨_, rfl⟩
      rw [hZ] at ho hv hnl
      have HZ := Lib.hid hZ
      have HO := Lib.hid ho
      have HB := Lib.hid hB
      have HR := Lib.hid hr
      have HE := Lib.hid he
      have HV := Lib.hid hv
      have HNL := Lib.hid hnl
      clear hZ
      by_cases hlt : i < m
      · have hki : (i : Int) < (m : Int) := by omega
        have hki1 : (i : Int) < (cap : Int) := by omega
        have hki2 : (i : Int) < (cap2 : Int) := by omega
        obtain ⟨bg, offg, rfl, hatg⟩ := HG.out.at hlt
        obtain ⟨bk, off, rfl, hat⟩ := HL.out.at hlt
        have hcx := HX.out (cs.getD i Cl.zero) (mem_getDd (by omega))
        have hse : seenAt gs cs i = cseenS (gs.getD i ([], 0)).2 (cs.getD i Cl.zero).n (cs.getD i Cl.zero).s (cs.getD i Cl.zero).a (cs.getD i Cl.zero).b (cs.getD i Cl.zero).g (cs.getD i Cl.zero).t (cs.getD i Cl.zero).d (cs.getD i Cl.zero).e := rfl
        obtain ⟨⟨nm, pk⟩, hgk⟩ : ∃ y, gs.getD i ([], 0) = y := ⟨_, rfl⟩
        obtain ⟨y, hck⟩ : ∃ y, cs.getD i Cl.zero = y := ⟨_, rfl⟩
        rw [hck] at hat hcx hse
        rw [hgk] at hatg hse
        obtain ⟨n, s, a, b, g, t, d, e⟩ := y
        simp only at hcx hse
        obtain ⟨⟨C1, C2⟩, hCC⟩ : ∃ z, seenAt gs cs i = z := ⟨_, rfl⟩
        have hC := fun W => rcseen_c pk n s a b g t d e hcx W
        rw [← hse, hCC] at hC
        rw [hCC] at hFY hFN
        simp only at hC hFY hFN
        obtain ⟨tc, htc⟩ : ∃ z, text C1 = z := ⟨_, rfl⟩
        rw [htc] at hC
        have HTC := Lib.hid htc
        have HFY := Lib.hid hFY
        have HFN := Lib.hid hFN
        have HC := Lib.hid hC
        have HGW := Lib.hid (fun W (h : Below wr.heap.size wr W) => hatg W (hB.trans (h.mono hB.size)))
        have HPW := Lib.hid (fun W (h : Below wr.heap.size wr W) => hat W (hB.trans (h.mono hB.size)))
        have HRB := Lib.hid (fun W (h : Below wr.heap.size wr W) => (show W.cell? ⟨B, 1, none⟩ = some (.slice (some ⟨bk, off, none⟩) m cap2) by rw [cell_of_row _ B 1 _ _ (0, 0) ((h.block _ (Array.getElem?_eq_some_iff.1 hr).1).trans hr)]; rfl))
        clear ho hB hr he hv hatg hat hcx hse hgk hck hCC hC hFY hFN htc hnl
        go_upto_region 7 with (fail)
        refine wp_region_flow [none, none, none, none, none, none, none, none, some 14, some 15, none, none, none, none, none, none, none, none, none, none, none, none, none, none, some 11, some 0, some 1, some 2, some 3, some 4, some 5, some 6, some 7, some 8, some 9, some 10, some 12, some 13, none, none, none, none, none, none, none, none, none, none, none, none, none, none, none] (fun i => [u25, u26, u27, u28, u29, u30, u31, u32, u33, u34, u35, u24, u36, u37, u8, u9].getD i undef) [(fun v _ => v = .slice (some ⟨bg, offg, none⟩) m cap), (fun v _ => v = .int .i64 (i : Int)), (fun v _ => v = .pointer (some ⟨bg, offg + i * 2, none⟩)), (fun v _ => v = .pointer (some ⟨bg, offg + i * 2 + 1, none⟩)), (fun v _ => v = .int .i64 pk), (fun v _ => v = .pointer (some ⟨B, 1, none⟩)), (fun v _ => v = .slice (some ⟨bk, off, none⟩) m cap2), (fun v _ => v = .int .i64 (i : Int)), (fun v _ => v = .pointer (some ⟨bk, off + i * 8, none⟩)), (fun v _ => v = .agg #[.int .i64 n, .int .i64 s, .int .i64 a, .int .i64 b, .bool g, .string (text t), .int .i64 d, .int .i64 e]), (fun v _ => v = .tuple #[.string tc, .bool C2]), (fun v _ => v = .tuple #[.string tc, .bool C2]), (fun v _ => v = .string tc), (fun v _ => v = .bool C2), (fun v _ => v = .string tc), (fun v _ => v = .bool C2)] (by kernel_rfl) (by kernel_rfl) rfl rfl rfl ?_ ?_ ?_
        · intro g hg v X Y hX hY hv
          simp only [List.mem_cons, List.not_mem_nil, or_false] at hg
          rcases hg with rfl | rfl | rfl | rfl | rfl | rfl | rfl | rfl | rfl | rfl | rfl | rfl | rfl | rfl | rfl | rfl
          all_goals first
            | exact hv
            | exact hv.kept hY
        · simp only [flowOps, and_true]
          refine ⟨?_, ?_, ?_, ?_, ?_, ?_, ?_, ?_, ?_, ?_, ?_, ?_, ?_, ?_, ?_, ?_⟩
          · intro xs W hW hn
            simp only [flowAct, List.zipWith_cons_cons, List.zipWith_nil_left]
            go_wp2_with (fail)
            exact ⟨rfl, _, rfl, Below.refl _ _, rfl⟩
          · intro xs W hW hn
            simp only [flowAct, List.zipWith_cons_cons, List.zipWith_nil_left]
            go_wp2_with (fail)
            exact ⟨rfl, _, rfl, Below.refl _ _, rfl⟩
          · intro xs W hW hn
            simp [flowNeeds, Region.binds] at hn
            simp only [flowAct, List.zipWith_cons_cons, List.zipWith_nil_left]
            try simp only [hn]
            go_wp2_with (fail)
            exact ⟨rfl, _, rfl, Below.refl _ _, rfl⟩
          · intro xs W hW hn
            simp [flowNeeds, Region.binds] at hn
            simp only [flowAct, List.zipWith_cons_cons, List.zipWith_nil_left]
            try simp only [hn]
            go_wp2_with (fail)
            exact ⟨rfl, _, rfl, Below.refl _ _, rfl⟩
          · intro xs W hW hn
            obtain ⟨g0, g1⟩ := HGW.out W hW
            simp only at g0 g1
            simp [flowNeeds, Region.binds] at hn
            simp only [flowAct, List.zipWith_cons_cons, List.zipWith_nil_left]
            try simp only [hn]
            go_wp2_with (fail)
            exact ⟨rfl, _, rfl, Below.refl _ _, rfl⟩
          · intro xs W hW hn
            simp only [flowAct, List.zipWith_cons_cons, List.zipWith_nil_left]
            go_wp2_with (fail)
            exact ⟨rfl, _, rfl, Below.refl _ _, rfl⟩
          · intro xs W hW hn
            have rb1 := HRB.out W hW
            simp [flowNeeds, Region.binds] at hn
            simp only [flowAct, List.zipWith_cons_cons, List.zipWith_nil_left]
            try simp only [hn]
            go_wp2_with (fail)
            exact ⟨rfl, _, rfl, Below.refl _ _, rfl⟩
          · intro xs W hW hn
            simp only [flowAct, List.zipWith_cons_cons, List.zipWith_nil_left]
            go_wp2_with (fail)
            exact ⟨rfl, _, rfl, Below.refl _ _, rfl⟩
          · intro xs W hW hn
            simp [flowNeeds, Region.binds] at hn
            simp only [flowAct, List.zipWith_cons_cons, List.zipWith_nil_left]
            try simp only [hn]
            go_wp2_with (fail)
            exact ⟨rfl, _, rfl, Below.refl _ _, rfl⟩
          · intro xs W hW hn
            obtain ⟨p0, p1, p2, p3, p4, p5, p6, p7⟩ := HPW.out W hW
            simp only at p0 p1 p2 p3 p4 p5 p6 p7
            simp [flowNeeds, Region.binds] at hn
            simp only [flowAct, List.zipWith_cons_cons, List.zipWith_nil_left]
            try simp only [hn]
            go_wp2_with (fail)
            exact ⟨rfl, _, rfl, Below.refl _ _, rfl⟩
          · intro xs W hW hn
            simp [flowNeeds, Region.binds] at hn
            simp only [flowAct, List.zipWith_cons_cons, List.zipWith_nil_left]
            simp only [hn]
            go_wp2_with (go_at_call 40; (with_reducible refine (HC.out _).mono ?_); rintro e9 w9 ⟨rfl, hb9⟩)
            exact ⟨rfl, _, rfl, hb9, rfl⟩
          · intro xs W hW hn
            simp [flowNeeds, Region.binds] at hn
            simp only [flowAct, List.zipWith_cons_cons, List.zipWith_nil_left]
            try simp only [hn]
            go_wp2_with (fail)
            exact ⟨rfl, _, rfl, Below.refl _ _, rfl⟩
          · intro xs W hW hn
            simp [flowNeeds, Region.binds] at hn
            simp only [flowAct, List.zipWith_cons_cons, List.zipWith_nil_left]
            try simp only [hn]
            go_wp2_with (fail)
            exact ⟨rfl, _, rfl, Below.refl _ _, rfl⟩
          · intro xs W hW hn
            simp [flowNeeds, Region.binds] at hn
            simp only [flowAct, List.zipWith_cons_cons, List.zipWith_nil_left]
            try simp only [hn]
            go_wp2_with (fail)
            exact ⟨rfl, _, rfl, Below.refl _ _, rfl⟩
          · intro xs W hW hn
            simp [flowNeeds, Region.binds] at hn
            simp only [flowAct, List.zipWith_cons_cons, List.zipWith_nil_left]
            try simp only [hn]
            go_wp2_with (fail)
            exact ⟨rfl, _, rfl, Below.refl _ _, rfl⟩
          · intro xs W hW hn
            simp [flowNeeds, Region.binds] at hn
            simp only [flowAct, List.zipWith_cons_cons, List.zipWith_nil_left]
            try simp only [hn]
            go_wp2_with (fail)
            exact ⟨rfl, _, rfl, Below.refl _ _, rfl⟩
        · intro xs W hW hall
          simp only [flowAll, and_true, Nat.zero_add, Nat.reduceAdd] at hall
          obtain ⟨-, -, -, -, -, -, -, -, -, -, -, -, -, -, e14, e15⟩ := hall
          simp only [flowAct, List.zipWith_cons_cons, List.zipWith_nil_left]
          simp only [e14, e15]
          have HB5 := Lib.hid (HB.out.trans (hW.mono HB.out.size))
          have HR5 := Lib.hid ((hW.block _ (Array.getElem?_eq_some_iff.1 HR.out).1).trans HR.out)
          have HE5 := Lib.hid ((hW.block _ (Array.getElem?_eq_some_iff.1 HE.out).1).trans HE.out)
          have HV5 := Lib.hid ((hW.block _ (Array.getElem?_eq_some_iff.1 HV.out).1).trans HV.out)
          have HO5 := Lib.hid (HO.out.kept hW)
          clear HB HR HE HV HO hW HGW HPW HRB
          cases C2 with
          | false =>
            have HST2 := Lib.hid (HFN.out rfl)
            go_wp2
            go_roundw
            case rel => exact ⟨i + 1, .slice a9 Z.length c9, by omega, by go_num, by rw [HST2.out, HZ.out]; exact HO5.out, HB5.out, HR5.out, HE5.out, HV5.out⟩
            case measure => simp [intOf]; omega
          | true =>
            have HST2 := Lib.hid (HFY.out rfl)
            obtain ⟨q0, q1, -⟩ := view_cells HV5.out
            have hbs := HB5.out.size
            go_wp2_with (at_builtin; refine wpList_append_fld rfl _ _ rfl (v := .slice a9 Z.length c9) rfl HO5.out C1 HTC.out.symm rfl (by have := HNL.out; omega) hbs ?_; intro g' cap' w' ho' hg'; have hr1' := heap_grown ((Below.heap_alloc W (.cells #[.int .i64 (i : Int), .string tc] 85) G0 (Array.getElem?_eq_some_iff.1 HV5.out).1).trans HV5.out) hg' (own_ne HV5.out (by decide) HO5.out); obtain ⟨s0, s1, sf⟩ := view_cells hr1')
            have hbw := ((HB5.out.alloc hbs (.cells #[.int .i64 (i : Int), .string tc] 85)).grown hg' (by simp; omega) (fun k e => (World.ownsRow.lt HO5.out k e).1))
            have hr0' := heap_grown ((Below.heap_alloc W (.cells #[.int .i64 (i : Int), .string tc] 85) B (Array.getElem?_eq_some_iff.1 HR5.out).1).trans HR5.out) hg' (own_ne HR5.out (by decide) HO5.out)
            have he0' := heap_grown ((Below.heap_alloc W (.cells #[.int .i64 (i : Int), .string tc] 85) (B + 1) (Array.getElem?_eq_some_iff.1 HE5.out).1).trans HE5.out) hg' (own_ne HE5.out (by decide) HO5.out)
            have hlt2 := HLT.out
            refine ⟨⟨i + 1, _, by omega, by go_num, ?_, hbw.setCell (p := ⟨G0, 1, none⟩) (by have := HBe.out; simp; omega) _, (Below.heap_setCell _ ⟨G0, 1, none⟩ _ B (by simp; omega)).trans hr0', (Below.heap_setCell _ ⟨G0, 1, none⟩ _ (B + 1) (by simp; omega)).trans he0', (heap_setCell_same _ G0 1 _ _ _ hr1').trans rfl⟩, ?_⟩
            · rw [HST2.out, HZ.out]; exact own_set hr1' (by decide) ho'
            · simp [intOf]; omega
      · obtain rfl : i = m := by omega
        clear hB hr he hv ho
        obtain ⟨q0, q1, -⟩ := view_cells HV.out
        obtain ⟨z0, z1, zf⟩ := view_cells HE.out
        have HW := Lib.hid (fun (k0 : ByteArray) (u : Value) => (HB.out.setCell (p := ⟨B + 1, 0, none⟩) (by have := HBe.out; simp; omega) (.string k0)).setCell (p := ⟨B + 1, 1, none⟩) (by have := HBe.out; simp; omega) u)
        by_cases hz : Z.length = 0
        · have hzi : (((Z.length : Nat) : Int) == 0) = true := by rw [hz]; rfl
          have hzj : ((Z.length : Nat) : Int) = 0 := by omega
          have HRR := Lib.hid (H1.out (by rw [hgl, HZ.out]; exact hz))
          clear hz
          go_wp2
          refine bodyPost_ret (res_cell_tmp rfl _ _ (B + 1) 35 _ (0, 0) _ (.bool false) rfl rfl (view_set HE.out ⟨#[]⟩ (.slice none 0 0)) Tryd.underlying35 rfl (by kernel_rfl)) rfl ?_
          rw [HRR.out]
          exact ⟨_, rfl, OwnF.nil _ _, HW.out _ _⟩
        · have hzi : (((Z.length : Nat) : Int) == 0) = false := by rw [beq_eq_false_iff_ne]; omega
          have hzj : ¬ ((Z.length : Nat) : Int) = 0 := by omega
          have HRR := Lib.hid (H2.out (by first | rfl | trivial) (by rw [hgl, HZ.out]; exact hz))
          clear hz
          go_wp2
          refine bodyPost_ret (res_cell_tmp rfl _ _ (B + 1) 35 _ (0, 0) _ (.bool true) rfl rfl (view_set HE.out tk (.slice a9 Z.length c9)) Tryd.underlying35 rfl (by kernel_rfl)) rfl ?_
          rw [HRR.out]
          refine ⟨_, by rw [HTK.out], ?_, HW.out _ _⟩
          show OwnF _ _ _ (fieldsN gs cs gs.length)
          rw [hgl, HZ.out]
          exact own_set (i := 1) (show (wr.setCell ⟨B + 1, 0, none⟩ (.string tk)).heap[B + 1]? = _ from (heap_setCell_same _ _ 0 _ _ _ HE.out).trans rfl) (by decide) (own_set (i := 0) HE.out (by decide) HO.out)
  · have h0n : (R != 0) = true := by simpa using h0
    have HRR := Lib.hid (H0.out h0)
    clear h0
    go_wp2_with (go_at_call 15; (with_reducible refine (HGD.out _ HB1.out).mono ?_); rintro e9 w2 ⟨rfl, hb2⟩; have he2 := (hb2.block _ (Array.getElem?_eq_some_iff.1 HE1.out).1).trans HE1.out; have HB2 := Lib.hid (HB1.out.trans (hb2.mono HB1.out.size)); have HE2 := Lib.hid he2; obtain ⟨z0, z1, zf⟩ := view_cells he2; clear hb2 he2)
    refine bodyPost_ret (res_cell_tmp rfl _ _ (B + 1) 35 _ (0, 0) _ (.bool false) rfl rfl (view_set HE2.out ⟨#[]⟩ (.slice none 0 0)) Tryd.underlying35 rfl (by kernel_rfl)) rfl ?_
    rw [HRR.out]
    exact ⟨_, rfl, OwnF.nil _ _, (HB2.out.setCell (p := ⟨B + 1, 0, none⟩) (by have := HBe.out; simp; omega) _).setCell (p := ⟨B + 1, 1, none⟩) (by have := HBe.out; simp; omega) _⟩
end Go.Proofs.YtkjpmdpljdgcjaaDoor
end

section
/-
  Row: the reference's SameView of equal views.
-/
namespace Go.Proofs.YtkjpmdpljdgcjaaDoor
open Go.RowKit Go Go.Sort
set_option linter.unusedVariables false
set_option maxRecDepth 20000

theorem fld_eqIn (p : Int) (s : List UInt8) (W : World) : (Op.equalIn 10000 85 (.agg #[.int .i64 p, .string (text s)]) (.agg #[.int .i64 p, .string (text s)])).run Tryd.prog W = .ok true W := by
  rw [run_equalIn_struct W 9999 _ _ _ Tryd.underlying85 (by kernel_rfl)]
  obtain ⟨f0, f1, hf, h0, h1, t0, t1, n0, n1⟩ : ∃ f0 f1, (Tryd.prog.fieldsOf 85).toList = [f0, f1] ∧ f0.offset = 0 ∧ f1.offset = 1 ∧ f0.type = 3 ∧ f1.type = 9 ∧ f0.name ≠ "_" ∧ f1.name ≠ "_" := ⟨_, _, rfl, rfl, rfl, rfl, rfl, by decide, by decide⟩
  rw [hf]
  have p0 := run_part_plain (P := Tryd.prog) (e := 3) W (by kernel_rfl) (xs := #[.int .i64 p, .string (text s)]) (off := 0) rfl
  have p1 := run_part_plain (P := Tryd.prog) (e := 9) W (by kernel_rfl) (xs := #[.int .i64 p, .string (text s)]) (off := 1) rfl
  have he := text_same s s
  simp [Op.eqFields, n0, n1, h0, h1, t0, t1, p0, p1, run_equalIn_string W 9998 9 _ _ Tryd.underlying9, run_equalIn_int W 9998 3 .i64 .i64 _ _ Tryd.underlying3, Sem.run_bind, Result.andThen_ok]
theorem fld_neb (p : Int) (s : List UInt8) (W : World) : (binOp .neq 85 (.agg #[.int .i64 p, .string (text s)]) (.agg #[.int .i64 p, .string (text s)])).run Tryd.prog W = .ok (.bool false) W := by
  rw [run_neq_struct, fld_eqIn]; rfl
theorem fld_eqg (op : BinOp) (x y : Operand) (xs ys : Array Value) (W : World) : (eqGuard op 85 x y (.agg xs) (.agg ys)).run Tryd.prog W = .ok () W := run_eqGuard_agg W op _ x y xs ys (by kernel_rfl)

set_option maxRecDepth 100000 in
set_option maxHeartbeats 3200000 in
theorem rsameview_c {w : World} {x x2 : Option Addr} {m cap cap2 : Nat} {fs : List Fld} (hl : Flds w x m cap fs) (hl2 : Flds w x2 m cap2 fs) (key : ByteArray) :
    Calls Tryd.prog 17 #[.agg #[.string key, .slice x m cap], .agg #[.string key, .slice x2 m cap2]] w (Tells (.bool true) w) := by
  have hll := hl.len
  have hle := hl.le
  have hmax := hl.max
  have hle2 := hl2.le
  have hmax2 := hl2.max
  have HL := Lib.hid hl
  have HL2 := Lib.hid hl2
  have hkk : (key.toList == key.toList) = true := by simp
  have hb := (alloc_below w (.cells #[.string key, .slice x m cap] 35)).alloc (by simp) (.cells #[.string key, .slice x2 m cap2] 35)
  have hr : ((w.alloc (.cells #[.string key, .slice x m cap] 35)).alloc (.cells #[.string key, .slice x2 m cap2] 35)).heap[w.heap.size]? = some (.cells #[.string key, .slice x m cap] 35 (0, 0)) := (Below.heap_alloc _ _ _ (by simp)).trans (heap_alloc_new w _)
  have hr2 := heap_alloc_new (w.alloc (.cells #[.string key, .slice x m cap] 35)) (.cells #[.string key, .slice x2 m cap2] 35)
  rw [World.size_alloc] at hr2
  clear hl hl2
  go_enter Tryd.func17, Tryd.ntmps17
  go_upto_region 1 with (fail)
  obtain ⟨B, hB⟩ : ∃ q, w.heap.size = q := ⟨_, rfl⟩
  have HBe := Lib.hid hB
  rw [hB] at hr hr2 ⊢
  clear hB
  generalize (w.alloc (.cells #[.string key, .slice x m cap] 35)).alloc (.cells #[.string key, .slice x2 m cap2] 35) = W1 at *
  have HR1 := Lib.hid hr
  have HR2 := Lib.hid hr2
  have HB1 := Lib.hid hb
  obtain ⟨r0, r1, -⟩ := view_cells hr
  obtain ⟨s0, s1, -⟩ := view_cells hr2
  clear hr hr2 hb
  go_wp2
  clear r0 r1 s0 s1
  go_loopw [5] (fun i wr => ∃ k : Nat, k ≤ m ∧ i = .int .i64 k ∧ Below w.heap.size w wr ∧ wr.heap[B]? = some (.cells #[.string key, .slice x m cap] 35 (0, 0)) ∧ wr.heap[B + 1]? = some (.cells #[.string key, .slice x2 m cap2] 35 (0, 0))) (fun i _ => m - (intOf i).toNat)
  case atStart => exact ⟨0, by omega, rfl, HB1.out, HR1.out, HR2.out⟩
  case round =>
    clear HB1 HR1 HR2
    obtain ⟨i, hk, rfl, hB, hr, hr2⟩ := hrel
    obtain ⟨-, r1, -⟩ := view_cells hr
    have HB := Lib.hid hB
    have HR := Lib.hid hr
    have HR2 := Lib.hid hr2
    by_cases hlt : i < m
    · have hki : (i : Int) < (m : Int) := by omega
      have hki1 : (i : Int) < (cap : Int) := by omega
      have hki2 : (i : Int) < (cap2 : Int) := by omega
      obtain ⟨bk, off, rfl, hat⟩ := HL.out.at hlt
      obtain ⟨bk2, off2, rfl, hat2⟩ := HL2.out.at hlt
      obtain ⟨⟨p, s⟩, hck⟩ : ∃ y, fs.getD i (0, []) = y := ⟨_, rfl⟩
      rw [hck] at hat hat2
      have HQ := Lib.hid (fld_neb p s)
      have HPW := Lib.hid (fun W (h : Below wr.heap.size wr W) => hat W (hB.trans (h.mono hB.size)))
      have HQW := Lib.hid (fun W (h : Below wr.heap.size wr W) => hat2 W (hB.trans (h.mono hB.size)))
      have HRB := Lib.hid (fun W (h : Below wr.heap.size wr W) => view_cells ((h.block _ (Array.getElem?_eq_some_iff.1 hr).1).trans hr))
      have HRC := Lib.hid (fun W (h : Below wr.heap.size wr W) => view_cells ((h.block _ (Array.getElem?_eq_some_iff.1 hr2).1).trans hr2))
      clear hck hB hr hr2 hat hat2
      go_upto_region 6 with (fail)
      clear r1
      refine wp_region_flow [none, none, none, none, none, none, none, none, none, none, none, none, none, none, none, none, none, none, none, none, none, none, none, none, none, none, none, some 0, some 1, some 2, some 3, some 4, some 5, some 6, some 7, some 8, some 9, some 10] (fun i => [u27, u28, u29, u30, u31, u32, u33, u34, u35, u36, u37].getD i undef) [(fun v _ => v = .pointer (some ⟨B, 1, none⟩)), (fun v _ => v = .slice (some ⟨bk, off, none⟩) m cap), (fun v _ => v = .int .i64 (i : Int)), (fun v _ => v = .pointer (some ⟨bk, off + i * 2, none⟩)), (fun v _ => v = .agg #[.int .i64 p, .string (text s)]), (fun v _ => v = .pointer (some ⟨B + 1, 1, none⟩)), (fun v _ => v = .slice (some ⟨bk2, off2, none⟩) m cap2), (fun v _ => v = .int .i64 (i : Int)), (fun v _ => v = .pointer (some ⟨bk2, off2 + i * 2, none⟩)), (fun v _ => v = .agg #[.int .i64 p, .string (text s)]), (fun v _ => v = .bool false)] (by kernel_rfl) (by kernel_rfl) rfl rfl rfl ?_ ?_ ?_
      · intro g hg v X Y hX hY hv
        simp only [List.mem_cons, List.not_mem_nil, or_false] at hg
        rcases hg with rfl | rfl | rfl | rfl | rfl | rfl | rfl | rfl | rfl | rfl | rfl
        all_goals first
          | exact hv
          | exact hv.kept hY
      · simp only [flowOps, and_true]
        refine ⟨?_, ?_, ?_, ?_, ?_, ?_, ?_, ?_, ?_, ?_, ?_⟩
        · intro xs W hW hn
          simp only [flowAct, List.zipWith_cons_cons, List.zipWith_nil_left]
          go_wp2_with (fail)
          exact ⟨rfl, _, rfl, Below.refl _ _, rfl⟩
        · intro xs W hW hn
          obtain ⟨-, rb1, -⟩ := HRB.out W hW
          simp [flowNeeds, Region.binds] at hn
          simp only [flowAct, List.zipWith_cons_cons, List.zipWith_nil_left]
          try simp only [hn]
          go_wp2_with (fail)
          exact ⟨rfl, _, rfl, Below.refl _ _, rfl⟩
        · intro xs W hW hn
          simp only [flowAct, List.zipWith_cons_cons, List.zipWith_nil_left]
          go_wp2_with (fail)
          exact ⟨rfl, _, rfl, Below.refl _ _, rfl⟩
        · intro xs W hW hn
          simp [flowNeeds, Region.binds] at hn
          simp only [flowAct, List.zipWith_cons_cons, List.zipWith_nil_left]
          try simp only [hn]
          go_wp2_with (fail)
          exact ⟨rfl, _, rfl, Below.refl _ _, rfl⟩
        · intro xs W hW hn
          obtain ⟨p0, p1⟩ := HPW.out W hW
          simp [flowNeeds, Region.binds] at hn
          simp only [flowAct, List.zipWith_cons_cons, List.zipWith_nil_left]
          try simp only [hn]
          go_wp2_with (fail)
          exact ⟨rfl, _, rfl, Below.refl _ _, rfl⟩
        · intro xs W hW hn
          simp only [flowAct, List.zipWith_cons_cons, List.zipWith_nil_left]
          go_wp2_with (fail)
          exact ⟨rfl, _, rfl, Below.refl _ _, rfl⟩
        · intro xs W hW hn
          obtain ⟨-, rb1, -⟩ := HRC.out W hW
          simp [flowNeeds, Region.binds] at hn
          simp only [flowAct, List.zipWith_cons_cons, List.zipWith_nil_left]
          try simp only [hn]
          go_wp2_with (fail)
          exact ⟨rfl, _, rfl, Below.refl _ _, rfl⟩
        · intro xs W hW hn
          simp only [flowAct, List.zipWith_cons_cons, List.zipWith_nil_left]
          go_wp2_with (fail)
          exact ⟨rfl, _, rfl, Below.refl _ _, rfl⟩
        · intro xs W hW hn
          simp [flowNeeds, Region.binds] at hn
          simp only [flowAct, List.zipWith_cons_cons, List.zipWith_nil_left]
          try simp only [hn]
          go_wp2_with (fail)
          exact ⟨rfl, _, rfl, Below.refl _ _, rfl⟩
        · intro xs W hW hn
          obtain ⟨p0, p1⟩ := HQW.out W hW
          simp [flowNeeds, Region.binds] at hn
          simp only [flowAct, List.zipWith_cons_cons, List.zipWith_nil_left]
          try simp only [hn]
          go_wp2_with (fail)
          exact ⟨rfl, _, rfl, Below.refl _ _, rfl⟩
        · intro xs W hW hn
          simp [flowNeeds, Region.binds] at hn
          have hq := HQ.out
          have hqg := fld_eqg
          simp only [flowAct, List.zipWith_cons_cons, List.zipWith_nil_left]
          simp only [hn]
          go_wp2_with (fail)
          exact ⟨rfl, _, rfl, Below.refl _ _, rfl⟩
      · intro xs W hW hall
        simp only [flowAll, and_true, Nat.zero_add, Nat.reduceAdd] at hall
        obtain ⟨-, -, -, -, -, -, -, -, -, -, e10⟩ := hall
        simp only [flowAct, List.zipWith_cons_cons, List.zipWith_nil_left]
        simp only [e10]
        go_wp2
        go_roundw
        case rel => exact ⟨i + 1, by omega, by go_num, HB.out.trans (hW.mono HB.out.size), (hW.block _ (Array.getElem?_eq_some_iff.1 HR.out).1).trans HR.out, (hW.block _ (Array.getElem?_eq_some_iff.1 HR2.out).1).trans HR2.out⟩
        case measure => simp [intOf]; omega
    · obtain rfl : i = m := by omega
      clear hB hr hr2
      go_wp2
      go_ret
      exact ⟨rfl, HB.out⟩
end Go.Proofs.YtkjpmdpljdgcjaaDoor
end

section
/-
  Row: the walk of RowChecks.
-/
namespace Go.Proofs.YtkjpmdpljdgcjaaDoor
open Go.RowKit Go Go.Sort
set_option linter.unusedVariables false
set_option maxRecDepth 20000

theorem heap_below {W W' : World} {q : Nat} {o : Obj} (h : W.heap[q]? = some o) (hb : Below W.heap.size W W') : W'.heap[q]? = some o := (hb.block _ (Array.getElem?_eq_some_iff.1 h).1).trans h
theorem rowsAt_one {W : World} {q : Nat} {key : List UInt8} {tk : ByteArray} {a : Option Addr} {m c : Nat} {cs : List Cl} {t : TypeId} (h : W.heap[q]? = some (.cells #[.string tk, .slice a m c] t (0, 0))) (ht : text key = tk) (hl : Cls W a m c cs) : RowsAt W q [(key, cs)] := by
  intro i hi
  obtain rfl : i = 0 := by simpa using hi
  subst ht
  exact ⟨a, m, c, (cell_of_row W q 0 _ _ (0, 0) h).trans rfl, (cell_of_row W q 1 _ _ (0, 0) h).trans rfl, hl⟩
/-- New and View, as a law's walk wants them. -/
theorem RowPost.cells {r : List UInt8 × List Cl × Int} {w : World} {e : Ending} {w' : World} (h : RowPost r w e w') : ∃ a c, e = .returned (.tuple #[.agg #[.string (text r.1), .slice a r.2.1.length c], .int .i64 r.2.2]) ∧ Cls w' a r.2.1.length c r.2.1 ∧ Below w.heap.size w w' := by
  obtain ⟨v, rfl, ho, hb⟩ := h
  obtain ⟨a, c, rfl, hc⟩ := ho.cls
  exact ⟨a, c, rfl, hc, hb⟩
theorem ViewPost.fields {r : List UInt8 × List Fld × Bool} {w : World} {e : Ending} {w' : World} (h : ViewPost r w e w') : ∃ a c, e = .returned (.tuple #[.agg #[.string (text r.1), .slice a r.2.1.length c], .bool r.2.2]) ∧ Flds w' a r.2.1.length c r.2.1 ∧ Below w.heap.size w w' := by
  obtain ⟨v, rfl, ho, hb⟩ := h
  obtain ⟨a, c, rfl, hc⟩ := ho.flds
  exact ⟨a, c, rfl, hc, hb⟩

set_option maxRecDepth 100000 in
set_option maxHeartbeats 12800000 in
theorem rchecks_walk {w : World} {x x2 : Option Addr} {n1 cap m cap2 : Nat} {gs : List Grp} {cs : List Cl} (hg : Grs w x n1 cap gs) (hs : ∀ g ∈ gs, g.1.length ≤ 9223372036854775807)
    (hl : Cls w x2 m cap2 cs) (hx : ∀ c ∈ cs, c.t.length ≤ 9223372036854775807) (key : List UInt8) (hk : key.length ≤ 9223372036854775807) (key2 : List UInt8) (hk2 : key2.length ≤ 9223372036854775807) (hT : TabW w) :
    Calls Tryd.prog 3 #[.slice x n1 cap, .agg #[.string (text key), .slice x2 m cap2], .string (text key2)] w (Tells (.bool true) w) := by
  have hB := alloc_below w (.cells #[.string (text key), .slice x2 m cap2] 25)
  have hr := heap_alloc_new w (.cells #[.string (text key), .slice x2 m cap2] 25)
  have HLv := Lib.hid (fun W (h : Below w.heap.size w W) => rlives_c (hT.below h))
  have hLT := fun W (h : Below w.heap.size w W) (q : Nat) (hr : RowsAt W q [(key, cs)]) => light_c (hg.below h) hr (rfl : _ = 1) (by omega) (fun r hr => by rw [List.mem_singleton.1 hr]; exact hk) (fun r hr => by rw [List.mem_singleton.1 hr]; exact hx)
  have hG := fun W (h : Below w.heap.size w W) => rowgood_c (hg.below h) hs (hl.below h) hx key hk
  have hRG := fun W (h : Below w.heap.size w W) => rrowgood_c (hg.below h) hs (hl.below h) hx key hk
  have hN := fun W (h : Below w.heap.size w W) => (rownew_c (hg.below h) hs key2 hk2).mono fun _ _ h => h.cells
  have hRN := fun W (h : Below w.heap.size w W) => (rrownew_c (hg.below h) hs key2 hk2).mono fun _ _ h => h.cells
  have hV := fun W (h : Below w.heap.size w W) => (view_c (hg.below h) hs (hl.below h) hx key hk).mono fun _ _ h => h.fields
  have hRV := fun W (h : Below w.heap.size w W) => (rview_c (hg.below h) hs (hl.below h) hx key hk).mono fun _ _ h => h.fields
  have hBA := fun W (h : Below w.heap.size w W) => bare_c (hl.below h) (text key)
  have hRB := fun W (h : Below w.heap.size w W) => rbare_c (hl.below h) (text key)
  have hK := fun W (h : Below w.heap.size w W) => known_c (hl.below h) (text key)
  have hRK := fun W (h : Below w.heap.size w W) => rknown_c (hl.below h) (text key)
  have hsz2 : ((text key2).size : Int) = (key2.length : Int) := by rw [text_size]
  obtain ⟨L, hL⟩ : ∃ q, decide (lightN gs.length [(key, cs)] 1 ≤ 5000) = q := ⟨_, rfl⟩
  simp only [hL] at hLT
  obtain ⟨RG, hRGv⟩ : ∃ q, rgoodS gs key cs = q := ⟨_, rfl⟩
  obtain ⟨⟨nk, ncs, nf⟩, hNv⟩ : ∃ q, rnewS gs key2 = q := ⟨_, rfl⟩
  obtain ⟨⟨vk, vfs, vb⟩, hVv⟩ : ∃ q, viewS gs key cs = q := ⟨_, rfl⟩
  obtain ⟨bb, hbb⟩ : ∃ q, bareS cs = q := ⟨_, rfl⟩
  obtain ⟨⟨k0, k1⟩, hkk⟩ : ∃ q, knownS cs = q := ⟨_, rfl⟩
  simp only [hRGv] at hG hRG
  simp only [hNv] at hN hRN
  simp only [hVv] at hV hRV
  simp only [hbb] at hBA hRB
  simp only [hkk] at hK hRK
  obtain ⟨nl, hnl⟩ : ∃ q, ncs.length = q := ⟨_, rfl⟩
  obtain ⟨vl, hvl⟩ : ∃ q, vfs.length = q := ⟨_, rfl⟩
  obtain ⟨tnk, htnk⟩ : ∃ q, text nk = q := ⟨_, rfl⟩
  obtain ⟨tvk, htvk⟩ : ∃ q, text vk = q := ⟨_, rfl⟩
  obtain ⟨tk, htk⟩ : ∃ q, text key = q := ⟨_, rfl⟩
  obtain ⟨tk2, htk2⟩ : ∃ q, text key2 = q := ⟨_, rfl⟩
  obtain ⟨kl2, hkl2⟩ : ∃ q, key2.length = q := ⟨_, rfl⟩
  simp only [hnl, htnk, htk2] at hN hRN
  simp only [hvl, htvk, htk] at hV hRV
  simp only [htk] at hG hRG hBA hRB hK hRK
  rw [htk2, hkl2] at hsz2
  rw [htk] at hB hr
  rw [htk, htk2]
  have hveq := vec_eql k0 k1
  have hvg := vec_eqg .eql
  have HTK := Lib.hid htk
  have HL := Lib.hid hl
  have HLT := Lib.hid hLT
  have HG := Lib.hid hG
  have HRG := Lib.hid hRG
  have HN := Lib.hid hN
  have HRN := Lib.hid hRN
  have HV := Lib.hid hV
  have HRV := Lib.hid hRV
  have HBA := Lib.hid hBA
  have HRB := Lib.hid hRB
  have HK := Lib.hid hK
  have HRK := Lib.hid hRK
  have HB1 := Lib.hid hB
  have HR1 := Lib.hid hr
  clear hLT hG hRG hN hRN hV hRV hBA hRB hK hRK hL hRGv hNv hVv hbb hkk hnl hvl htnk htvk htk htk2 hkl2 hB hr hg hs hl hx hk hk2 hT
  go_enter Tryd.func3, Tryd.ntmps3
  go_upto_region 1 with (fail)
  obtain ⟨B, hB⟩ : ∃ q, w.heap.size = q := ⟨_, rfl⟩
  have HBe := Lib.hid hB
  have HRR := Lib.hid (show (w.alloc (.cells #[.string tk, .slice x2 m cap2] 25)).heap[B]? = some (.cells #[.string tk, .slice x2 m cap2] 25 (0, 0)) from hB ▸ HR1.out)
  rw [hB]
  clear hB HR1
  generalize w.alloc (.cells #[.string tk, .slice x2 m cap2] 25) = W1 at *
  obtain ⟨r0, r1, -⟩ := row_cells HRR.out
  have HB2 := Lib.hid (HB1.out.alloc HB1.out.size (.cells #[.string tk, .slice x2 m cap2] 25))
  have HLC := Lib.hid (HLT.out _ HB2.out _ (rowsAt_one (heap_alloc_new W1 (.cells #[.string tk, .slice x2 m cap2] 25)) HTK.out (HL.out.below HB2.out)))
  have HRR2 := Lib.hid (heap_below HRR.out (alloc_below W1 (.cells #[.string tk, .slice x2 m cap2] 25)))
  clear HLT HB1
  cases L with
  | false =>
    go_wp2_with (first
      | (go_at_call 8; (with_reducible refine HLC.out.mono ?_); rintro e9 w9 ⟨rfl, hb9⟩; have HB3 := Lib.hid (HB2.out.trans (hb9.mono HB2.out.size)); clear hb9)
      | (go_at_call 9; (with_reducible refine (HLv.out _ HB3.out).mono ?_); rintro e9 w8 ⟨rfl, hb9⟩; have HB4 := Lib.hid (HB3.out.trans (hb9.mono HB3.out.size)); clear hb9))
    go_ret
    exact ⟨rfl, HB4.out⟩
  | true =>
    by_cases h2 : 1000 < kl2
    · have h2i : (1000 : Int) < (kl2 : Int) := by omega
      go_wp2_with (first
        | (go_at_call 8; (with_reducible refine HLC.out.mono ?_); rintro e9 w9 ⟨rfl, hb9⟩; have HB3 := Lib.hid (HB2.out.trans (hb9.mono HB2.out.size)); clear hb9)
        | (go_at_call 9; (with_reducible refine (HLv.out _ HB3.out).mono ?_); rintro e9 w8 ⟨rfl, hb9⟩; have HB4 := Lib.hid (HB3.out.trans (hb9.mono HB3.out.size)); clear hb9))
      go_ret
      exact ⟨rfl, HB4.out⟩
    · have h2i : ¬ (1000 : Int) < (kl2 : Int) := by omega
      go_upto_region 3 with (go_at_call 8; (with_reducible refine HLC.out.mono ?_); rintro e9 w9 ⟨rfl, hb9⟩; have HRR3 := Lib.hid (heap_below HRR2.out hb9); have HB3 := Lib.hid (HB2.out.trans (hb9.mono HB2.out.size)); clear hb9)
      clear HLC HRR2 HB2 HRR r0 r1
      go_upto_region 4 with (go_at_call 10; (with_reducible refine (HN.out _ HB3.out).mono ?_); rintro e9 w4 ⟨aA, cA, rfl, hA, hb9⟩; have HRR4 := Lib.hid (heap_below HRR3.out hb9); have HB4 := Lib.hid (HB3.out.trans (hb9.mono HB3.out.size)); have HA := Lib.hid hA; clear hb9 hA)
      have HB4' := Lib.hid (HB4.out.alloc HB4.out.size (.cells #[.string tnk, .slice aA nl cA] 25))
      have HbA := Lib.hid (heap_alloc_new w4 (.cells #[.string tnk, .slice aA nl cA] 25))
      replace HRR4 := Lib.hid (heap_below HRR4.out (alloc_below w4 (.cells #[.string tnk, .slice aA nl cA] 25)))
      replace HA := Lib.hid (HA.out.below (alloc_below w4 (.cells #[.string tnk, .slice aA nl cA] 25)))
      obtain ⟨qbA, hq⟩ : ∃ q, w4.heap.size = q := ⟨_, rfl⟩
      rw [hq] at HbA ⊢
      clear hq
      generalize w4.alloc (.cells #[.string tnk, .slice aA nl cA] 25) = V4 at *
      go_upto_region 5 with (go_at_call 11; (with_reducible refine (HRN.out _ HB4'.out).mono ?_); rintro e9 w5 ⟨aB, cB, rfl, hB, hb9⟩; have HB5 := Lib.hid (HB4'.out.trans (hb9.mono HB4'.out.size)); replace HRR4 := Lib.hid (heap_below HRR4.out hb9); replace HbA := Lib.hid (heap_below HbA.out hb9); replace HA := Lib.hid (HA.out.below hb9); have HB := Lib.hid hB; clear hb9 hB)
      have HB5' := Lib.hid (HB5.out.alloc HB5.out.size (.cells #[.string tnk, .slice aB nl cB] 25))
      have HbB := Lib.hid (heap_alloc_new w5 (.cells #[.string tnk, .slice aB nl cB] 25))
      replace HRR4 := Lib.hid (heap_below HRR4.out (alloc_below w5 (.cells #[.string tnk, .slice aB nl cB] 25)))
      replace HbA := Lib.hid (heap_below HbA.out (alloc_below w5 (.cells #[.string tnk, .slice aB nl cB] 25)))
      replace HA := Lib.hid (HA.out.below (alloc_below w5 (.cells #[.string tnk, .slice aB nl cB] 25)))
      replace HB := Lib.hid (HB.out.below (alloc_below w5 (.cells #[.string tnk, .slice aB nl cB] 25)))
      obtain ⟨qbB, hq⟩ : ∃ q, w5.heap.size = q := ⟨_, rfl⟩
      rw [hq] at HbB ⊢
      clear hq
      generalize w5.alloc (.cells #[.string tnk, .slice aB nl cB] 25) = V5 at *
      obtain ⟨r0, r1, -⟩ := row_cells HRR4.out
      go_upto_region 6 with (go_at_call 12; (with_reducible refine (HV.out _ HB5'.out).mono ?_); rintro e9 w6 ⟨aC, cC, rfl, hC, hb9⟩; have HB6 := Lib.hid (HB5'.out.trans (hb9.mono HB5'.out.size)); replace HRR4 := Lib.hid (heap_below HRR4.out hb9); replace HbA := Lib.hid (heap_below HbA.out hb9); replace HbB := Lib.hid (heap_below HbB.out hb9); replace HA := Lib.hid (HA.out.below hb9); replace HB := Lib.hid (HB.out.below hb9); have HC := Lib.hid hC; clear hb9 hC)
      have HB6' := Lib.hid (HB6.out.alloc HB6.out.size (.cells #[.string tvk, .slice aC vl cC] 35))
      have HbC := Lib.hid (heap_alloc_new w6 (.cells #[.string tvk, .slice aC vl cC] 35))
      replace HRR4 := Lib.hid (heap_below HRR4.out (alloc_below w6 (.cells #[.string tvk, .slice aC vl cC] 35)))
      replace HbA := Lib.hid (heap_below HbA.out (alloc_below w6 (.cells #[.string tvk, .slice aC vl cC] 35)))
      replace HbB := Lib.hid (heap_below HbB.out (alloc_below w6 (.cells #[.string tvk, .slice aC vl cC] 35)))
      replace HA := Lib.hid (HA.out.below (alloc_below w6 (.cells #[.string tvk, .slice aC vl cC] 35)))
      replace HB := Lib.hid (HB.out.below (alloc_below w6 (.cells #[.string tvk, .slice aC vl cC] 35)))
      replace HC := Lib.hid (HC.out.below (alloc_below w6 (.cells #[.string tvk, .slice aC vl cC] 35)))
      obtain ⟨qbC, hq⟩ : ∃ q, w6.heap.size = q := ⟨_, rfl⟩
      rw [hq] at HbC ⊢
      clear hq
      generalize w6.alloc (.cells #[.string tvk, .slice aC vl cC] 35) = V6 at *
      clear r0 r1
      obtain ⟨r0, r1, -⟩ := row_cells HRR4.out
      go_upto_region 7 with (go_at_call 13; (with_reducible refine (HRV.out _ HB6'.out).mono ?_); rintro e9 w7 ⟨aD, cD, rfl, hD, hb9⟩; have HB7 := Lib.hid (HB6'.out.trans (hb9.mono HB6'.out.size)); replace HRR4 := Lib.hid (heap_below HRR4.out hb9); replace HbA := Lib.hid (heap_below HbA.out hb9); replace HbB := Lib.hid (heap_below HbB.out hb9); replace HbC := Lib.hid (heap_below HbC.out hb9); replace HA := Lib.hid (HA.out.below hb9); replace HB := Lib.hid (HB.out.below hb9); replace HC := Lib.hid (HC.out.below hb9); have HD := Lib.hid hD; clear hb9 hD)
      have HB7' := Lib.hid (HB7.out.alloc HB7.out.size (.cells #[.string tvk, .slice aD vl cD] 35))
      have HbD := Lib.hid (heap_alloc_new w7 (.cells #[.string tvk, .slice aD vl cD] 35))
      replace HRR4 := Lib.hid (heap_below HRR4.out (alloc_below w7 (.cells #[.string tvk, .slice aD vl cD] 35)))
      replace HbA := Lib.hid (heap_below HbA.out (alloc_below w7 (.cells #[.string tvk, .slice aD vl cD] 35)))
      replace HbB := Lib.hid (heap_below HbB.out (alloc_below w7 (.cells #[.string tvk, .slice aD vl cD] 35)))
      replace HbC := Lib.hid (heap_below HbC.out (alloc_below w7 (.cells #[.string tvk, .slice aD vl cD] 35)))
      replace HA := Lib.hid (HA.out.below (alloc_below w7 (.cells #[.string tvk, .slice aD vl cD] 35)))
      replace HB := Lib.hid (HB.out.below (alloc_below w7 (.cells #[.string tvk, .slice aD vl cD] 35)))
      replace HC := Lib.hid (HC.out.below (alloc_below w7 (.cells #[.string tvk, .slice aD vl cD] 35)))
      replace HD := Lib.hid (HD.out.below (alloc_below w7 (.cells #[.string tvk, .slice aD vl cD] 35)))
      obtain ⟨qbD, hq⟩ : ∃ q, w7.heap.size = q := ⟨_, rfl⟩
      rw [hq] at HbD ⊢
      clear hq
      generalize w7.alloc (.cells #[.string tvk, .slice aD vl cD] 35) = V7 at *
      clear r0 r1
      have HCR := Lib.hid (fun W (h : Below V7.heap.size V7 W) => row_cells (heap_below HRR4.out h))
      have HCA := Lib.hid (fun W (h : Below V7.heap.size V7 W) => row_cells (heap_below HbA.out h))
      have HCB := Lib.hid (fun W (h : Below V7.heap.size V7 W) => row_cells (heap_below HbB.out h))
      have HCC := Lib.hid (fun W (h : Below V7.heap.size V7 W) => view_cells (heap_below HbC.out h))
      have HCD := Lib.hid (fun W (h : Below V7.heap.size V7 W) => view_cells (heap_below HbD.out h))
      have HSR := Lib.hid (fun W (h : Below V7.heap.size V7 W) => rrowsame_c (HA.out.below h) (HB.out.below h) tnk)
      have HSV := Lib.hid (fun W (h : Below V7.heap.size V7 W) => rsameview_c (HC.out.below h) (HD.out.below h) tvk)
      have HBW := Lib.hid (fun W (h : Below V7.heap.size V7 W) => HB7'.out.trans (h.mono HB7'.out.size))
      clear HRR4 HbA HbB HbC HbD HA HB HC HD HN HRN HV HRV HL HTK
      refine wp_region_flow_tail 44 [none, none, none, none, none, none, none, none, none, none, none, none, none, none, none, none, none, none, none, none, none, none, none, none, none, none, none, none, none, none, none, none, none, none, none, none, none, none, none, none, none, none, none, none, none, none, none, none, none, none, some 0, some 1, some 2, some 3, some 4, some 5, some 6, some 7, some 8, some 9, some 10, some 11, some 12, some 13, some 14, some 15, some 16, some 17, some 18, some 19, some 20, some 21, some 22, some 23, some 24, some 25, some 26, some 27, some 28, some 29, some 30, some 31, some 32, some 33, some 34, some 35, some 36, some 37, some 38, some 39, some 40, some 41, some 42, some 43] (fun i => [undef, undef, undef, undef, undef, undef, undef, undef, undef, undef, undef, undef, undef, undef, undef, undef, undef, undef, undef, undef, undef, undef, undef, undef, undef, undef, undef, undef, undef, undef, undef, undef, undef, undef, undef, undef, undef, undef, undef, undef, undef, undef, undef, undef].getD i undef) [(fun v _ => v = .slice x n1 cap), (fun v _ => v = .agg #[.string tk, .slice x2 m cap2]), (fun v _ => v = .int .i64 RG), (fun v _ => v = .slice x n1 cap), (fun v _ => v = .agg #[.string tk, .slice x2 m cap2]), (fun v _ => v = .int .i64 RG), (fun v _ => v = .bool true), (fun v _ => v = .bool true), (fun v _ => v = .agg #[.string tnk, .slice aA nl cA]), (fun v _ => v = .agg #[.string tnk, .slice aB nl cB]), (fun v _ => v = .bool true), (fun v _ => v = .bool true), (fun v _ => v = .bool true), (fun v _ => v = .int .i64 nf), (fun v _ => v = .int .i64 nf), (fun v _ => v = .bool true), (fun v _ => v = .bool true), (fun v _ => v = .bool true), (fun v _ => v = .agg #[.string tvk, .slice aC vl cC]), (fun v _ => v = .agg #[.string tvk, .slice aD vl cD]), (fun v _ => v = .bool true), (fun v _ => v = .bool true), (fun v _ => v = .bool true), (fun v _ => v = .bool vb), (fun v _ => v = .bool vb), (fun v _ => v = .bool true), (fun v _ => v = .bool true), (fun v _ => v = .bool true), (fun v _ => v = .agg #[.string tk, .slice x2 m cap2]), (fun v _ => v = .bool bb), (fun v _ => v = .agg #[.string tk, .slice x2 m cap2]), (fun v _ => v = .bool bb), (fun v _ => v = .bool true), (fun v _ => v = .bool true), (fun v _ => v = .bool true), (fun v _ => v = .agg #[.string tk, .slice x2 m cap2]), (fun v _ => v = .agg #[.int .i64 k0, .int .i64 k1]), (fun v _ => v = .agg #[.string tk, .slice x2 m cap2]), (fun v _ => v = .agg #[.int .i64 k0, .int .i64 k1]), (fun v _ => v = .bool true), (fun v _ => v = .bool true), (fun v _ => v = .bool true), (fun v _ => v = .bool true), (fun v _ => v = .bool true)] (fun _ => False) (by kernel_rfl) (by kernel_rfl) (by kernel_rfl) rfl rfl rfl ?_ ?_ ?_
      · intro g hg v X Y hX hY hv
        simp only [List.mem_cons, List.not_mem_nil, or_false] at hg
        rcases hg with rfl | rfl | rfl | rfl | rfl | rfl | rfl | rfl | rfl | rfl | rfl | rfl | rfl | rfl | rfl | rfl | rfl | rfl | rfl | rfl | rfl | rfl | rfl | rfl | rfl | rfl | rfl | rfl | rfl | rfl | rfl | rfl | rfl | rfl | rfl | rfl | rfl | rfl | rfl | rfl | rfl | rfl | rfl | rfl
        all_goals first
          | exact hv
          | exact hv.kept hY
      · simp only [flowOpsF, List.take_succ_cons, List.take_zero, and_true]
        refine ⟨?_, ?_, ?_, ?_, ?_, ?_, ?_, ?_, ?_, ?_, ?_, ?_, ?_, ?_, ?_, ?_, ?_, ?_, ?_, ?_, ?_, ?_, ?_, ?_, ?_, ?_, ?_, ?_, ?_, ?_, ?_, ?_, ?_, ?_, ?_, ?_, ?_, ?_, ?_, ?_, ?_, ?_, ?_, ?_⟩
        · intro xs W hW hn
          simp only [flowAct, List.zipWith_cons_cons, List.zipWith_nil_left]
          go_wp2_with (fail)
          exact ⟨rfl, _, rfl, Below.refl _ _, rfl, fun h => h.elim⟩
        · intro xs W hW hn
          obtain ⟨c0, c1, -⟩ := HCR.out W hW
          simp only [flowAct, List.zipWith_cons_cons, List.zipWith_nil_left]
          go_wp2_with (fail)
          exact ⟨rfl, _, rfl, Below.refl _ _, rfl, fun h => h.elim⟩
        · intro xs W hW hn
          try simp [flowNeeds, Region.binds] at hn
          simp only [flowAct, List.zipWith_cons_cons, List.zipWith_nil_left]
          try simp only [hn]
          go_wp2_with (go_at_call 14; (with_reducible refine (HG.out _ (HBW.out W hW)).mono ?_); rintro e9 w9 ⟨rfl, hb9⟩)
          exact ⟨rfl, _, rfl, hb9, rfl, fun h => h.elim⟩
        · intro xs W hW hn
          simp only [flowAct, List.zipWith_cons_cons, List.zipWith_nil_left]
          go_wp2_with (fail)
          exact ⟨rfl, _, rfl, Below.refl _ _, rfl, fun h => h.elim⟩
        · intro xs W hW hn
          obtain ⟨c0, c1, -⟩ := HCR.out W hW
          simp only [flowAct, List.zipWith_cons_cons, List.zipWith_nil_left]
          go_wp2_with (fail)
          exact ⟨rfl, _, rfl, Below.refl _ _, rfl, fun h => h.elim⟩
        · intro xs W hW hn
          try simp [flowNeeds, Region.binds] at hn
          simp only [flowAct, List.zipWith_cons_cons, List.zipWith_nil_left]
          try simp only [hn]
          go_wp2_with (go_at_call 15; (with_reducible refine (HRG.out _ (HBW.out W hW)).mono ?_); rintro e9 w9 ⟨rfl, hb9⟩)
          exact ⟨rfl, _, rfl, hb9, rfl, fun h => h.elim⟩
        · intro xs W hW hn
          simp [flowNeeds, Region.binds] at hn
          simp only [flowAct, List.zipWith_cons_cons, List.zipWith_nil_left]
          try simp only [hn]
          go_wp2_with (fail)
          exact ⟨rfl, _, rfl, Below.refl _ _, rfl, fun h => h.elim⟩
        · intro xs W hW hn
          simp [flowNeeds, Region.binds] at hn
          simp only [flowAct, List.zipWith_cons_cons, List.zipWith_nil_left]
          try simp only [hn]
          go_wp2_with (fail)
          exact ⟨rfl, _, rfl, Below.refl _ _, rfl, fun h => h.elim⟩
        · intro xs W hW hn
          obtain ⟨c0, c1, -⟩ := HCA.out W hW
          simp [flowNeeds, Region.binds] at hn
          simp only [flowAct, List.zipWith_cons_cons, List.zipWith_nil_left]
          try simp only [hn]
          go_wp2_with (fail)
          exact ⟨rfl, _, rfl, Below.refl _ _, rfl, fun h => h.elim⟩
        · intro xs W hW hn
          obtain ⟨c0, c1, -⟩ := HCB.out W hW
          simp [flowNeeds, Region.binds] at hn
          simp only [flowAct, List.zipWith_cons_cons, List.zipWith_nil_left]
          try simp only [hn]
          go_wp2_with (fail)
          exact ⟨rfl, _, rfl, Below.refl _ _, rfl, fun h => h.elim⟩
        · intro xs W hW hn
          try simp [flowNeeds, Region.binds] at hn
          simp only [flowAct, List.zipWith_cons_cons, List.zipWith_nil_left]
          try simp only [hn]
          go_wp2_with (go_at_call 16; (with_reducible refine (HSR.out _ hW).mono ?_); rintro e9 w9 ⟨rfl, hb9⟩)
          exact ⟨rfl, _, rfl, hb9, rfl, fun h => h.elim⟩
        · intro xs W hW hn
          simp [flowNeeds, Region.binds] at hn
          simp only [flowAct, List.zipWith_cons_cons, List.zipWith_nil_left]
          try simp only [hn]
          go_wp2_with (fail)
          exact ⟨rfl, _, rfl, Below.refl _ _, rfl, fun h => h.elim⟩
        · intro xs W hW hn
          simp [flowNeeds, Region.binds] at hn
          simp only [flowAct, List.zipWith_cons_cons, List.zipWith_nil_left]
          try simp only [hn]
          go_wp2_with (fail)
          exact ⟨rfl, _, rfl, Below.refl _ _, rfl, fun h => h.elim⟩
        · intro xs W hW hn
          simp [flowNeeds, Region.binds] at hn
          simp only [flowAct, List.zipWith_cons_cons, List.zipWith_nil_left]
          try simp only [hn]
          go_wp2_with (fail)
          exact ⟨rfl, _, rfl, Below.refl _ _, rfl, fun h => h.elim⟩
        · intro xs W hW hn
          simp [flowNeeds, Region.binds] at hn
          simp only [flowAct, List.zipWith_cons_cons, List.zipWith_nil_left]
          try simp only [hn]
          go_wp2_with (fail)
          exact ⟨rfl, _, rfl, Below.refl _ _, rfl, fun h => h.elim⟩
        · intro xs W hW hn
          simp [flowNeeds, Region.binds] at hn
          simp only [flowAct, List.zipWith_cons_cons, List.zipWith_nil_left]
          try simp only [hn]
          go_wp2_with (fail)
          exact ⟨rfl, _, rfl, Below.refl _ _, rfl, fun h => h.elim⟩
        · intro xs W hW hn
          simp [flowNeeds, Region.binds] at hn
          simp only [flowAct, List.zipWith_cons_cons, List.zipWith_nil_left]
          try simp only [hn]
          go_wp2_with (fail)
          exact ⟨rfl, _, rfl, Below.refl _ _, rfl, fun h => h.elim⟩
        · intro xs W hW hn
          simp [flowNeeds, Region.binds] at hn
          simp only [flowAct, List.zipWith_cons_cons, List.zipWith_nil_left]
          try simp only [hn]
          go_wp2_with (fail)
          exact ⟨rfl, _, rfl, Below.refl _ _, rfl, fun h => h.elim⟩
        · intro xs W hW hn
          obtain ⟨c0, c1, -⟩ := HCC.out W hW
          simp [flowNeeds, Region.binds] at hn
          simp only [flowAct, List.zipWith_cons_cons, List.zipWith_nil_left]
          try simp only [hn]
          go_wp2_with (fail)
          exact ⟨rfl, _, rfl, Below.refl _ _, rfl, fun h => h.elim⟩
        · intro xs W hW hn
          obtain ⟨c0, c1, -⟩ := HCD.out W hW
          simp [flowNeeds, Region.binds] at hn
          simp only [flowAct, List.zipWith_cons_cons, List.zipWith_nil_left]
          try simp only [hn]
          go_wp2_with (fail)
          exact ⟨rfl, _, rfl, Below.refl _ _, rfl, fun h => h.elim⟩
        · intro xs W hW hn
          try simp [flowNeeds, Region.binds] at hn
          simp only [flowAct, List.zipWith_cons_cons, List.zipWith_nil_left]
          try simp only [hn]
          go_wp2_with (go_at_call 17; (with_reducible refine (HSV.out _ hW).mono ?_); rintro e9 w9 ⟨rfl, hb9⟩)
          exact ⟨rfl, _, rfl, hb9, rfl, fun h => h.elim⟩
        · intro xs W hW hn
          simp [flowNeeds, Region.binds] at hn
          simp only [flowAct, List.zipWith_cons_cons, List.zipWith_nil_left]
          try simp only [hn]
          go_wp2_with (fail)
          exact ⟨rfl, _, rfl, Below.refl _ _, rfl, fun h => h.elim⟩
        · intro xs W hW hn
          simp [flowNeeds, Region.binds] at hn
          simp only [flowAct, List.zipWith_cons_cons, List.zipWith_nil_left]
          try simp only [hn]
          go_wp2_with (fail)
          exact ⟨rfl, _, rfl, Below.refl _ _, rfl, fun h => h.elim⟩
        · intro xs W hW hn
          simp [flowNeeds, Region.binds] at hn
          simp only [flowAct, List.zipWith_cons_cons, List.zipWith_nil_left]
          try simp only [hn]
          go_wp2_with (fail)
          exact ⟨rfl, _, rfl, Below.refl _ _, rfl, fun h => h.elim⟩
        · intro xs W hW hn
          simp [flowNeeds, Region.binds] at hn
          simp only [flowAct, List.zipWith_cons_cons, List.zipWith_nil_left]
          try simp only [hn]
          go_wp2_with (fail)
          exact ⟨rfl, _, rfl, Below.refl _ _, rfl, fun h => h.elim⟩
        · intro xs W hW hn
          simp [flowNeeds, Region.binds] at hn
          simp only [flowAct, List.zipWith_cons_cons, List.zipWith_nil_left]
          try simp only [hn]
          go_wp2_with (fail)
          exact ⟨rfl, _, rfl, Below.refl _ _, rfl, fun h => h.elim⟩
        · intro xs W hW hn
          simp [flowNeeds, Region.binds] at hn
          simp only [flowAct, List.zipWith_cons_cons, List.zipWith_nil_left]
          try simp only [hn]
          go_wp2_with (fail)
          exact ⟨rfl, _, rfl, Below.refl _ _, rfl, fun h => h.elim⟩
        · intro xs W hW hn
          simp [flowNeeds, Region.binds] at hn
          simp only [flowAct, List.zipWith_cons_cons, List.zipWith_nil_left]
          try simp only [hn]
          go_wp2_with (fail)
          exact ⟨rfl, _, rfl, Below.refl _ _, rfl, fun h => h.elim⟩
        · intro xs W hW hn
          obtain ⟨c0, c1, -⟩ := HCR.out W hW
          simp [flowNeeds, Region.binds] at hn
          simp only [flowAct, List.zipWith_cons_cons, List.zipWith_nil_left]
          try simp only [hn]
          go_wp2_with (fail)
          exact ⟨rfl, _, rfl, Below.refl _ _, rfl, fun h => h.elim⟩
        · intro xs W hW hn
          try simp [flowNeeds, Region.binds] at hn
          simp only [flowAct, List.zipWith_cons_cons, List.zipWith_nil_left]
          try simp only [hn]
          go_wp2_with (go_at_call 18; (with_reducible refine (HBA.out _ (HBW.out W hW)).mono ?_); rintro e9 w9 ⟨rfl, hb9⟩)
          exact ⟨rfl, _, rfl, hb9, rfl, fun h => h.elim⟩
        · intro xs W hW hn
          obtain ⟨c0, c1, -⟩ := HCR.out W hW
          simp [flowNeeds, Region.binds] at hn
          simp only [flowAct, List.zipWith_cons_cons, List.zipWith_nil_left]
          try simp only [hn]
          go_wp2_with (fail)
          exact ⟨rfl, _, rfl, Below.refl _ _, rfl, fun h => h.elim⟩
        · intro xs W hW hn
          try simp [flowNeeds, Region.binds] at hn
          simp only [flowAct, List.zipWith_cons_cons, List.zipWith_nil_left]
          try simp only [hn]
          go_wp2_with (go_at_call 19; (with_reducible refine (HRB.out _ (HBW.out W hW)).mono ?_); rintro e9 w9 ⟨rfl, hb9⟩)
          exact ⟨rfl, _, rfl, hb9, rfl, fun h => h.elim⟩
        · intro xs W hW hn
          simp [flowNeeds, Region.binds] at hn
          simp only [flowAct, List.zipWith_cons_cons, List.zipWith_nil_left]
          try simp only [hn]
          go_wp2_with (fail)
          exact ⟨rfl, _, rfl, Below.refl _ _, rfl, fun h => h.elim⟩
        · intro xs W hW hn
          simp [flowNeeds, Region.binds] at hn
          simp only [flowAct, List.zipWith_cons_cons, List.zipWith_nil_left]
          try simp only [hn]
          go_wp2_with (fail)
          exact ⟨rfl, _, rfl, Below.refl _ _, rfl, fun h => h.elim⟩
        · intro xs W hW hn
          simp [flowNeeds, Region.binds] at hn
          simp only [flowAct, List.zipWith_cons_cons, List.zipWith_nil_left]
          try simp only [hn]
          go_wp2_with (fail)
          exact ⟨rfl, _, rfl, Below.refl _ _, rfl, fun h => h.elim⟩
        · intro xs W hW hn
          obtain ⟨c0, c1, -⟩ := HCR.out W hW
          simp [flowNeeds, Region.binds] at hn
          simp only [flowAct, List.zipWith_cons_cons, List.zipWith_nil_left]
          try simp only [hn]
          go_wp2_with (fail)
          exact ⟨rfl, _, rfl, Below.refl _ _, rfl, fun h => h.elim⟩
        · intro xs W hW hn
          try simp [flowNeeds, Region.binds] at hn
          simp only [flowAct, List.zipWith_cons_cons, List.zipWith_nil_left]
          try simp only [hn]
          go_wp2_with (go_at_call 20; (with_reducible refine (HK.out _ (HBW.out W hW)).mono ?_); rintro e9 w9 ⟨rfl, hb9⟩)
          exact ⟨rfl, _, rfl, hb9, rfl, fun h => h.elim⟩
        · intro xs W hW hn
          obtain ⟨c0, c1, -⟩ := HCR.out W hW
          simp [flowNeeds, Region.binds] at hn
          simp only [flowAct, List.zipWith_cons_cons, List.zipWith_nil_left]
          try simp only [hn]
          go_wp2_with (fail)
          exact ⟨rfl, _, rfl, Below.refl _ _, rfl, fun h => h.elim⟩
        · intro xs W hW hn
          try simp [flowNeeds, Region.binds] at hn
          simp only [flowAct, List.zipWith_cons_cons, List.zipWith_nil_left]
          try simp only [hn]
          go_wp2_with (go_at_call 21; (with_reducible refine (HRK.out _ (HBW.out W hW)).mono ?_); rintro e9 w9 ⟨rfl, hb9⟩)
          exact ⟨rfl, _, rfl, hb9, rfl, fun h => h.elim⟩
        · intro xs W hW hn
          simp [flowNeeds, Region.binds] at hn
          simp only [flowAct, List.zipWith_cons_cons, List.zipWith_nil_left]
          try simp only [hn]
          go_wp2_with (fail)
          exact ⟨rfl, _, rfl, Below.refl _ _, rfl, fun h => h.elim⟩
        · intro xs W hW hn
          simp [flowNeeds, Region.binds] at hn
          simp only [flowAct, List.zipWith_cons_cons, List.zipWith_nil_left]
          try simp only [hn]
          go_wp2_with (fail)
          exact ⟨rfl, _, rfl, Below.refl _ _, rfl, fun h => h.elim⟩
        · intro xs W hW hn
          simp [flowNeeds, Region.binds] at hn
          simp only [flowAct, List.zipWith_cons_cons, List.zipWith_nil_left]
          try simp only [hn]
          go_wp2_with (fail)
          exact ⟨rfl, _, rfl, Below.refl _ _, rfl, fun h => h.elim⟩
        · intro xs W hW hn
          try simp [flowNeeds, Region.binds] at hn
          simp only [flowAct, List.zipWith_cons_cons, List.zipWith_nil_left]
          try simp only [hn]
          go_wp2_with (go_at_call 9; (with_reducible refine (HLv.out _ (HBW.out W hW)).mono ?_); rintro e9 w9 ⟨rfl, hb9⟩)
          exact ⟨rfl, _, rfl, hb9, rfl, fun h => h.elim⟩
        · intro xs W hW hn
          simp [flowNeeds, Region.binds] at hn
          simp only [flowAct, List.zipWith_cons_cons, List.zipWith_nil_left]
          try simp only [hn]
          go_wp2_with (fail)
          exact ⟨rfl, _, rfl, Below.refl _ _, rfl, fun h => h.elim⟩
      · intro xs W hW hall hfr
        clear hfr
        simp only [flowAll, and_true, Nat.zero_add, Nat.reduceAdd] at hall
        obtain ⟨-, -, -, -, -, -, -, -, -, -, -, -, -, -, -, -, -, -, -, -, -, -, -, -, -, -, -, -, -, -, -, -, -, -, -, -, -, -, -, -, -, -, -, e43⟩ := hall
        simp only [flowAct, List.zipWith_cons_cons, List.zipWith_nil_left, List.drop_succ_cons, List.drop_zero]
        simp only [e43]
        go_wp2
        go_ret
        exact ⟨rfl, HBW.out W hW⟩
end Go.Proofs.YtkjpmdpljdgcjaaDoor
end

