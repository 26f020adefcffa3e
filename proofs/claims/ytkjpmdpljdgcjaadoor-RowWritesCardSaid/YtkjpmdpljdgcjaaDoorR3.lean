/-
  Merged: MJ MK ML MM MN MO MQ.
-/
import Derived.Test.YtkjpmdpljdgcjaaDoorR2
import Derived.Test.YtkjpmdpljdgcjaaDoorKD
import Derived.OwnWalk
import Derived.Test.YtkjpmdpljdgcjaaDoorR0

section
/-
  Row: the program's lay.
-/
namespace Go.Proofs.YtkjpmdpljdgcjaaDoor
open Go.RowKit Go Go.Sort
set_option linter.unusedVariables false
set_option maxRecDepth 20000

attribute [local go_sem] Oper.semAt_some
/-- A row's bytes up to a group. -/
def rlayN (gs : List Grp) (key : List UInt8) (cs : List Cl) : Nat → List UInt8
  | 0 => putTextS [] key
  | k + 1 => cputS (rlayN gs key cs k) (gs.getD k ([], 0)).2 (cs.getD k Cl.zero)
/-- Between two rounds. -/
def LayI (gs : List Grp) (key : List UInt8) (cs : List Cl) (n₀ G0 base : Nat) (w : World) (xs : List Nat) (W : World) : Prop :=
  ∃ vb, Boxed W G0 59 vb ∧ OwnB W n₀ 5 vb (rlayN gs key cs xs.length) ∧ Below n₀ w W ∧ base ≤ W.heap.size
theorem LayI.own {gs : List Grp} {cs : List Cl} {key : List UInt8} {n₀ G0 base B9 : Nat} {w : World} (h1 : n₀ ≤ B9) (h2 : n₀ ≤ base) : OwnT B9 87 (LayI gs key cs n₀ G0 base w) := by
  rintro xs X Y row ⟨vb, hb, ho, hw, hs⟩ hg hr
  exact ⟨vb, turn_keep hg hr hb (by decide), turn_row hg hr ho (by decide), turn_below hg hr h1 (Nat.le_trans h2 hs) hw, Nat.le_trans hs hg.size⟩

set_option maxRecDepth 100000 in
set_option maxHeartbeats 6400000 in
theorem rlay_c {w : World} {x x2 : Option Addr} {cap m cap2 : Nat} {gs : List Grp} {cs : List Cl} (hg : Grs w x m cap gs)
    (hl : Cls w x2 m cap2 cs) (key : List UInt8) (hk : key.length ≤ 6000) (hLN : ∀ k, k < m → (rlayN gs key cs k).length ≤ 6000 ∧ (cs.getD k Cl.zero).t.length ≤ 6000) (hT : TabW w) :
    Calls Tryd.prog 55 #[.slice x m cap, .agg #[.string (text key), .slice x2 m cap2]] w (BytesPost (rlayN gs key cs m) w) := by
  have hgl := hg.len
  have hll := hl.len
  have hle1 := hg.le
  have hmax1 := hg.max
  have hle2 := hl.le
  have hmax2 := hl.max
  have hPT := fun W (h : Below w.heap.size w W) => puttext_c (w := W) (a := none) (m := 0) (cap := 0) (l := []) ⟨rfl, Nat.le_refl _, by omega, .inl rfl⟩ (text key) (by omega) (by rw [text_size]; omega) (hT.below h)
  simp only [text_back] at hPT
  obtain ⟨tk, htk⟩ : ∃ z, text key = z := ⟨_, rfl⟩
  rw [htk] at hPT ⊢
  have hr := heap_alloc_new w (.cells #[.string tk, .slice x2 m cap2] 25)
  have hb := alloc_below w (.cells #[.string tk, .slice x2 m cap2] 25)
  have r0 : (w.alloc (.cells #[.string tk, .slice x2 m cap2] 25)).cell? ⟨w.heap.size, 0, none⟩ = some (.string tk) := by rw [cell_of_row _ w.heap.size 0 _ _ (0, 0) hr]; rfl
  have HPT := Lib.hid hPT
  have HR1 := Lib.hid hr
  have HB1 := Lib.hid hb
  clear hPT hr hb hk htk
  refine (callsIn_wide (n := 3)).1 ?_
  refine callsIn_of_wp_marks Tryd.func55 rfl trivial ?_ rfl
  simp only [Tryd.ntmps55, List.size_toArray, List.length_cons, List.length_nil, Nat.reduceAdd, Nat.reduceSub, Array.replicate_succ, Array.replicate_zero, List.push_toArray, List.append_toArray, List.nil_append, List.cons_append]
  gi_wp2_with fail
  refine ⟨trivial, (callsIn_wide.2 (HPT.out _ HB1.out)).mono ?_⟩
  rintro e w2 ⟨v1, rfl, ho1, hb2⟩
  have hr2 := (hb2.block _ (Array.getElem?_eq_some_iff.1 HR1.out).1).trans HR1.out
  have hB2 := HB1.out.trans (hb2.mono HB1.out.size)
  have ho2 := ho1.mono HB1.out.size
  clear r0 ho1 hb2 HPT HR1 HB1
  obtain ⟨B, hB⟩ : ∃ q, w.heap.size = q := ⟨_, rfl⟩
  have HBe := Lib.hid hB
  rw [hB] at hr2 ⊢
  clear hB
  have hrA : (w2.alloc (.cells #[v1] 59)).heap[B]? = some (.cells #[.string tk, .slice x2 m cap2] 25 (0, 0)) := (Below.heap_alloc w2 (.cells #[v1] 59) B (Array.getElem?_eq_some_iff.1 hr2).1).trans hr2
  have r0 : (w2.alloc (.cells #[v1] 59)).cell? ⟨B, 0, none⟩ = some (.string tk) := by rw [cell_of_row _ B 0 _ _ (0, 0) hrA]; rfl
  have r1 : (w2.alloc (.cells #[v1] 59)).cell? ⟨B, 1, none⟩ = some (.slice x2 m cap2) := by rw [cell_of_row _ B 1 _ _ (0, 0) hrA]; rfl
  have HR2 := Lib.hid hr2
  have HB2 := Lib.hid hB2
  have HO2 := Lib.hid ho2
  obtain ⟨a1, k1, ev1, -⟩ := ho2.bys
  have HV1 := Lib.hid (show v1 = .slice a1 (rlayN gs key cs 0).length k1 from ev1)
  clear hrA hr2 hB2 ho2
  subst ev1
  gi_wp2_with fail
  refine ⟨trivial, (callsIn_wide.2 places_c).mono ?_⟩
  rintro e w1 ⟨rfl, rfl⟩
  clear r0 r1
  gi_wp2_with fail
  have bF := heap_alloc_new w2 (.cells #[.slice a1 (putTextS [] key).length k1] 59)
  have bL := heap_alloc_new (w2.alloc (.cells #[.slice a1 (putTextS [] key).length k1] 59)) (.cells #[.slice x m cap] 22)
  have bR := heap_alloc_new ((w2.alloc (.cells #[.slice a1 (putTextS [] key).length k1] 59)).alloc (.cells #[.slice x m cap] 22)) (.cells #[.string tk, .slice x2 m cap2] 25)
  replace bL := (Below.heap_alloc ((w2.alloc (.cells #[.slice a1 (putTextS [] key).length k1] 59)).alloc (.cells #[.slice x m cap] 22)) (.cells #[.string tk, .slice x2 m cap2] 25) (w2.alloc (.cells #[.slice a1 (putTextS [] key).length k1] 59)).heap.size (by simp)).trans bL
  replace bF := (Below.heap_alloc ((w2.alloc (.cells #[.slice a1 (putTextS [] key).length k1] 59)).alloc (.cells #[.slice x m cap] 22)) (.cells #[.string tk, .slice x2 m cap2] 25) w2.heap.size (by simp; omega)).trans ((Below.heap_alloc (w2.alloc (.cells #[.slice a1 (putTextS [] key).length k1] 59)) (.cells #[.slice x m cap] 22) w2.heap.size (by simp)).trans bF)
  simp only [World.size_alloc] at bR bL
  have hbW := ((alloc_below w2 (.cells #[.slice a1 (putTextS [] key).length k1] 59)).alloc (by simp) (.cells #[.slice x m cap] 22)).alloc (by simp; omega) (.cells #[.string tk, .slice x2 m cap2] 25)
  have hsz : (((w2.alloc (.cells #[.slice a1 (putTextS [] key).length k1] 59)).alloc (.cells #[.slice x m cap] 22)).alloc (.cells #[.string tk, .slice x2 m cap2] 25)).heap.size = w2.heap.size + 1 + 1 + 1 := by simp
  have hlt2 : B < w2.heap.size := (Array.getElem?_eq_some_iff.1 HR2.out).1
  obtain ⟨W0, hW0⟩ : ∃ W0, ((w2.alloc (.cells #[.slice a1 (putTextS [] key).length k1] 59)).alloc (.cells #[.slice x m cap] 22)).alloc (.cells #[.string tk, .slice x2 m cap2] 25) = W0 := ⟨_, rfl⟩
  rw [hW0] at bF bL bR hbW hsz ⊢
  clear hW0
  have hB0 := HB2.out.trans (hbW.mono HB2.out.size)
  have hO0 := HO2.out.kept hbW
  obtain ⟨G0, hG⟩ : ∃ q, w2.heap.size = q := ⟨_, rfl⟩
  rw [hG] at bF bL bR hsz hlt2 ⊢
  have HSZ := Lib.hid hsz
  clear hG hbW
  refine wpIn_range_tells (F := Fence.wide) rfl (by omega) (gf := 62) (lb := #[.pointer (some ⟨G0 + 1, 0, none⟩), .pointer (some ⟨G0 + 1 + 1, 0, none⟩)]) rfl trivial (enters_of Tryd.func62 (by kernel_rfl) rfl)
    (places_tells hg hl hB0 2 (G0 + 1) (G0 + 1 + 1) (by omega) (by omega) bL bR) KP.trans (fun W l o o' hl h ho _ => KP.putObj W l o o' (by have := hB0.size; omega) (by rintro k (rfl | rfl) <;> omega) h)
    (fun xs X Y row hs hg hr => hs) (fun xs X Y row hs hg hr => hs) (fun _ => rfl)
    (LayI gs key cs w.heap.size G0 W0.heap.size w) (fun _ _ _ => False) (LayI.own hB0.size hB0.size) (fun c xs X Y row hs hg hr => hs)
    ⟨_, bF, hO0, hB0, Nat.le_refl _⟩
    (PlaceA gs cs (fun q k => #[.slice x m cap, .agg #[.string tk, .slice x2 m cap2], undef, .pointer (some ⟨B, 0, none⟩), .slice none 0 0, .pointer (some ⟨G0, 0, none⟩), .pointer (some ⟨q, 0, none⟩), .pointer (some ⟨B, 0, none⟩), .string tk, .slice a1 (putTextS [] key).length k1, .slice x m cap, .agg #[.string tk, .slice x2 m cap2], .func (.func 62) #[] #[.pointer (some ⟨G0 + 1, 0, none⟩), .pointer (some ⟨G0 + 1 + 1, 0, none⟩)], .agg (placeA gs cs k), undef, undef, undef, undef, undef, undef, undef])) (fun k a' => PlaceA.own k a') ?assign ?body ?done ?stop
  case assign =>
    rintro q pre k W K hI - hK
    obtain ⟨vb, hb, ho, hw, hs⟩ := hI
    obtain ⟨y, hck⟩ : ∃ y, cs.getD k Cl.zero = y := ⟨_, rfl⟩
    dsimp only [penc]
    rw [hck]
    obtain ⟨n, s, a, b, g, t, d, e⟩ := y
    dsimp only
    gi_wp2
    have h3 := HSZ.out
    refine hK _ _ ((KeepsOthers.alloc _ _).from _) (KP.of_below (by have := hB0.size; omega) ((Below.refl _ W).alloc (Nat.le_refl _) _)) ((LayI.own (B9 := W0.heap.size) hB0.size hB0.size).from.alloc _ ⟨vb, hb, ho, hw, hs⟩) ⟨W.heap.size, ?_, ?_⟩
    · unfold placeA; rw [hck]; exact heap_alloc_new W _
    · dsimp only; unfold placeA; rw [hck]; rfl
  case body =>
    rintro q pre k a' W ⟨vb, hb, ho, hw, hs⟩ ⟨g9, hpq, rfl⟩ ⟨rfl, hlt⟩
    obtain ⟨k, hkp⟩ : ∃ k, pre.length = k := ⟨_, rfl⟩
    rw [hkp] at hlt hpq ho ⊢
    unfold placeA at hpq
    dsimp only [placeA]
    obtain ⟨hN1, hN2⟩ := hLN k hlt
    have hst : rlayN gs key cs (k + 1) = cputS (rlayN gs key cs k) (gs.getD k ([], 0)).2 (cs.getD k Cl.zero) := rfl
    obtain ⟨a9, k9, rfl, hy⟩ := ho.bys
    obtain ⟨Z, hZ⟩ : ∃ z, rlayN gs key cs k = z := ⟨_, rfl⟩
    obtain ⟨Z2, hZ2⟩ : ∃ z, rlayN gs key cs (k + 1) = z := ⟨_, rfl⟩
    rw [hZ] at hst hy hN1 hb ho
    rw [hZ2] at hst
    obtain ⟨⟨nm, pk⟩, hgk⟩ : ∃ y, gs.getD k ([], 0) = y := ⟨_, rfl⟩
    obtain ⟨y, hck⟩ : ∃ y, cs.getD k Cl.zero = y := ⟨_, rfl⟩
    rw [hgk, hck] at hpq hst ⊢
    rw [hck] at hN2
    obtain ⟨n, s, a, b, g, t, d, e⟩ := y
    dsimp only at hpq hst hN2 ⊢
    have hC := cput_c hy hN1 (hT.below hw) pk n s a b g t d e hN2
    rw [← hst] at hC
    have HC := Lib.hid hC
    have HZ2 := Lib.hid hZ2
    have cb := hb.cell
    have fb := hb.frozen
    have e0 : W.cell? ⟨g9, 1, none⟩ = some (.int .i64 pk) := by rw [cell_of_row _ g9 1 _ _ (0, 0) hpq]; rfl
    obtain ⟨c0, c1, c2, c3, c4, c5, c6, c7⟩ := place_cells hpq
    have HH := Lib.hid (And.intro hb (And.intro hw hs))
    clear hb ho hw hs hgk hck hpq hC hst hZ hZ2 hy hN1 hN2
    gi_wp2_with fail
    refine ⟨trivial, (CallsIn.inRound q (callsIn_wide.2 HC.out)).mono ?_⟩
    rintro e w1 ⟨v9, rfl, ho9, hb1⟩
    obtain ⟨hb, hw, hs⟩ := HH.out
    have h3 := HSZ.out
    have hwsz := hB0.size
    clear cb fb e0 c0 c1 c2 c3 c4 c5 c6 c7
    have hb1x : Boxed w1 G0 59 (.slice a9 Z.length k9) := (hb1.block _ hb.lt).trans hb
    have z0 := hb1x.cell
    have zf := hb1x.frozen
    obtain ⟨a8, k8, ev8, -⟩ := ho9.bys
    subst ev8
    have ho2 := own_set (i := 0) (u := .slice a8 Z2.length k8) hb1x (by decide) (ho9.mono (show w.heap.size ≤ W.heap.size by omega))
    have hL : LeavesT 87 (fun j => j = G0) W0.heap.size W (w1.setCell ⟨G0, 0, none⟩ (.slice a8 Z2.length k8)) := (LeavesT.below hb1).trans (LeavesT.setCell (Bs := fun j => j = G0) w1 (B := G0) rfl _)
    have hbW := (hb1.mono (show w.heap.size ≤ W.heap.size by omega)).setCell (p := ⟨G0, 0, none⟩) (by have := HBe.out; simp; omega) (.slice a8 Z2.length k8)
    have HR := Lib.hid (show RoundPost W0.heap.size (KP w.heap.size (two9 (G0 + 1) (G0 + 1 + 1))) (fun _ => True) (LayI gs key cs w.heap.size G0 W0.heap.size w) (fun _ _ _ => False) pre k W .normal { tmps := #[], defers := [] } (w1.setCell ⟨G0, 0, none⟩ (.slice a8 Z2.length k8)) from
      ⟨hL.keeps (by rintro j rfl; omega), ⟨hbW, fun j o hj ho => hL.same j o ho (by rcases hj with rfl | rfl <;> omega) (.inl (by rcases hj with rfl | rfl <;> omega))⟩, trivial, ⟨_, hb1x.set _, by rw [List.length_append, List.length_singleton, hkp, HZ2.out]; exact ho2, hw.trans hbW, Nat.le_trans hs hL.size⟩⟩)
    clear hb hw hs hb1x ho2 hL hbW ho9 hb1
    gi_wp2
    exact HR.out
  case done =>
    rintro D xs W hD hxs ⟨vb, hb, ho, hw, hs⟩ hK
    rw [show xs.length = m from hxs] at ho
    have cb := hb.cell
    have HO := Lib.hid ho
    have HW := Lib.hid hw
    have HDB := Lib.hid (show B < D by have := HSZ.out; omega)
    clear hb ho hw hs hxs
    gi_wp2
    refine ⟨by simp, .inl ⟨_, _, rfl, run_takeDeferred hK, ?_⟩⟩
    refine ⟨_, results_tmp rfl _ _ _, vb, rfl, ?_, ?_⟩
    · exact ownsRow_putObj HO.out (.deferred none) hK rfl
    · exact HW.out.trans (belowK_b (w := w) (Nat.le_refl _) W D _ _ (by have := HDB.out; have := HBe.out; omega) hK rfl rfl)
  case stop => exact fun D c pre W hD _ hf => hf.elim
end Go.Proofs.YtkjpmdpljdgcjaaDoor
end

section
/-
  Row: the program's Put.
-/
namespace Go.Proofs.YtkjpmdpljdgcjaaDoor
open Go.RowKit Go Go.Sort
set_option linter.unusedVariables false
set_option maxRecDepth 20000

/-- Bytes behind which a row is laid. -/
def rowputS (b : List UInt8) (gs : List Grp) (key : List UInt8) (cs : List Cl) : List UInt8 := if rgoodS gs key cs = 0 then b ++ rlayN gs key cs gs.length else b

set_option maxRecDepth 100000 in
set_option maxHeartbeats 3200000 in
theorem rowput_c {w : World} {ad : Option Addr} {m9 cap9 : Nat} {l : List UInt8} (hy : Bys w ad m9 cap9 l) (hm9 : m9 ≤ 100000) {x x2 : Option Addr} {n1 cap m cap2 : Nat} {gs : List Grp} {cs : List Cl} (hg : Grs w x n1 cap gs) (hs : ∀ g ∈ gs, g.1.length ≤ 9223372036854775807)
    (hl : Cls w x2 m cap2 cs) (hx : ∀ c ∈ cs, c.t.length ≤ 9223372036854775807) (key : List UInt8) (hk : key.length ≤ 6000)
    (hLN : rgoodS gs key cs = 0 → ∀ k, k ≤ m → (rlayN gs key cs k).length ≤ 6000 ∧ (cs.getD k Cl.zero).t.length ≤ 6000) (hT : TabW w) :
    Calls Tryd.prog 29 #[.slice ad m9 cap9, .slice x n1 cap, .agg #[.string (text key), .slice x2 m cap2]] w (BytesPost (rowputS l gs key cs) w) := by
  have hgl := hg.len
  have hll := hl.len
  have hGD := fun W (h : Below w.heap.size w W) => rowgood_c (hg.below h) hs (hl.below h) hx key (by omega)
  have hLA : rgoodS gs key cs = 0 → m = n1 ∧ (∀ k, k < m → (rlayN gs key cs k).length ≤ 6000 ∧ (cs.getD k Cl.zero).t.length ≤ 6000) ∧ (rlayN gs key cs m).length ≤ 6000 := fun h => by
    obtain ⟨_, _, h3, _⟩ := rgood_inv h
    exact ⟨by omega, fun k hk => hLN h k (by omega), (hLN h m (Nat.le_refl _)).1⟩
  have hLY := fun (h : rgoodS gs key cs = 0) (W : World) (hb : Below w.heap.size w W) => show Calls Tryd.prog 55 #[.slice x n1 cap, .agg #[.string (text key), .slice x2 m cap2]] W (BytesPost (rlayN gs key cs m) W) by
    obtain ⟨e1, e2, e3⟩ := hLA h
    subst e1
    exact rlay_c (hg.below hb) (hl.below hb) key hk e2 (hT.below hb)
  have hP : rgoodS gs key cs = 0 → rowputS l gs key cs = l ++ rlayN gs key cs m := fun h => by unfold rowputS; rw [if_pos h, hgl, (hLA h).1]
  have hQ : ¬ rgoodS gs key cs = 0 → rowputS l gs key cs = l := fun h => by unfold rowputS; rw [if_neg h]
  have hLZ := fun h => (hLA h).2.2
  obtain ⟨Z, hZ⟩ : ∃ z, rlayN gs key cs m = z := ⟨_, rfl⟩
  rw [hZ] at hLY hP hLZ
  obtain ⟨R, hR⟩ : ∃ z, rgoodS gs key cs = z := ⟨_, rfl⟩
  rw [hR] at hLY hP hQ hLZ
  simp only [hR] at hGD
  obtain ⟨tk, htk⟩ : ∃ z, text key = z := ⟨_, rfl⟩
  rw [htk] at hGD hLY ⊢
  have hr := heap_alloc_new w (.cells #[.string tk, .slice x2 m cap2] 25)
  have hb := alloc_below w (.cells #[.string tk, .slice x2 m cap2] 25)
  obtain ⟨B, hB⟩ : ∃ q, w.heap.size = q := ⟨_, rfl⟩
  have HBe := Lib.hid hB
  have HGD := Lib.hid hGD
  have HLY := Lib.hid hLY
  have HP := Lib.hid hP
  have HQ := Lib.hid hQ
  have HLZ := Lib.hid hLZ
  have HY := Lib.hid (hy.below hb)
  clear hGD hLY hP hQ hLZ hR hZ htk hLN hLA hk hy
  go_enter Tryd.func29, Tryd.ntmps29
  go_upto_region 1 with (fail)
  try rw [hB] at hr
  try rw [hB]
  clear hB
  obtain ⟨W1, hW1⟩ : ∃ X, w.alloc (.cells #[.string tk, .slice x2 m cap2] 25) = X := ⟨_, rfl⟩
  rw [hW1] at hr hb HY ⊢
  clear hW1
  have r0 : W1.cell? ⟨B, 0, none⟩ = some (.string tk) := by rw [cell_of_row _ B 0 _ _ (0, 0) hr]; rfl
  have r1 : W1.cell? ⟨B, 1, none⟩ = some (.slice x2 m cap2) := by rw [cell_of_row _ B 1 _ _ (0, 0) hr]; rfl
  have HR1 := Lib.hid hr
  have HB1 := Lib.hid hb
  clear hr hb
  by_cases h0 : R = 0
  · subst h0
    have HRV := Lib.hid (HP.out rfl)
    have HZL := Lib.hid (HLZ.out rfl)
    have HLY1 := Lib.hid (HLY.out rfl)
    clear HQ HP HLZ HLY
    go_upto_region 3 with (go_at_call 14; (with_reducible refine (HGD.out _ HB1.out).mono ?_); rintro e9 w1 ⟨rfl, hb1⟩)
    have HB2 := Lib.hid (HB1.out.trans (hb1.mono HB1.out.size))
    have HY2 := Lib.hid (HY.out.below hb1)
    have hr2 := (hb1.block _ (Array.getElem?_eq_some_iff.1 HR1.out).1).trans HR1.out
    replace r0 : w1.cell? ⟨B, 0, none⟩ = some (.string tk) := by rw [cell_of_row _ B 0 _ _ (0, 0) hr2]; rfl
    replace r1 : w1.cell? ⟨B, 1, none⟩ = some (.slice x2 m cap2) := by rw [cell_of_row _ B 1 _ _ (0, 0) hr2]; rfl
    clear hr2 hb1 HR1 HY HB1 HGD
    go_upto_region 4 with (go_at_call 55; (with_reducible refine (HLY1.out _ HB2.out).mono ?_); rintro e9 w2 ⟨v2, rfl, ho2, hb2⟩)
    obtain ⟨a2, k2, rfl, hy2⟩ := ho2.bys
    have hal := alloc_below w2 (.cells #[.slice ad m9 cap9, .slice a2 Z.length k2] 59)
    have hc := concat_c (w := w2.alloc (.cells #[.slice ad m9 cap9, .slice a2 Z.length k2] 59)) (q := w2.heap.size) (by rw [cell_of_row _ w2.heap.size 0 _ _ (0, 0) (heap_alloc_new w2 _)]; rfl) (by rw [cell_of_row _ w2.heap.size 1 _ _ (0, 0) (heap_alloc_new w2 _)]; rfl) ((HY2.out.below hb2).below hal) (hy2.below hal) hm9 (by have := HZL.out; omega)
    have HCC := Lib.hid hc
    have HB3 := Lib.hid ((HB2.out.trans (hb2.mono HB2.out.size)).alloc (Nat.le_trans HB2.out.size hb2.size) (.cells #[.slice ad m9 cap9, .slice a2 Z.length k2] 59))
    clear hc hal hb2 ho2 hy2 r0 r1
    go_wp2_with (go_at_call 56; (with_reducible refine HCC.out.mono ?_); rintro e9 w9 ⟨v9, rfl, ho9, hb9⟩)
    go_ret
    exact ⟨_, rfl, by rw [HRV.out]; exact ho9.mono HB3.out.size, HB3.out.trans (hb9.mono HB3.out.size)⟩
  · have h0n : (R == 0) = false := by simpa using h0
    have HRV := Lib.hid (HQ.out h0)
    clear HQ HP HLZ HLY
    go_upto_region 4 with (go_at_call 14; (with_reducible refine (HGD.out _ HB1.out).mono ?_); rintro e9 w2 ⟨rfl, hb2⟩)
    have hal := alloc_below w2 (.cells #[.slice ad m9 cap9, .slice none 0 0] 59)
    have hc := concat_c (w := w2.alloc (.cells #[.slice ad m9 cap9, .slice none 0 0] 59)) (q := w2.heap.size) (l' := []) (m' := 0) (cap' := 0) (ad' := none) (by rw [cell_of_row _ w2.heap.size 0 _ _ (0, 0) (heap_alloc_new w2 _)]; rfl) (by rw [cell_of_row _ w2.heap.size 1 _ _ (0, 0) (heap_alloc_new w2 _)]; rfl) ((HY.out.below hb2).below hal) ⟨rfl, Nat.le_refl _, by omega, .inl rfl⟩ hm9 (by omega)
    rw [List.append_nil] at hc
    have HCC := Lib.hid hc
    have HB2 := Lib.hid ((HB1.out.trans (hb2.mono HB1.out.size)).alloc (Nat.le_trans HB1.out.size hb2.size) (.cells #[.slice ad m9 cap9, .slice none 0 0] 59))
    clear hc hal hb2 r0 r1 h0
    go_wp2_with (go_at_call 56; (with_reducible refine HCC.out.mono ?_); rintro e9 w9 ⟨v9, rfl, ho9, hb9⟩)
    go_ret
    exact ⟨_, rfl, by rw [HRV.out]; exact ho9.mono HB2.out.size, HB2.out.trans (hb9.mono HB2.out.size)⟩
end Go.Proofs.YtkjpmdpljdgcjaaDoor
end

section
/-
  Row: the program's New.
-/
namespace Go.Proofs.YtkjpmdpljdgcjaaDoor
open Go.RowKit Go Go.Sort
set_option linter.unusedVariables false
set_option maxRecDepth 20000

def zerosC (n : Nat) : List Cl := List.replicate n Cl.zero
theorem zerosC_cells (n : Nat) (h : n ≤ 4) : (madeCells (Value.agg #[.int .i64 0, .int .i64 0, .int .i64 0, .int .i64 0, .bool false, .string ⟨#[]⟩, .int .i64 0, .int .i64 0]).cells (n * 8)).toList = cCells (zerosC n) := by
  rcases (by omega : n = 0 ∨ n = 1 ∨ n = 2 ∨ n = 3 ∨ n = 4) with rfl | rfl | rfl | rfl | rfl <;> kernel_rfl
/-- A new row, or why there is none. -/
def rnewS (gs : List Grp) (key : List UInt8) : List UInt8 × List Cl × Int :=
  if rgoodS gs key (zerosC (min gs.length 4)) = 0 then (key, zerosC (min gs.length 4), 0) else ([], [], rgoodS gs key (zerosC (min gs.length 4)))
/-- A row with cells of the call's own, and a number. -/
def RowPost (r : List UInt8 × List Cl × Int) (w : World) (e : Ending) (w' : World) : Prop :=
  ∃ v, e = .returned (.tuple #[.agg #[.string (text r.1), v], .int .i64 r.2.2]) ∧ OwnC w' w.heap.size v r.2.1 ∧ Below w.heap.size w w'
theorem row_set {W : World} {q : Nat} {k0 : ByteArray} {v0 : Value} (h : W.heap[q]? = some (.cells #[.string k0, v0] 25 (0, 0))) (k : ByteArray) (v : Value) :
    ((W.setCell ⟨q, 0, none⟩ (.string k)).setCell ⟨q, 1, none⟩ v).heap[q]? = some (.cells #[.string k, v] 25 (0, 0)) := by
  have h0 : (W.setCell ⟨q, 0, none⟩ (.string k)).heap[q]? = some (.cells #[.string k, v0] 25 (0, 0)) := (heap_setCell_same _ q 0 _ _ _ h).trans rfl
  exact (heap_setCell_same _ q 1 _ _ _ h0).trans rfl
theorem row_cells {W : World} {q : Nat} {k0 : ByteArray} {v0 : Value} (h : W.heap[q]? = some (.cells #[.string k0, v0] 25 (0, 0))) :
    W.cell? ⟨q, 0, none⟩ = some (.string k0) ∧ W.cell? ⟨q, 1, none⟩ = some v0 ∧ ∀ i, W.frozen? ⟨q, i, none⟩ = false :=
  ⟨by rw [cell_of_row _ q 0 _ _ (0, 0) h]; rfl, by rw [cell_of_row _ q 1 _ _ (0, 0) h]; rfl, fun i => frozen_of_row _ q i _ _ h⟩

set_option maxRecDepth 100000 in
set_option maxHeartbeats 3200000 in
theorem rownew_c {w : World} {x : Option Addr} {n1 cap : Nat} {gs : List Grp} (hg : Grs w x n1 cap gs) (hs : ∀ g ∈ gs, g.1.length ≤ 9223372036854775807) (key : List UInt8) (hk : key.length ≤ 9223372036854775807) :
    Calls Tryd.prog 10 #[.slice x n1 cap, .string (text key)] w (RowPost (rnewS gs key) w) := by
  have hgl := hg.len
  obtain ⟨i0, hi, hz0, hz1, hz2⟩ := info_parts Tryd.infoC
  obtain ⟨N, hN⟩ : ∃ N, min gs.length 4 = N := ⟨_, rfl⟩
  have hN4 : N ≤ 4 := by omega
  have hmin : min (n1 : Int) 4 = (N : Int) := by omega
  have hZC := zerosC_cells N hN4
  have hzl : (zerosC N).length = N := by simp [zerosC]
  have hGD := fun W (h : Below w.heap.size w W) (a : Option Addr) (c : Nat) (hl : Cls W a N c (zerosC N)) => rowgood_c (hg.below h) hs hl (fun c hc => by rw [List.eq_of_mem_replicate hc]; decide) key hk
  have hRV : rnewS gs key = if rgoodS gs key (zerosC N) = 0 then (key, zerosC N, 0) else ([], [], rgoodS gs key (zerosC N)) := by unfold rnewS; rw [hN]
  obtain ⟨R, hR⟩ : ∃ z, rgoodS gs key (zerosC N) = z := ⟨_, rfl⟩
  simp only [hR] at hGD hRV
  obtain ⟨tk, htk⟩ : ∃ z, text key = z := ⟨_, rfl⟩
  rw [htk] at hGD ⊢
  have HTK := Lib.hid htk
  have hr0 := heap_alloc_new w (.cells #[.string ⟨#[]⟩, .slice none 0 0] 25)
  have hb0 := alloc_below w (.cells #[.string ⟨#[]⟩, .slice none 0 0] 25)
  have HGD := Lib.hid hGD
  have HRV := Lib.hid hRV
  have HZC := Lib.hid hZC
  have HZL := Lib.hid hzl
  clear hGD hRV hZC hR htk hk hN hzl
  go_enter Tryd.func10, Tryd.ntmps10
  go_upto_region 1 with (fail)
  have HBe := Lib.hid (rfl : w.heap.size = w.heap.size)
  obtain ⟨W1, hW1⟩ : ∃ X, w.alloc (.cells #[.string ⟨#[]⟩, .slice none 0 0] 25) = X := ⟨_, rfl⟩
  rw [hW1] at hr0 hb0 ⊢
  clear hW1
  have HR0 := Lib.hid hr0
  have HB0 := Lib.hid hb0
  clear hr0 hb0
  go_upto_region 2 with (fail)
  go_upto_region 3 with (refine wpList_make_full _ rfl _ _ _ rfl w.heap.size 50 i0 _ 8 Tryd.underlying23 hi hz0 hz1 .i64 .i64 _ _ N rfl rfl rfl rfl (by rw [hz2]; omega) (by unfold maxLen; omega) HB0.out.size ?_; intro w2 ho2 hg2)
  rw [HZC.out] at ho2
  obtain ⟨S1, hS1⟩ : ∃ q, W1.heap.size = q := ⟨_, rfl⟩
  rw [hS1] at ho2 ⊢
  have hoc : OwnC w2 w.heap.size (.slice (some ⟨S1, 0, none⟩) N N) (zerosC N) := by unfold OwnC; rw [HZL.out]; exact ho2
  have hb2 := HB0.out.grown hg2 HB0.out.size (fun k e => by cases e)
  have hr2 := (hg2.block _ (Array.getElem?_eq_some_iff.1 HR0.out).1 (fun e => by cases e)).trans HR0.out
  have hr3 := heap_alloc_new w2 (.cells #[.string tk, .slice (some ⟨S1, 0, none⟩) N N] 25)
  have hb3 := hb2.alloc hb2.size (.cells #[.string tk, .slice (some ⟨S1, 0, none⟩) N N] 25)
  have hoc3 := hoc.kept (alloc_below w2 (.cells #[.string tk, .slice (some ⟨S1, 0, none⟩) N N] 25))
  have hr23 := ((alloc_below w2 (.cells #[.string tk, .slice (some ⟨S1, 0, none⟩) N N] 25)).block _ (Array.getElem?_eq_some_iff.1 hr2).1).trans hr2
  have hlt := (Array.getElem?_eq_some_iff.1 hr2).1
  obtain ⟨S2, hS2⟩ : ∃ q, w2.heap.size = q := ⟨_, rfl⟩
  rw [hS2] at hr3 hlt ⊢
  obtain ⟨W3, hW3⟩ : ∃ X, w2.alloc (.cells #[.string tk, .slice (some ⟨S1, 0, none⟩) N N] 25) = X := ⟨_, rfl⟩
  rw [hW3] at hr3 hb3 hoc3 hr23 ⊢
  clear hW3 hS2 hS1 ho2 hoc hb2 hr2 hg2 HZC
  obtain ⟨p0, p1, pf⟩ := row_cells hr3
  obtain ⟨a9, c9, ev9, hcls⟩ := hoc3.cls
  rw [HZL.out] at ev9 hcls
  cases ev9
  have HC := Lib.hid (HGD.out W3 hb3 _ _ hcls)
  have HR3 := Lib.hid hr3
  have HB3 := Lib.hid hb3
  have HO3 := Lib.hid hoc3
  have HR0 := Lib.hid hr23
  have HLT := Lib.hid hlt
  clear hr3 hb3 hoc3 hr23 hlt hcls HGD HB0 pf
  go_upto_region 4 with (go_at_call 14; (with_reducible refine HC.out.mono ?_); rintro e9 w4 ⟨rfl, hb4⟩)
  have hr4 := (hb4.block _ (Array.getElem?_eq_some_iff.1 HR3.out).1).trans HR3.out
  have hr04 := (hb4.block _ (Array.getElem?_eq_some_iff.1 HR0.out).1).trans HR0.out
  have HB4 := Lib.hid (HB3.out.trans (hb4.mono HB3.out.size))
  have HO4 := Lib.hid (HO3.out.kept hb4)
  clear hb4 p0 p1 HC
  obtain ⟨p0, p1, -⟩ := row_cells hr4
  obtain ⟨q0, q1, qf⟩ := row_cells hr04
  have HS := Lib.hid (fun (k : ByteArray) (v : Value) => row_set hr04 k v)
  have HX := Lib.hid (fun (k : ByteArray) (v : Value) => (HB4.out.setCell (p := ⟨w.heap.size, 0, none⟩) (by simp) (.string k)).setCell (p := ⟨w.heap.size, 1, none⟩) (by simp) v)
  have HOX := Lib.hid (fun (k : ByteArray) (v : Value) => (own_set (i := 1) (u := v) (show (w4.setCell ⟨w.heap.size, 0, none⟩ (.string k)).heap[w.heap.size]? = _ from (heap_setCell_same _ _ 0 _ _ _ hr04).trans rfl) (by decide) (own_set (i := 0) (u := .string k) hr04 (by decide) HO4.out) : OwnC _ w.heap.size (.slice (some ⟨S1, 0, none⟩) N N) (zerosC N)))
  clear hr4 hr04 HR3 HR0 HB3 HO3 HB4 HO4
  by_cases h0 : R = 0
  · subst h0
    have HV := Lib.hid (show rnewS gs key = (key, zerosC N, 0) by rw [HRV.out]; rfl)
    clear HRV
    go_wp2

    refine bodyPost_ret (res_cell_tmp rfl _ _ w.heap.size 25 _ (0, 0) _ (.int .i64 0) rfl rfl (HS.out tk (.slice (some ⟨S1, 0, none⟩) N N)) Tryd.underlying25 rfl (by kernel_rfl)) rfl ?_
    rw [HV.out]
    exact ⟨_, by rw [HTK.out], HOX.out _ _, HX.out _ _⟩
  · have h0n : (R != 0) = true := by simpa using h0
    have HV := Lib.hid (show rnewS gs key = ([], [], R) by rw [HRV.out, if_neg h0])
    clear HRV h0
    go_wp2
    refine bodyPost_ret (res_cell_tmp rfl _ _ w.heap.size 25 _ (0, 0) _ (.int .i64 R) rfl rfl (HS.out ⟨#[]⟩ (.slice none 0 0)) Tryd.underlying25 rfl (by kernel_rfl)) rfl ?_
    rw [HV.out]
    exact ⟨_, rfl, OwnC.nil _ _, HX.out _ _⟩
end Go.Proofs.YtkjpmdpljdgcjaaDoor
end

section
/-
  Row: the laws' lives.
-/
namespace Go.Proofs.YtkjpmdpljdgcjaaDoor
open Go.RowKit Go Go.Sort
set_option linter.unusedVariables false
set_option maxRecDepth 20000

/-- The example's schema. -/
def exG : List Grp := [([97], 1), ([98], 2)]
def schO : Obj := .cells #[.string ⟨#[97]⟩, .int .i64 1, .string ⟨#[98]⟩, .int .i64 2] 87 (0, 0)
/-- The schema in memory. -/
def SchV (v : Value) (W : World) : Prop := ∃ q, v = .slice (some ⟨q, 0, none⟩) 2 2 ∧ W.heap[q]? = some schO
theorem SchV.kept {v : Value} {X Y : World} (h : SchV v X) (hb : Below X.heap.size X Y) : SchV v Y := by
  obtain ⟨q, h1, h2⟩ := h
  exact ⟨q, h1, (hb.block _ (Array.getElem?_eq_some_iff.1 h2).1).trans h2⟩
theorem SchV.grs {v : Value} {W : World} (h : SchV v W) : ∃ q, v = .slice (some ⟨q, 0, none⟩) 2 2 ∧ Grs W (some ⟨q, 0, none⟩) 2 2 exG := by
  obtain ⟨q, h1, h2⟩ := h
  refine ⟨q, h1, rfl, Nat.le_refl _, by omega, .inr ⟨q, 0, rfl, fun i hi => ?_⟩⟩
  have hc := fun j => cell_of_row W q j #[.string ⟨#[97]⟩, .int .i64 1, .string ⟨#[98]⟩, .int .i64 2] 87 (0, 0) h2
  rcases (by omega : i = 0 ∨ i = 1) with rfl | rfl
  · exact ⟨(hc 0).trans rfl, (hc 1).trans rfl⟩
  · exact ⟨(hc 2).trans rfl, (hc 3).trans rfl⟩
theorem schema_c (w : World) : Calls Tryd.prog 34 #[] w (fun e w' => ∃ v, e = .returned v ∧ SchV v w' ∧ Below w.heap.size w w') := by
  go_enter Tryd.func34, Tryd.ntmps34
  go_wp2
  go_ret
  exact ⟨_, rfl, ⟨_, rfl, heap_alloc_new _ _⟩, alloc_below _ _⟩
theorem ex_new : rnewS exG [107] = ([107], zerosC 2, 0) := by unfold rnewS; rw [if_pos (by decide +kernel)]; rfl
theorem ex_bare : bareS (zerosC 2) = true := by decide +kernel
theorem ex_rput : rowputS [] exG [107] (zerosC 2) = [1, 107, 0, 0] := by decide +kernel
theorem ex_lens : ∀ k, k ≤ 2 → (rlayN exG [107] (zerosC 2) k).length ≤ 6000 ∧ ((zerosC 2).getD k Cl.zero).t.length ≤ 6000 := by
  intro k hk
  rcases (by omega : k = 0 ∨ k = 1 ∨ k = 2) with rfl | rfl | rfl <;> decide +kernel

set_option maxRecDepth 100000 in
set_option maxHeartbeats 6400000 in
theorem rlives_c {w : World} (hT : TabW w) : Calls Tryd.prog 9 #[] w (Tells (.bool true) w) := by
  have hk : text [107] = ⟨#[107]⟩ := rfl
  have hNW : ∀ (W : World) (a : Option Addr), Grs W a 2 2 exG → Calls Tryd.prog 10 #[.slice a 2 2, .string ⟨#[107]⟩] W (fun e w' => ∃ a2 c2, e = .returned (.tuple #[.agg #[.string ⟨#[107]⟩, .slice a2 2 c2], .int .i64 0]) ∧ Cls w' a2 2 c2 (zerosC 2) ∧ Below W.heap.size W w') := by
    intro W a h
    have h1 := rownew_c h (by decide) [107] (by decide)
    rw [ex_new] at h1
    refine h1.mono ?_
    rintro e w' ⟨v, rfl, ho, hb⟩
    obtain ⟨a2, c2, rfl, hc⟩ := ho.cls
    exact ⟨a2, c2, rfl, hc, hb⟩
  have hPT := fun (W : World) (a a2 : Option Addr) (c2 : Nat) (h : Grs W a 2 2 exG) (hl : Cls W a2 2 c2 (zerosC 2)) (hT : TabW W) => rowput_c (w := W) (ad := none) (m9 := 0) (cap9 := 0) (l := []) ⟨rfl, Nat.le_refl _, by omega, .inl rfl⟩ (by omega) h (by decide) hl (by decide) [107] (by decide) (fun _ => ex_lens) hT
  simp only [ex_rput, hk] at hPT
  have hBR := fun (W : World) (a2 : Option Addr) (c2 : Nat) (hl : Cls W a2 2 c2 (zerosC 2)) => bare_c hl ⟨#[107]⟩
  simp only [ex_bare] at hBR
  obtain ⟨X, hX⟩ : ∃ X, ([1, 107, 0, 0] : List UInt8) = X := ⟨_, rfl⟩
  have hcv := fun (W : World) (a : Option Addr) (c n : Nat) (h : Bys W a n c X) => conv_bys (P := Tryd.prog) (src := 59) (dst := 9) (e := 5) h Tryd.underlying59 Tryd.underlying5 Tryd.underlying9
  have hT2 : text X = ⟨#[1, 107, 0, 0]⟩ := by rw [← hX]; rfl
  rw [hT2] at hcv
  rw [hX] at hPT
  have HNW := Lib.hid hNW
  have HPT := Lib.hid hPT
  have HBR := Lib.hid hBR
  have HCV := Lib.hid hcv
  have HT := Lib.hid hT
  have HZL := Lib.hid (rfl : (zerosC 2).length = 2)
  clear hNW hPT hBR hcv hT hk hT2 hX
  go_enter Tryd.func9, Tryd.ntmps9
  go_upto_region 2 with (first
    | (go_at_call 34; (with_reducible refine (schema_c _).mono ?_); rintro e9 w1 ⟨v1, rfl, hs1, hb1⟩; obtain ⟨q1, rfl, hg1⟩ := hs1.grs; have HG1 := Lib.hid hg1; have HB1 := Lib.hid hb1; clear hs1 hg1 hb1)
    | (go_at_call 10; (with_reducible refine (HNW.out _ _ HG1.out).mono ?_); rintro e9 w2 ⟨a2, c2, rfl, hl2, hb2⟩; have HL2 := Lib.hid hl2; have HB2 := Lib.hid (HB1.out.trans (hb2.mono HB1.out.size)); have hle2 := hl2.le; have hmax2 := hl2.max; clear hl2 hb2))
  have hr := heap_alloc_new w2 (.cells #[.string ⟨#[107]⟩, .slice a2 2 c2] 25)
  have hb := alloc_below w2 (.cells #[.string ⟨#[107]⟩, .slice a2 2 c2] 25)
  have HL := Lib.hid (HL2.out.below hb)
  have HB := Lib.hid (HB2.out.alloc HB2.out.size (.cells #[.string ⟨#[107]⟩, .slice a2 2 c2] 25))
  obtain ⟨q, hq⟩ : ∃ q, w2.heap.size = q := ⟨_, rfl⟩
  rw [hq] at hr ⊢
  obtain ⟨W1, hW1⟩ : ∃ X, w2.alloc (.cells #[.string ⟨#[107]⟩, .slice a2 2 c2] 25) = X := ⟨_, rfl⟩
  rw [hW1] at hr HL HB ⊢
  clear hW1 hq hb HL2 HB2 HG1 HB1 HNW
  have HR := Lib.hid (fun W (h : Below W1.heap.size W1 W) => (row_cells ((h.block _ (Array.getElem?_eq_some_iff.1 hr).1).trans hr)))
  clear hr
  refine wp_region_flow_tail 19 [none, none, none, none, none, none, none, none, some 0, some 1, some 2, some 3, some 4, some 5, some 6, some 7, some 8, some 9, some 10, some 11, some 12, some 13, some 14, some 15, some 16, some 17, some 18] (fun i => [undef, undef, undef, undef, undef, undef, undef, undef, undef, undef, undef, undef, undef, undef, undef, undef, undef, undef, undef].getD i undef) [(fun v _ => v = .int .i64 0), (fun v _ => v = .bool true), (fun v _ => v = .bool true), (fun v _ => v = .pointer (some ⟨q, 1, none⟩)), (fun v _ => v = .slice a2 2 c2), (fun v _ => v = .int .i64 2), (fun v _ => v = .bool true), (fun v _ => v = .bool true), (fun v _ => v = .bool true), (fun v _ => v = .agg #[.string ⟨#[107]⟩, .slice a2 2 c2]), (fun v _ => v = .bool true), (fun v _ => v = .bool true), (fun v _ => v = .bool true), SchV, (fun v _ => v = .agg #[.string ⟨#[107]⟩, .slice a2 2 c2]), (fun v W => OwnB W 0 5 v X), (fun v _ => v = .string ⟨#[1, 107, 0, 0]⟩), (fun v _ => v = .bool true), (fun v _ => v = .bool true)] (fun _ => False) (by kernel_rfl) (by kernel_rfl) (by kernel_rfl) rfl rfl rfl ?_ ?_ ?_
  · intro g hg v X Y hX hY hv
    simp only [List.mem_cons, List.not_mem_nil, or_false] at hg
    rcases hg with rfl | rfl | rfl | rfl | rfl | rfl | rfl | rfl | rfl | rfl | rfl | rfl | rfl | rfl | rfl | rfl | rfl | rfl | rfl
    all_goals first
      | exact hv
      | exact hv.kept hY
  · simp only [flowOpsF, List.take_succ_cons, List.take_zero, and_true]
    refine ⟨?_, ?_, ?_, ?_, ?_, ?_, ?_, ?_, ?_, ?_, ?_, ?_, ?_, ?_, ?_, ?_, ?_, ?_, ?_⟩
    · intro xs W hW hn
      simp only [flowAct, List.zipWith_cons_cons, List.zipWith_nil_left]
      go_wp2_with (fail)
      exact ⟨rfl, _, rfl, Below.refl _ _, rfl, fun h => h.elim⟩
    · intro xs W hW hn
      simp [flowNeeds, Region.binds] at hn
      simp only [flowAct, List.zipWith_cons_cons, List.zipWith_nil_left]
      try simp only [hn]
      go_wp2_with (fail)
      exact ⟨rfl, _, rfl, Below.refl _ _, rfl, fun h => h.elim⟩
    · intro xs W hW hn
      simp [flowNeeds, Region.binds] at hn
      simp only [flowAct, List.zipWith_cons_cons, List.zipWith_nil_left]
      try simp only [hn]
      go_wp2_with (fail)
      exact ⟨rfl, _, rfl, Below.refl _ _, rfl, fun h => h.elim⟩
    · intro xs W hW hn
      simp [flowNeeds, Region.binds] at hn
      simp only [flowAct, List.zipWith_cons_cons, List.zipWith_nil_left]
      try simp only [hn]
      go_wp2_with (fail)
      exact ⟨rfl, _, rfl, Below.refl _ _, rfl, fun h => h.elim⟩
    · intro xs W hW hn
      obtain ⟨r0, r1, -⟩ := HR.out W hW
      simp [flowNeeds, Region.binds] at hn
      simp only [flowAct, List.zipWith_cons_cons, List.zipWith_nil_left]
      try simp only [hn]
      go_wp2_with (fail)
      exact ⟨rfl, _, rfl, Below.refl _ _, rfl, fun h => h.elim⟩
    · intro xs W hW hn
      simp [flowNeeds, Region.binds] at hn
      simp only [flowAct, List.zipWith_cons_cons, List.zipWith_nil_left]
      try simp only [hn]
      go_wp2_with (fail)
      exact ⟨rfl, _, rfl, Below.refl _ _, rfl, fun h => h.elim⟩
    · intro xs W hW hn
      simp [flowNeeds, Region.binds] at hn
      simp only [flowAct, List.zipWith_cons_cons, List.zipWith_nil_left]
      try simp only [hn]
      go_wp2_with (fail)
      exact ⟨rfl, _, rfl, Below.refl _ _, rfl, fun h => h.elim⟩
    · intro xs W hW hn
      simp [flowNeeds, Region.binds] at hn
      simp only [flowAct, List.zipWith_cons_cons, List.zipWith_nil_left]
      try simp only [hn]
      go_wp2_with (fail)
      exact ⟨rfl, _, rfl, Below.refl _ _, rfl, fun h => h.elim⟩
    · intro xs W hW hn
      simp [flowNeeds, Region.binds] at hn
      simp only [flowAct, List.zipWith_cons_cons, List.zipWith_nil_left]
      try simp only [hn]
      go_wp2_with (fail)
      exact ⟨rfl, _, rfl, Below.refl _ _, rfl, fun h => h.elim⟩
    · intro xs W hW hn
      obtain ⟨r0, r1, -⟩ := HR.out W hW
      simp [flowNeeds, Region.binds] at hn
      simp only [flowAct, List.zipWith_cons_cons, List.zipWith_nil_left]
      try simp only [hn]
      go_wp2_with (fail)
      exact ⟨rfl, _, rfl, Below.refl _ _, rfl, fun h => h.elim⟩
    · intro xs W hW hn
      simp [flowNeeds, Region.binds] at hn
      simp only [flowAct, List.zipWith_cons_cons, List.zipWith_nil_left]
      simp only [hn]
      go_wp2_with (go_at_call 18; (with_reducible refine (HBR.out _ _ _ (HL.out.below hW)).mono ?_); rintro e9 w9 ⟨rfl, hb9⟩)
      exact ⟨rfl, _, rfl, hb9, rfl, fun h => h.elim⟩
    · intro xs W hW hn
      simp [flowNeeds, Region.binds] at hn
      simp only [flowAct, List.zipWith_cons_cons, List.zipWith_nil_left]
      try simp only [hn]
      go_wp2_with (fail)
      exact ⟨rfl, _, rfl, Below.refl _ _, rfl, fun h => h.elim⟩
    · intro xs W hW hn
      simp [flowNeeds, Region.binds] at hn
      simp only [flowAct, List.zipWith_cons_cons, List.zipWith_nil_left]
      try simp only [hn]
      go_wp2_with (fail)
      exact ⟨rfl, _, rfl, Below.refl _ _, rfl, fun h => h.elim⟩
    · intro xs W hW hn
      try simp [flowNeeds, Region.binds] at hn
      simp only [flowAct, List.zipWith_cons_cons, List.zipWith_nil_left]
      try simp only [hn]
      go_wp2_with (go_at_call 34; (with_reducible refine (schema_c _).mono ?_); rintro e9 w9 ⟨v9, rfl, hs9, hb9⟩)
      exact ⟨rfl, _, rfl, hb9, hs9, fun h => h.elim⟩
    · intro xs W hW hn
      obtain ⟨r0, r1, -⟩ := HR.out W hW
      simp [flowNeeds, Region.binds] at hn
      simp only [flowAct, List.zipWith_cons_cons, List.zipWith_nil_left]
      try simp only [hn]
      go_wp2_with (fail)
      exact ⟨rfl, _, rfl, Below.refl _ _, rfl, fun h => h.elim⟩
    · intro xs W hW hn
      simp [flowNeeds, Region.binds] at hn
      simp only [flowAct, List.zipWith_cons_cons, List.zipWith_nil_left]
      obtain ⟨hs9, e9, hrest⟩ := hn
      obtain ⟨q9, e8, hg9⟩ := SchV.grs hs9
      simp only [e8, e9, hrest]
      go_wp2_with (go_at_call 29; (with_reducible refine (HPT.out _ _ _ _ hg9 (HL.out.below hW) (HT.out.below (HB.out.trans (hW.mono HB.out.size)))).mono ?_); rintro e9 w9 ⟨v9, rfl, ho9, hb9⟩)
      exact ⟨rfl, _, rfl, hb9, ho9.mono (Nat.zero_le _), fun h => h.elim⟩
    · intro xs W hW hn
      simp [flowNeeds, Region.binds] at hn
      simp only [flowAct, List.zipWith_cons_cons, List.zipWith_nil_left]
      obtain ⟨ho, hrest⟩ := hn
      obtain ⟨a3, c3, e3, hy3⟩ := OwnB.bys ho
      have hcv := HCV.out _ _ _ _ hy3
      simp only [e3, hrest]
      go_wp2_with (fail)
      exact ⟨rfl, _, rfl, Below.refl _ _, rfl, fun h => h.elim⟩
    · intro xs W hW hn
      simp [flowNeeds, Region.binds] at hn
      simp only [flowAct, List.zipWith_cons_cons, List.zipWith_nil_left]
      try simp only [hn]
      go_wp2_with (fail)
      exact ⟨rfl, _, rfl, Below.refl _ _, rfl, fun h => h.elim⟩
    · intro xs W hW hn
      simp [flowNeeds, Region.binds] at hn
      simp only [flowAct, List.zipWith_cons_cons, List.zipWith_nil_left]
      try simp only [hn]
      go_wp2_with (fail)
      exact ⟨rfl, _, rfl, Below.refl _ _, rfl, fun h => h.elim⟩
  · intro xs W hW hall hfr
    clear hfr
    simp only [flowAll, and_true, Nat.zero_add, Nat.reduceAdd] at hall
    obtain ⟨-, -, -, -, -, -, -, -, -, -, -, -, -, -, -, -, -, -, e18⟩ := hall
    simp only [flowAct, List.zipWith_cons_cons, List.zipWith_nil_left, List.drop_succ_cons, List.drop_zero]
    simp only [e18]
    go_wp2
    go_ret
    exact ⟨rfl, HB.out.trans (hW.mono HB.out.size)⟩
end Go.Proofs.YtkjpmdpljdgcjaaDoor
end

section
/-
  Row: the reference's Same of equal rows.
-/
namespace Go.Proofs.YtkjpmdpljdgcjaaDoor
open Go.RowKit Go Go.Sort
set_option linter.unusedVariables false
set_option maxRecDepth 20000

theorem sameC_self (c : Cl) : sameC c c = true := by
  obtain ⟨n, s, a, b, g, t, d, e⟩ := c
  exact cellEq_self ..

set_option maxRecDepth 100000 in
set_option maxHeartbeats 3200000 in
theorem rrowsame_c {w : World} {x x2 : Option Addr} {m cap cap2 : Nat} {cs : List Cl} (hl : Cls w x m cap cs) (hl2 : Cls w x2 m cap2 cs) (key : ByteArray) :
    Calls Tryd.prog 16 #[.agg #[.string key, .slice x m cap], .agg #[.string key, .slice x2 m cap2]] w (Tells (.bool true) w) := by
  have hll := hl.len
  have hle := hl.le
  have hmax := hl.max
  have hle2 := hl2.le
  have hmax2 := hl2.max
  have HL := Lib.hid hl
  have HL2 := Lib.hid hl2
  have hkk : (key.toList == key.toList) = true := by simp
  have hb := (alloc_below w (.cells #[.string key, .slice x m cap] 25)).alloc (by simp) (.cells #[.string key, .slice x2 m cap2] 25)
  have hr : ((w.alloc (.cells #[.string key, .slice x m cap] 25)).alloc (.cells #[.string key, .slice x2 m cap2] 25)).heap[w.heap.size]? = some (.cells #[.string key, .slice x m cap] 25 (0, 0)) := (Below.heap_alloc _ _ _ (by simp)).trans (heap_alloc_new w _)
  have hr2 := heap_alloc_new (w.alloc (.cells #[.string key, .slice x m cap] 25)) (.cells #[.string key, .slice x2 m cap2] 25)
  rw [World.size_alloc] at hr2
  clear hl hl2
  go_enter Tryd.func16, Tryd.ntmps16
  go_upto_region 1 with (fail)
  obtain ⟨B, hB⟩ : ∃ q, w.heap.size = q := ⟨_, rfl⟩
  have HBe := Lib.hid hB
  rw [hB] at hr hr2 ⊢
  clear hB
  generalize (w.alloc (.cells #[.string key, .slice x m cap] 25)).alloc (.cells #[.string key, .slice x2 m cap2] 25) = W1 at *
  have HR1 := Lib.hid hr
  have HR2 := Lib.hid hr2
  have HB1 := Lib.hid hb
  obtain ⟨r0, r1, -⟩ := row_cells hr
  obtain ⟨s0, s1, -⟩ := row_cells hr2
  clear hr hr2 hb
  go_wp2
  clear r0 r1 s0 s1
  go_loopw [5] (fun i wr => ∃ k : Nat, k ≤ m ∧ i = .int .i64 k ∧ Below w.heap.size w wr ∧ wr.heap[B]? = some (.cells #[.string key, .slice x m cap] 25 (0, 0)) ∧ wr.heap[B + 1]? = some (.cells #[.string key, .slice x2 m cap2] 25 (0, 0))) (fun i _ => m - (intOf i).toNat)
  case atStart => exact ⟨0, by omega, rfl, HB1.out, HR1.out, HR2.out⟩
  case round =>
    clear HB1 HR1 HR2
    obtain ⟨i, hk, rfl, hB, hr, hr2⟩ := hrel
    obtain ⟨-, r1, -⟩ := row_cells hr
    have HB := Lib.hid hB
    have HR := Lib.hid hr
    have HR2 := Lib.hid hr2
    by_cases hlt : i < m
    · have hki : (i : Int) < (m : Int) := by omega
      have hki1 : (i : Int) < (cap : Int) := by omega
      have hki2 : (i : Int) < (cap2 : Int) := by omega
      obtain ⟨bk, off, rfl, hat⟩ := HL.out.at hlt
      obtain ⟨bk2, off2, rfl, hat2⟩ := HL2.out.at hlt
      obtain ⟨y, hck⟩ : ∃ y, cs.getD i Cl.zero = y := ⟨_, rfl⟩
      rw [hck] at hat hat2
      obtain ⟨n, s, a, b, g, t, d, e⟩ := y
      have hs := fun W => rsame_c n s a b g t d e n s a b g t d e W
      simp only [sameC_self] at hs
      have HS := Lib.hid hs
      have HPW := Lib.hid (fun W (h : Below wr.heap.size wr W) => hat W (hB.trans (h.mono hB.size)))
      have HQW := Lib.hid (fun W (h : Below wr.heap.size wr W) => hat2 W (hB.trans (h.mono hB.size)))
      have HRB := Lib.hid (fun W (h : Below wr.heap.size wr W) => row_cells ((h.block _ (Array.getElem?_eq_some_iff.1 hr).1).trans hr))
      have HRC := Lib.hid (fun W (h : Below wr.heap.size wr W) => row_cells ((h.block _ (Array.getElem?_eq_some_iff.1 hr2).1).trans hr2))
      clear hck hB hr hr2 hat hat2 hs
      go_upto_region 6 with (fail)
      clear r1
      refine wp_region_flow [none, none, none, none, none, none, none, none, none, none, none, none, none, none, none, none, none, none, none, none, none, none, none, none, none, none, none, some 0, some 1, some 2, some 3, some 4, some 5, some 6, some 7, some 8, some 9, some 10, some 11] (fun i => [u27, u28, u29, u30, u31, u32, u33, u34, u35, u36, u37, u38].getD i undef) [(fun v _ => v = .pointer (some ⟨B, 1, none⟩)), (fun v _ => v = .slice (some ⟨bk, off, none⟩) m cap), (fun v _ => v = .int .i64 (i : Int)), (fun v _ => v = .pointer (some ⟨bk, off + i * 8, none⟩)), (fun v _ => v = .agg #[.int .i64 n, .int .i64 s, .int .i64 a, .int .i64 b, .bool g, .string (text t), .int .i64 d, .int .i64 e]), (fun v _ => v = .pointer (some ⟨B + 1, 1, none⟩)), (fun v _ => v = .slice (some ⟨bk2, off2, none⟩) m cap2), (fun v _ => v = .int .i64 (i : Int)), (fun v _ => v = .pointer (some ⟨bk2, off2 + i * 8, none⟩)), (fun v _ => v = .agg #[.int .i64 n, .int .i64 s, .int .i64 a, .int .i64 b, .bool g, .string (text t), .int .i64 d, .int .i64 e]), (fun v _ => v = .bool true), (fun v _ => v = .bool false)] (by kernel_rfl) (by kernel_rfl) rfl rfl rfl ?_ ?_ ?_
      · intro g hg v X Y hX hY hv
        simp only [List.mem_cons, List.not_mem_nil, or_false] at hg
        rcases hg with rfl | rfl | rfl | rfl | rfl | rfl | rfl | rfl | rfl | rfl | rfl | rfl
        all_goals first
          | exact hv
          | exact hv.kept hY
      · simp only [flowOps, and_true]
        refine ⟨?_, ?_, ?_, ?_, ?_, ?_, ?_, ?_, ?_, ?_, ?_, ?_⟩
        · intro xs W hW hn
          simp only [flowAct, List.zipWith_cons_cons, List.zipWith_nil_left]
          go_wp2_with (fail)
          exact ⟨rfl, _, rfl, Below.refl _ _, rfl⟩
        · intro xs W hW hn
          obtain ⟨-, rb1, -⟩ := HRB.out W hW
          simp [flowNeeds, Region.binds] at hn
          simp only [flowAct, List.zipWith_cons_cons, List.zipWith_nil_left]
          try simp only [hn]
          go_wp2_with (fail)
          exact ⟨rfl, _, rfl, Below.refl _ _, rfl⟩
        · intro xs W hW hn
          simp only [flowAct, List.zipWith_cons_cons, List.zipWith_nil_left]
          go_wp2_with (fail)
          exact ⟨rfl, _, rfl, Below.refl _ _, rfl⟩
        · intro xs W hW hn
          simp [flowNeeds, Region.binds] at hn
          simp only [flowAct, List.zipWith_cons_cons, List.zipWith_nil_left]
          try simp only [hn]
          go_wp2_with (fail)
          exact ⟨rfl, _, rfl, Below.refl _ _, rfl⟩
        · intro xs W hW hn
          obtain ⟨p0, p1, p2, p3, p4, p5, p6, p7⟩ := HPW.out W hW
          simp only at p0 p1 p2 p3 p4 p5 p6 p7
          simp [flowNeeds, Region.binds] at hn
          simp only [flowAct, List.zipWith_cons_cons, List.zipWith_nil_left]
          try simp only [hn]
          go_wp2_with (fail)
          exact ⟨rfl, _, rfl, Below.refl _ _, rfl⟩
        · intro xs W hW hn
          simp only [flowAct, List.zipWith_cons_cons, List.zipWith_nil_left]
          go_wp2_with (fail)
          exact ⟨rfl, _, rfl, Below.refl _ _, rfl⟩
        · intro xs W hW hn
          obtain ⟨-, rb1, -⟩ := HRC.out W hW
          simp [flowNeeds, Region.binds] at hn
          simp only [flowAct, List.zipWith_cons_cons, List.zipWith_nil_left]
          try simp only [hn]
          go_wp2_with (fail)
          exact ⟨rfl, _, rfl, Below.refl _ _, rfl⟩
        · intro xs W hW hn
          simp only [flowAct, List.zipWith_cons_cons, List.zipWith_nil_left]
          go_wp2_with (fail)
          exact ⟨rfl, _, rfl, Below.refl _ _, rfl⟩
        · intro xs W hW hn
          simp [flowNeeds, Region.binds] at hn
          simp only [flowAct, List.zipWith_cons_cons, List.zipWith_nil_left]
          try simp only [hn]
          go_wp2_with (fail)
          exact ⟨rfl, _, rfl, Below.refl _ _, rfl⟩
        · intro xs W hW hn
          obtain ⟨p0, p1, p2, p3, p4, p5, p6, p7⟩ := HQW.out W hW
          simp only at p0 p1 p2 p3 p4 p5 p6 p7
          simp [flowNeeds, Region.binds] at hn
          simp only [flowAct, List.zipWith_cons_cons, List.zipWith_nil_left]
          try simp only [hn]
          go_wp2_with (fail)
          exact ⟨rfl, _, rfl, Below.refl _ _, rfl⟩
        · intro xs W hW hn
          simp [flowNeeds, Region.binds] at hn
          simp only [flowAct, List.zipWith_cons_cons, List.zipWith_nil_left]
          simp only [hn]
          go_wp2_with (go_at_call 32; (with_reducible refine (HS.out _).mono ?_); rintro e9 w9 ⟨rfl, hb9⟩)
          exact ⟨rfl, _, rfl, hb9, rfl⟩
        · intro xs W hW hn
          simp [flowNeeds, Region.binds] at hn
          simp only [flowAct, List.zipWith_cons_cons, List.zipWith_nil_left]
          try simp only [hn]
          go_wp2_with (fail)
          exact ⟨rfl, _, rfl, Below.refl _ _, rfl⟩
      · intro xs W hW hall
        simp only [flowAll, and_true, Nat.zero_add, Nat.reduceAdd] at hall
        obtain ⟨-, -, -, -, -, -, -, -, -, -, -, e11⟩ := hall
        simp only [flowAct, List.zipWith_cons_cons, List.zipWith_nil_left]
        simp only [e11]
        go_wp2
        go_roundw
        case rel => exact ⟨i + 1, by omega, by go_num, HB.out.trans (hW.mono HB.out.size), (hW.block _ (Array.getElem?_eq_some_iff.1 HR.out).1).trans HR.out, (hW.block _ (Array.getElem?_eq_some_iff.1 HR2.out).1).trans HR2.out⟩
        case measure => simp [intOf]; omega
    · obtain rfl : i = m := by omega
      clear hB hr hr2
      go_wp2
      go_ret
      exact ⟨rfl, HB.out⟩
end Go.Proofs.YtkjpmdpljdgcjaaDoor
end

section
/-
  Row: Add.
-/
namespace Go.Proofs.YtkjpmdpljdgcjaaDoor
open Go.RowKit Go Go.Sort
set_option linter.unusedVariables false
set_option maxRecDepth 20000

/-- A sum that is asked about up to 5000. -/
def satN (n k : Nat) : Nat := if n + k ≤ 5000 then n + k else 5001
theorem satN_le (n k : Nat) : satN n k ≤ 5001 := by unfold satN; split <;> omega
theorem satN_full {n : Nat} (h : 5000 < n) (k : Nat) : satN n k = 5001 := by unfold satN; rw [if_neg (by omega)]
theorem satN_fits {n k : Nat} (h : satN n k ≤ 5000) : satN n k = n + k ∧ n + k ≤ 5000 := by unfold satN at h ⊢; split <;> rename_i hh
                                                                                           <;> first
                                                                                             | exact ⟨rfl, hh⟩
                                                                                             | (rw [if_neg hh] at h; omega)
set_option maxHeartbeats 1600000 in
theorem radd_c (n k : Nat) (hn : n ≤ 5001) (hk : k ≤ 9223372036854775807) (w : World) : Calls Tryd.prog 33 #[.int .i64 (n : Int), .int .i64 (k : Int), .int .i64 5000] w (fun e w' => e = .returned (.int .i64 ((satN n k : Nat) : Int)) ∧ w = w') := by
  obtain ⟨R, hR⟩ : ∃ R, satN n k = R := ⟨_, rfl⟩
  rw [hR]
  unfold satN at hR
  by_cases h1 : 5000 < n
  · have h1i : (5000 : Int) < (n : Int) := by omega
    obtain rfl : 5001 = R := by rw [← hR, if_neg (by omega)]
    clear hR
    go_enter Tryd.func33, Tryd.ntmps33
    go_wp2
    go_ret
    exact ⟨rfl, rfl⟩
  · have h1i : ¬ (5000 : Int) < (n : Int) := by omega
    by_cases h2 : 5000 < k
    · have h2i : (5000 : Int) < (k : Int) := by omega
      obtain rfl : 5001 = R := by rw [← hR, if_neg (by omega)]
      clear hR
      go_enter Tryd.func33, Tryd.ntmps33
      go_wp2
      go_ret
      exact ⟨rfl, rfl⟩
    · have h2i : ¬ (5000 : Int) < (k : Int) := by omega
      have hs1 : 5000 - (k : Int) ≤ 9223372036854775807 := by omega
      have hs2 : -9223372036854775808 ≤ 5000 - (k : Int) := by omega
      by_cases h3 : n + k ≤ 5000
      · have h3i : ¬ 5000 - (k : Int) < (n : Int) := by omega
        have HR := Lib.hid (show (n : Int) + (k : Int) = (R : Int) by rw [← hR, if_pos h3]; omega)
        have ha1 : (n : Int) + (k : Int) ≤ 9223372036854775807 := by omega
        clear hR
        go_enter Tryd.func33, Tryd.ntmps33
        go_wp2
        go_ret
        exact ⟨by rw [← HR.out]; go_num, rfl⟩
      · have h3i : 5000 - (k : Int) < (n : Int) := by omega
        obtain rfl : 5001 = R := by rw [← hR, if_neg (by omega)]
        clear hR
        go_enter Tryd.func33, Tryd.ntmps33
        go_wp2
        go_ret
        exact ⟨rfl, rfl⟩
end Go.Proofs.YtkjpmdpljdgcjaaDoor
end

section
/-
  Row: light.
-/
namespace Go.Proofs.YtkjpmdpljdgcjaaDoor
open Go.RowKit Go Go.Sort
set_option linter.unusedVariables false
set_option maxRecDepth 20000

/-- Rows in memory, one behind the other. -/
def RowsAt (W : World) (q : Nat) (rows : List (List UInt8 × List Cl)) : Prop :=
  ∀ i, i < rows.length → ∃ a m c, W.cell? ⟨q, i * 2, none⟩ = some (.string (text (rows.getD i ([], [])).1)) ∧ W.cell? ⟨q, i * 2 + 1, none⟩ = some (.slice a m c) ∧ Cls W a m c (rows.getD i ([], [])).2
theorem RowsAt.below {W W' : World} {q : Nat} {rows : List (List UInt8 × List Cl)} (h : RowsAt W q rows) (hb : Below W.heap.size W W') : RowsAt W' q rows := by
  intro i hi
  obtain ⟨a, m, c, h1, h2, h3⟩ := h i hi
  exact ⟨a, m, c, by rw [hb.cell (World.block_lt_of_cell? W _ h1)]; exact h1, by rw [hb.cell (World.block_lt_of_cell? W _ h2)]; exact h2, h3.below hb⟩
def cellsN (cs : List Cl) (n : Nat) : Nat → Nat
  | 0 => n
  | k + 1 => satN (cellsN cs n k) (cs.getD k Cl.zero).t.length
def lightN (g : Nat) (rows : List (List UInt8 × List Cl)) : Nat → Nat
  | 0 => satN 0 g
  | k + 1 => cellsN (rows.getD k ([], [])).2 (satN (satN (lightN g rows k) (rows.getD k ([], [])).1.length) (rows.getD k ([], [])).2.length) (rows.getD k ([], [])).2.length
theorem cellsN_le {cs : List Cl} {n : Nat} (h : n ≤ 5001) : ∀ k, cellsN cs n k ≤ 5001
  | 0 => h
  | k + 1 => satN_le _ _
theorem cellsN_full {cs : List Cl} {n k : Nat} (h : 5000 < cellsN cs n k) (hn : n ≤ 5001) : ∀ j, k ≤ j → cellsN cs n j = 5001
  | 0, hj => by
    obtain rfl : k = 0 := by omega
    have := cellsN_le (cs := cs) hn 0
    omega
  | j + 1, hj => by
    by_cases e : k = j + 1
    · subst e
      have := cellsN_le (cs := cs) hn (j + 1)
      omega
    · have := cellsN_full h hn j (by omega)
      show satN _ _ = _
      exact satN_full (by omega) _
theorem lightN_le (g : Nat) (rows : List (List UInt8 × List Cl)) : ∀ k, lightN g rows k ≤ 5001
  | 0 => satN_le _ _
  | k + 1 => cellsN_le (satN_le _ _) _
theorem lightN_full {g k : Nat} {rows : List (List UInt8 × List Cl)} (h : 5000 < lightN g rows k) : ∀ j, k ≤ j → lightN g rows j = 5001
  | 0, hj => by
    obtain rfl : k = 0 := by omega
    have := lightN_le g rows 0
    omega
  | j + 1, hj => by
    by_cases e : k = j + 1
    · subst e
      have := lightN_le g rows (j + 1)
      omega
    · have := lightN_full h j (by omega)
      have h1 := satN_full (show 5000 < lightN g rows j by omega) (rows.getD j ([], [])).1.length
      have h2 := satN_full (show 5000 < satN (lightN g rows j) (rows.getD j ([], [])).1.length by omega) (rows.getD j ([], [])).2.length
      show cellsN _ _ _ = _
      exact cellsN_full (k := 0) (show 5000 < satN (satN (lightN g rows j) (rows.getD j ([], [])).1.length) (rows.getD j ([], [])).2.length by omega) (satN_le _ _) _ (Nat.zero_le _)

set_option maxRecDepth 100000 in
set_option maxHeartbeats 6400000 in
theorem light_c {w : World} {x : Option Addr} {n1 cap q rn : Nat} {gs : List Grp} {rows : List (List UInt8 × List Cl)} (hg : Grs w x n1 cap gs) (hr : RowsAt w q rows) (hrn : rows.length = rn) (hr3 : rn ≤ 3)
    (hk : ∀ r ∈ rows, r.1.length ≤ 9223372036854775807) (hx : ∀ r ∈ rows, ∀ c ∈ r.2, c.t.length ≤ 9223372036854775807) :
    Calls Tryd.prog 8 #[.slice x n1 cap, .slice (some ⟨q, 0, none⟩) rn rn] w (Tells (.bool (decide (lightN gs.length rows rn ≤ 5000))) w) := by
  have hgl := hg.len
  have hle := hg.le
  have hmax := hg.max
  have HR := Lib.hid hr
  have HK := Lib.hid hk
  have HX := Lib.hid hx
  have HRN := Lib.hid hrn
  have HLE := Lib.hid (lightN_le gs.length rows)
  have HFU := Lib.hid (fun (k : Nat) => @lightN_full gs.length k rows)
  have HA0 := Lib.hid (fun W => show Calls Tryd.prog 33 #[.int .i64 0, .int .i64 (n1 : Int), .int .i64 5000] W (fun e w' => e = .returned (.int .i64 ((satN 0 n1 : Nat) : Int)) ∧ W = w') from radd_c 0 n1 (by omega) (by omega) W)
  have h00 : satN 0 n1 = lightN gs.length rows 0 := by rw [hgl]; rfl
  rw [h00] at HA0
  clear h00
  obtain ⟨R, hR⟩ : ∃ R, decide (lightN gs.length rows rn ≤ 5000) = R := ⟨_, rfl⟩
  have HRV := Lib.hid hR
  have HG := Lib.hid hgl
  rw [hR]
  clear hR hr hk hx hg hgl hrn
  go_enter Tryd.func8, Tryd.ntmps8
  go_wp2_with (go_at_call 33; (with_reducible refine (HA0.out _).mono ?_); rintro e9 w9 ⟨rfl, rfl⟩)
  clear HA0
  go_loopw [5, 6] (fun v i wr => ∃ (k nn : Nat), k ≤ rn ∧ i = .int .i64 k ∧ v = .int .i64 (nn : Int) ∧ lightN gs.length rows k = nn ∧ Below w.heap.size w wr) (fun _ i _ => rn - (intOf i).toNat)
  case atStart => exact ⟨0, _, by omega, rfl, rfl, rfl, Below.refl _ _⟩
  case round =>
    obtain ⟨i, nn, hk, rfl, rfl, hnn, hB⟩ := hrel
    have HNN := Lib.hid hnn
    have HB := Lib.hid hB
    have hn5 : nn ≤ 5001 := by rw [← hnn]; exact HLE.out i
    clear hnn hB
    by_cases hlt : i < rn
    · have hki : (i : Int) < (rn : Int) := by omega
      by_cases hfull : 5000 < nn
      · have hfi : ¬ (nn : Int) ≤ 5000 := by omega
        have HRR := Lib.hid (show R = false by rw [← HRV.out, HFU.out i (by rw [HNN.out]; exact hfull) rn hk]; rfl)
        go_wp2
        go_ret
        exact ⟨by rw [HRR.out]; rfl, HB.out⟩
      · have hfi : (nn : Int) ≤ 5000 := by omega
        obtain ⟨a, m, c, h1, h2, h3⟩ := HR.out i (by rw [HRN.out]; exact hlt)
        have HAT0 := Lib.hid (And.intro h1 h2)
        have HH2 := Lib.hid h2
        obtain ⟨y, hy⟩ : ∃ y, rows.getD i ([], []) = y := ⟨_, rfl⟩
        have hmem : rows.getD i ([], []) ∈ rows := by
          rw [List.getD_eq_getElem?_getD, List.getElem?_eq_getElem (by rw [HRN.out]; exact hlt)]
          exact List.getElem_mem _
        have hkey := HK.out _ hmem
        have hxs := HX.out _ hmem
        rw [hy] at h1 h3 hkey hxs HAT0
        obtain ⟨key, cs⟩ := y
        simp only at h1 h3 hkey hxs HAT0
        have hst : lightN gs.length rows (i + 1) = cellsN cs (satN (satN nn key.length) cs.length) cs.length := by
          show cellsN (rows.getD i ([], [])).2 _ _ = _
          rw [hy, HNN.out]
        rw [h3.len] at hst
        have HST := Lib.hid hst
        have HSZ := Lib.hid (show ((text key).size : Int) = (key.length : Int) by rw [text_size])
        have HA1 := Lib.hid (fun W => radd_c nn key.length hn5 hkey W)
        have hmm := h3.max
        have hml := h3.le
        have HA2 := Lib.hid (fun W => radd_c (satN nn key.length) m (satN_le _ _) (by omega) W)
        have hwr := HB.out
        have HAT := Lib.hid (fun W (h : Below wr.heap.size wr W) => And.intro (((hwr.trans (h.mono hwr.size)).cell (World.block_lt_of_cell? w _ h1)).trans HAT0.out.1) (((hwr.trans (h.mono hwr.size)).cell (World.block_lt_of_cell? w _ h2)).trans HAT0.out.2))
        have HC := Lib.hid h3
        have HXS := Lib.hid hxs
        clear h1 h2 h3 hy hmem hkey hxs hst HAT0 hwr
        go_upto_region 5 with (fail)
        refine wp_region_flow_tail 15 [none, none, none, none, none, none, none, none, none, none, none, none, none, none, none, none, none, none, none, none, none, some 0, some 1, some 2, some 3, some 4, some 5, some 6, some 7, some 8, some 9, some 10, some 11, some 12, some 13, some 14, none, none, none, none, none, none, none, none, none, none, none, none, none, none, none, none, none, none, none, none, none, none, none, none, none, none, none, none] (fun i => [u21, u22, u23, u24, u25, u26, u27, u28, u29, u30, u31, u32, u33, u34, u35].getD i undef) [(fun v _ => v = .int .i64 (nn : Int)), (fun v _ => v = .slice (some ⟨q, 0, none⟩) rn rn), (fun v _ => v = .int .i64 (i : Int)), (fun v _ => v = .pointer (some ⟨q, i * 2, none⟩)), (fun v _ => v = .pointer (some ⟨q, i * 2, none⟩)), (fun v _ => v = .string (text key)), (fun v _ => v = .int .i64 (key.length : Int)), (fun v _ => v = .int .i64 ((satN nn key.length : Nat) : Int)), (fun v _ => v = .slice (some ⟨q, 0, none⟩) rn rn), (fun v _ => v = .int .i64 (i : Int)), (fun v _ => v = .pointer (some ⟨q, i * 2, none⟩)), (fun v _ => v = .pointer (some ⟨q, i * 2 + 1, none⟩)), (fun v _ => v = .slice a m c), (fun v _ => v = .int .i64 (m : Int)), (fun v _ => v = .int .i64 ((satN (satN nn key.length) m : Nat) : Int))] (fun _ => False) (by kernel_rfl) (by kernel_rfl) (by kernel_rfl) rfl rfl rfl ?_ ?_ ?_
        · intro g hg v X Y hX hY hv
          simp only [List.mem_cons, List.not_mem_nil, or_false] at hg
          rcases hg with rfl | rfl | rfl | rfl | rfl | rfl | rfl | rfl | rfl | rfl | rfl | rfl | rfl | rfl | rfl
          all_goals first
            | exact hv
            | exact hv.kept hY
        · simp only [flowOpsF, List.take_succ_cons, List.take_zero, and_true]
          refine ⟨?_, ?_, ?_, ?_, ?_, ?_, ?_, ?_, ?_, ?_, ?_, ?_, ?_, ?_, ?_⟩
          · intro xs W hW hn
            simp only [flowAct, List.zipWith_cons_cons, List.zipWith_nil_left]
            go_wp2_with (fail)
            exact ⟨rfl, _, rfl, Below.refl _ _, rfl, fun h => h.elim⟩
          · intro xs W hW hn
            simp only [flowAct, List.zipWith_cons_cons, List.zipWith_nil_left]
            go_wp2_with (fail)
            exact ⟨rfl, _, rfl, Below.refl _ _, rfl, fun h => h.elim⟩
          · intro xs W hW hn
            simp only [flowAct, List.zipWith_cons_cons, List.zipWith_nil_left]
            go_wp2_with (fail)
            exact ⟨rfl, _, rfl, Below.refl _ _, rfl, fun h => h.elim⟩
          · intro xs W hW hn
            simp [flowNeeds, Region.binds] at hn
            simp only [flowAct, List.zipWith_cons_cons, List.zipWith_nil_left]
            try simp only [hn]
            go_wp2_with (fail)
            exact ⟨rfl, _, rfl, Below.refl _ _, rfl, fun h => h.elim⟩
          · intro xs W hW hn
            simp [flowNeeds, Region.binds] at hn
            simp only [flowAct, List.zipWith_cons_cons, List.zipWith_nil_left]
            try simp only [hn]
            go_wp2_with (fail)
            exact ⟨rfl, _, rfl, Below.refl _ _, rfl, fun h => h.elim⟩
          · intro xs W hW hn
            obtain ⟨p0, p1⟩ := HAT.out W hW
            simp [flowNeeds, Region.binds] at hn
            simp only [flowAct, List.zipWith_cons_cons, List.zipWith_nil_left]
            try simp only [hn]
            go_wp2_with (fail)
            exact ⟨rfl, _, rfl, Below.refl _ _, rfl, fun h => h.elim⟩
          · intro xs W hW hn
            have hsz := HSZ.out
            simp [flowNeeds, Region.binds] at hn
            simp only [flowAct, List.zipWith_cons_cons, List.zipWith_nil_left]
            try simp only [hn]
            go_wp2_with (fail)
            exact ⟨rfl, _, rfl, Below.refl _ _, rfl, fun h => h.elim⟩
          · intro xs W hW hn
            simp [flowNeeds, Region.binds] at hn
            simp only [flowAct, List.zipWith_cons_cons, List.zipWith_nil_left]
            simp only [hn]
            go_wp2_with (go_at_call 33; (with_reducible refine (HA1.out _).mono ?_); rintro e9 w9 ⟨rfl, rfl⟩)
            exact ⟨rfl, _, rfl, Below.refl _ _, rfl, fun h => h.elim⟩
          · intro xs W hW hn
            simp only [flowAct, List.zipWith_cons_cons, List.zipWith_nil_left]
            go_wp2_with (fail)
            exact ⟨rfl, _, rfl, Below.refl _ _, rfl, fun h => h.elim⟩
          · intro xs W hW hn
            simp only [flowAct, List.zipWith_cons_cons, List.zipWith_nil_left]
            go_wp2_with (fail)
            exact ⟨rfl, _, rfl, Below.refl _ _, rfl, fun h => h.elim⟩
          · intro xs W hW hn
            simp [flowNeeds, Region.binds] at hn
            simp only [flowAct, List.zipWith_cons_cons, List.zipWith_nil_left]
            try simp only [hn]
            go_wp2_with (fail)
            exact ⟨rfl, _, rfl, Below.refl _ _, rfl, fun h => h.elim⟩
          · intro xs W hW hn
            simp [flowNeeds, Region.binds] at hn
            simp only [flowAct, List.zipWith_cons_cons, List.zipWith_nil_left]
            try simp only [hn]
            go_wp2_with (fail)
            exact ⟨rfl, _, rfl, Below.refl _ _, rfl, fun h => h.elim⟩
          · intro xs W hW hn
            obtain ⟨p0, p1⟩ := HAT.out W hW
            simp [flowNeeds, Region.binds] at hn
            simp only [flowAct, List.zipWith_cons_cons, List.zipWith_nil_left]
            try simp only [hn]
            go_wp2_with (fail)
            exact ⟨rfl, _, rfl, Below.refl _ _, rfl, fun h => h.elim⟩
          · intro xs W hW hn
            simp [flowNeeds, Region.binds] at hn
            simp only [flowAct, List.zipWith_cons_cons, List.zipWith_nil_left]
            try simp only [hn]
            go_wp2_with (fail)
            exact ⟨rfl, _, rfl, Below.refl _ _, rfl, fun h => h.elim⟩
          · intro xs W hW hn
            simp [flowNeeds, Region.binds] at hn
            simp only [flowAct, List.zipWith_cons_cons, List.zipWith_nil_left]
            simp only [hn]
            go_wp2_with (go_at_call 33; (with_reducible refine (HA2.out _).mono ?_); rintro e9 w9 ⟨rfl, rfl⟩)
            exact ⟨rfl, _, rfl, Below.refl _ _, rfl, fun h => h.elim⟩
        · intro xs W hW hall hfr
          clear hfr
          simp only [flowAll, and_true, Nat.zero_add, Nat.reduceAdd] at hall
          obtain ⟨-, -, -, -, -, -, -, -, -, -, -, -, -, -, e14⟩ := hall
          simp only [flowAct, List.zipWith_cons_cons, List.zipWith_nil_left, List.drop_succ_cons, List.drop_zero]
          simp only [e14]
          have HB5 := Lib.hid (HB.out.trans (hW.mono HB.out.size))
          obtain ⟨n2, hn2⟩ : ∃ z, satN (satN nn key.length) m = z := ⟨_, rfl⟩
          have hn25 : n2 ≤ 5001 := by rw [← hn2]; exact satN_le _ _
          rw [hn2] at HST ⊢
          clear hn2 HA1 HA2 HAT HSZ
          go_wp2
          go_loopw [5, 7] (fun v i9 wr => ∃ (k nk : Nat), k ≤ m ∧ i9 = .int .i64 k ∧ v = .int .i64 (nk : Int) ∧ cellsN cs n2 k = nk ∧ Below w.heap.size w wr) (fun _ i9 _ => m - (intOf i9).toNat)
          case atStart => exact ⟨0, n2, by omega, rfl, rfl, rfl, HB5.out⟩
          case round =>
            clear HB HB5
            obtain ⟨k, nk, hk2, rfl, rfl, hnk, hB⟩ := hrel
            have HNK := Lib.hid hnk
            have HB := Lib.hid hB
            have hn6 : nk ≤ 5001 := by rw [← hnk]; exact cellsN_le hn25 k
            clear hnk hW
            have r1 := (hB.cell (World.block_lt_of_cell? w _ HH2.out)).trans HH2.out
            by_cases hkm : k < m
            · have hkmi : (k : Int) < (m : Int) := by omega
              have hkci : (k : Int) < (c : Int) := by omega
              by_cases hf2 : 5000 < nk
              · have hf2i : ¬ (nk : Int) ≤ 5000 := by omega
                have HNX := Lib.hid (show lightN gs.length rows (i + 1) = nk by rw [HST.out, cellsN_full (k := k) (by rw [HNK.out]; exact hf2) hn25 m hk2]; omega)
                clear hB
                go_wp2
                go_roundw
                case rel => exact ⟨i + 1, nk, by omega, by go_num, rfl, HNX.out, HB.out⟩
                case measure => simp [intOf]; omega
              · have hf2i : (nk : Int) ≤ 5000 := by omega
                obtain ⟨bk, off, rfl, hat⟩ := HC.out.at hkm
                have hgm : (cs.getD k Cl.zero) ∈ cs := mem_getDd (by have := HC.out.len; omega)
                have hcx := HXS.out _ hgm
                have hnx : cellsN cs n2 (k + 1) = satN nk (cs.getD k Cl.zero).t.length := by rw [← HNK.out]; rfl
                obtain ⟨y, hy⟩ : ∃ y, cs.getD k Cl.zero = y := ⟨_, rfl⟩
                rw [hy] at hcx hnx hat
                obtain ⟨n, s, a, b, g, t, d, e⟩ := y
                obtain ⟨p0, p1, p2, p3, p4, p5, p6, p7⟩ := hat wr hB
                simp only at p0 p1 p2 p3 p4 p5 p6 p7 hcx hnx
                have hsz : ((text t).size : Int) = (t.length : Int) := by rw [text_size]
                have HA3 := Lib.hid (fun W => radd_c nk t.length hn6 hcx W)
                have HNX := Lib.hid hnx
                clear hB hat hgm hcx hnx hy p0 p1 p2 p3 p4 p6 p7
                go_wp2_with (go_at_call 33; (with_reducible refine (HA3.out _).mono ?_); rintro e9 w9 ⟨rfl, rfl⟩)
                go_roundw
                case rel => exact ⟨k + 1, _, by omega, by go_num, rfl, HNX.out, HB.out⟩
                case measure => simp [intOf]; omega
            · obtain rfl : k = m := by omega
              have HNX := Lib.hid (show lightN gs.length rows (i + 1) = nk by rw [HST.out, HNK.out])
              clear hB
              go_wp2
              go_roundw
              case rel => exact ⟨i + 1, nk, by omega, by go_num, rfl, HNX.out, HB.out⟩
              case measure => simp [intOf]; omega
    · obtain rfl : i = rn := by omega
      have HRR := Lib.hid (show decide ((nn : Int) ≤ 5000) = R by rw [← HRV.out, HNN.out]; congr 1; exact propext (by omega))
      go_wp2
      go_ret
      exact ⟨by rw [← HRR.out]; rfl, HB.out⟩
end Go.Proofs.YtkjpmdpljdgcjaaDoor
end

