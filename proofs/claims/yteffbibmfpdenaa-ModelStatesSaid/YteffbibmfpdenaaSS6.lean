/-
  Merged: H7 A2 A3 N3 B3 A5 AA B4 B5 A6 AB AC AH.
-/
import Derived.Deep.QuietTactic
import Derived.StillTail
import Derived.Lib.QuietBelow
import Derived.Test.YteffbibmfpdenaaRows
import Derived.WalkKit
import Derived.Lib.Hide
import Derived.BigQuiet
import Derived.BigRegion
import Derived.Deep.Cut
import Derived.Deep.MidRow
import Derived.Great.BuildSlice
import Derived.Outline
import Derived.OwnWalk
import Derived.Laws.Rows
import Derived.ChangeKeysEq
import Derived.Laws.StructEq
import Derived.WalkSpells
import Derived.WalkLawsBesides
import Derived.Laws.CopyOwn
import Derived.WalkSmall
import Derived.Lib.LaidTab
import Derived.Deep.RegionWith
import Derived.Lib.MinMax
import Derived.WideShapes
import Derived.ChangeSame
import Derived.OpenShut
import Derived.Deep.Slices
import Derived.Deep.AppendSrc
import Derived.Lib.AppendZerosOnto
import Derived.Lib.SliceRun
import Derived.Lib.Walk
import Derived.Lib.OthersKept
import Derived.Laws.RangeAny
import Derived.Maps.OwnOps
import Derived.Maps.Views
import Derived.ChangeSlices
import Derived.ChangeArms
import Derived.Deep.DeepAppendWide
import Derived.OrdersIn
import Derived.TacticsIn
import Derived.RangeFuncNested
import Derived.RangeFuncBound
import Derived.RangeFuncCalls
import Derived.RangeFuncLeaves
import Derived.Maps.AppendAt
import Derived.Shelf.Abstract
import Derived.OwnWalkIn
import Derived.TacticsInMore
import Derived.LoopNIn
import Derived.LoopIn
import Derived.Test.YteffbibmfpdenaaSS5

section
namespace Go.Proofs.Yteffbibmfpdenaa
open Go.RowKit Go Go.Sort
set_option linter.unusedVariables false
set_option maxRecDepth 20000

theorem cof_good {p n s a b : Int} {g : Bool} {t : List UInt8} {c : Cl} (h : cofS p n s a b g t = (c, 0)) : c.good p = true ∧ c.t.length ≤ t.length := by
  unfold cofS at h
  by_cases ha : argS p n s a b g t = true
  · rw [if_pos ha] at h
    by_cases hl : 64 < t.length
    · rw [if_pos hl] at h; simp at h
    · rw [if_neg hl] at h
      unfold argS at ha
      simp only [Bool.and_eq_true, Bool.or_eq_true, beq_iff_eq, whenS, decide_eq_true_eq] at ha
      obtain ⟨hp, ⟨hs, hn⟩, hv, hg⟩ := ha
      by_cases h2 : ((p == 2) && g) = true
      · rw [if_pos h2] at h
        simp only [Prod.mk.injEq, and_true] at h
        subst h
        simp only [Bool.and_eq_true, beq_iff_eq] at h2
        refine ⟨?_, Nat.zero_le _⟩
        simp [Cl.good, cgoodS, wroteS, h2.1, hv]
      · rw [if_neg h2] at h
        simp only [Prod.mk.injEq, and_true] at h
        subst h
        refine ⟨?_, Nat.le_refl _⟩
        have hlt : t.length ≤ 64 := by omega
        rcases hp with rfl | rfl
        · cases g <;> simp_all [Cl.good, cgoodS, zeroS]
        · cases g <;> simp_all [Cl.good, cgoodS, zeroS, vgood]
  · rw [if_neg ha] at h; simp at h
theorem cof_ok {p n s a b : Int} {g : Bool} {t : List UInt8} {c : Cl} (h : cofS p n s a b g t = (c, 0)) : (p = 1 ∨ p = 2) ∧ sgood n s = true ∧ 0 < n ∧ vgood a b = true ∧ (g = true → t = []) ∧ t.length ≤ 64 ∧
    ((p = 2 ∧ g = true ∧ c = ⟨0, 0, 0, 0, false, [], a, b⟩) ∨ ((p = 2 → g = false) ∧ c = ⟨n, s, a, b, g, t, 0, 0⟩)) := by
  unfold cofS at h
  by_cases ha : argS p n s a b g t = true
  · rw [if_pos ha] at h
    by_cases hl : 64 < t.length
    · rw [if_pos hl] at h; simp at h
    · rw [if_neg hl] at h
      unfold argS at ha
      simp only [Bool.and_eq_true, Bool.or_eq_true, beq_iff_eq, whenS, decide_eq_true_eq] at ha
      obtain ⟨hp, ⟨hs, hn⟩, hv, hg⟩ := ha
      refine ⟨hp, hs, hn, hv, ?_, by omega, ?_⟩
      · intro hgt; subst hgt; simpa using hg
      · by_cases h2 : ((p == 2) && g) = true
        · rw [if_pos h2] at h
          simp only [Prod.mk.injEq, and_true] at h
          simp only [Bool.and_eq_true, beq_iff_eq] at h2
          exact .inl ⟨h2.1, h2.2, h.symm⟩
        · rw [if_neg h2] at h
          simp only [Prod.mk.injEq, and_true] at h
          refine .inr ⟨fun hp2 => ?_, h.symm⟩
          subst hp2
          simpa using h2
  · rw [if_neg ha] at h; simp at h
theorem rowPut_nil (n1 : Nat) (k : List UInt8) (i : Nat) (x : Cl) : rowPut n1 [] k i x = [(k, (zerosC n1).set i x)] := by simp [rowPut]
theorem rowPut_new {n1 : Nat} {R0 : List (List UInt8 × List Cl)} {kl k : List UInt8} {cs : List Cl} {i : Nat} {x : Cl} (h : kl ≠ k) : rowPut n1 (R0 ++ [(kl, cs)]) k i x = (R0 ++ [(kl, cs)]) ++ [(k, (zerosC n1).set i x)] := by
  unfold rowPut
  rw [if_pos]
  right
  simp [List.getD_eq_getElem?_getD]
  exact h
theorem rowPut_old {n1 : Nat} {R0 : List (List UInt8 × List Cl)} {k : List UInt8} {cs : List Cl} {i : Nat} {x : Cl} : rowPut n1 (R0 ++ [(k, cs)]) k i x = R0 ++ [(k, cs.set i x)] := by
  unfold rowPut
  rw [if_neg]
  · simp [List.getD_eq_getElem?_getD]
  · simp [List.getD_eq_getElem?_getD]
theorem hasN_iff {ws : List Wr} {key : List UInt8} {g : Int} : ∀ {k : Nat}, hasN ws key g k = true ↔ ∃ j, j < k ∧ (ws.getD j Wr.zero).k = key ∧ (ws.getD j Wr.zero).i = g
  | 0 => by simp [hasN]
  | k + 1 => by
    show (hasN ws key g k || plEq _ _ _ _) = true ↔ _
    rw [Bool.or_eq_true, hasN_iff]
    unfold plEq
    simp only [Bool.and_eq_true, decide_eq_true_eq, beq_iff_eq]
    constructor
    · rintro (⟨j, hj, h1, h2⟩ | ⟨h1, h2⟩)
      · exact ⟨j, by omega, h1, h2⟩
      · exact ⟨k, by omega, h1, h2⟩
    · rintro ⟨j, hj, h1, h2⟩
      by_cases e : j = k
      · subst e; exact .inr ⟨h1, h2⟩
      · exact .inl ⟨j, by omega, h1, h2⟩
theorem countP_one (f : Nat → Bool) (i : Nat) (hf : f i = false) : ∀ n, (List.range n).countP (fun g => f g || g == i) = (List.range n).countP f + (if i < n then 1 else 0)
  | 0 => rfl
  | n + 1 => by
    rw [List.range_succ, List.countP_append, List.countP_append, countP_one f i hf n]
    simp only [List.countP_cons, List.countP_nil, Nat.zero_add]
    by_cases e : n = i
    · subst e
      simp [hf]
    · have e2 : (n == i) = false := by simpa using e
      rw [e2, Bool.or_false]
      by_cases h1 : i < n
      · rw [if_pos h1, if_pos (show i < n + 1 by omega)]; omega
      · rw [if_neg h1, if_neg (show ¬ i < n + 1 by omega)]
        generalize (if f n = true then 1 else 0) = z
        omega
section
variable {gs : List Grp} {n s a b : Int} {ws : List Wr}
theorem w_lt (hall : ∀ k, k < ws.length → wAt gs.length ws k = true) : ∀ k, k < ws.length → ∀ j, j < k → aheadS (ws.getD j Wr.zero) (ws.getD k Wr.zero) = true
  | 0, _, j, hj => by omega
  | k + 1, hk, j, hj => by
    have h := hall (k + 1) hk
    unfold wAt at h
    simp only [Bool.and_eq_true, Bool.or_eq_true, decide_eq_true_eq] at h
    have h2 : aheadS (ws.getD k Wr.zero) (ws.getD (k + 1) Wr.zero) = true := by
      rcases h.2 with e | e
      · omega
      · exact e
    by_cases e : j = k
    · subst e; exact h2
    · exact ahead_tr (w_lt hall k (by omega) j (by omega)) h2
theorem ahead_le {x y : Wr} (h : aheadS x y = true) : x.k = y.k ∨ Op.bytesLess x.k y.k = true := by
  unfold aheadS at h
  by_cases e : (x.k == y.k) = false
  · rw [if_pos e] at h; exact .inr h
  · exact .inl (by simpa using e)
def cntR (n1 : Nat) (ws : List Wr) (key : List UInt8) (k : Nat) : Nat := (List.range n1).countP (fun g : Nat => hasN ws key (g : Int) k)
def RowInv (gs : List Grp) (n s a b : Int) (ws : List Wr) (k : Nat) (r : List UInt8 × List Cl) : Prop :=
  rgoodS gs r.1 r.2 = 0 ∧ (∀ g : Nat, g < gs.length → hasN ws r.1 (g : Int) k = false → r.2.getD g Cl.zero = Cl.zero) ∧
  ∀ j, j < k → (ws.getD j Wr.zero).k = r.1 → r.2.getD (ws.getD j Wr.zero).i.toNat Cl.zero = (cofS (gs.getD (ws.getD j Wr.zero).i.toNat ([], 0)).2 n s a b (ws.getD j Wr.zero).g (ws.getD j Wr.zero).v).1
structure RInv (gs : List Grp) (n s a b : Int) (ws : List Wr) (k : Nat) (R : List (List UInt8 × List Cl)) : Prop where
  asc : R.Pairwise (fun r r' => Op.bytesLess r.1 r'.1 = true)
  last : (k = 0 ∧ R = []) ∨ ∃ R0 cs, R = R0 ++ [((ws.getD (k - 1) Wr.zero).k, cs)]
  row : ∀ r ∈ R, RowInv gs n s a b ws k r
  cnt : (R.map (fun r => cntR gs.length ws r.1 k)).sum = k
theorem bl_ne {x y : List UInt8} (h : Op.bytesLess x y = true) : x ≠ y := by
  rintro rfl
  rw [show Op.bytesLess x x = false from strictT.irr x] at h
  cases h
theorem hasN_skip {key : List UInt8} {g : Int} {k : Nat} (h : (ws.getD k Wr.zero).k ≠ key) : hasN ws key g (k + 1) = hasN ws key g k := by
  show (hasN ws key g k || plEq _ _ _ _) = _
  have : plEq (ws.getD k Wr.zero).k (ws.getD k Wr.zero).i key g = false := by
    unfold plEq
    rw [decide_eq_false h]
    rfl
  rw [this, Bool.or_false]
theorem cof_mine (hp : pgoodS gs = 0) (hv : whenS n s = true ∧ vgood a b = true) {w : Wr} (hw : mayS gs.length w = true) : ∃ c, cofS (gs.getD w.i.toNat ([], 0)).2 n s a b w.g w.v = (c, 0) := by
  unfold mayS at hw
  simp only [Bool.and_eq_true, Bool.or_eq_true, decide_eq_true_eq, Bool.not_eq_true', beq_iff_eq] at hw
  obtain ⟨h1, h2, h3, h4, h5⟩ := hw
  have hpol := pgood_pol hp w.i.toNat (by omega)
  unfold cofS
  have ha : argS (gs.getD w.i.toNat ([], 0)).2 n s a b w.g w.v = true := by
    unfold argS
    rw [hv.1, hv.2]
    rcases hpol with e | e <;> rw [e] <;> rcases h5 with e5 | e5 <;> simp [e5]
  rw [if_pos ha, if_neg (by omega)]
  split
  · exact ⟨_, rfl⟩
  · exact ⟨_, rfl⟩
theorem rinv_step (hp : pgoodS gs = 0) (hv : whenS n s = true ∧ vgood a b = true) (hall : ∀ k, k < ws.length → wAt gs.length ws k = true) {k : Nat} (hk : k < ws.length) {R0 : List (List UInt8 × List Cl)} {cs : List Cl}
    (h1 : (R0 ++ [((ws.getD k Wr.zero).k, cs)]).Pairwise (fun r r' => Op.bytesLess r.1 r'.1 = true)) (h2 : ∀ r ∈ R0, RowInv gs n s a b ws k r) (h3 : RowInv gs n s a b ws k ((ws.getD k Wr.zero).k, cs))
    (h4 : (R0.map (fun r => cntR gs.length ws r.1 k)).sum + cntR gs.length ws (ws.getD k Wr.zero).k k = k) :
    RInv gs n s a b ws (k + 1) (R0 ++ [((ws.getD k Wr.zero).k, cs.set (ws.getD k Wr.zero).i.toNat (cofS (gs.getD (ws.getD k Wr.zero).i.toNat ([], 0)).2 n s a b (ws.getD k Wr.zero).g (ws.getD k Wr.zero).v).1)]) := by
  have hmay := w_at (hall k hk)
  obtain ⟨c, hc⟩ := cof_mine hp hv hmay
  have hkey := may_key hmay
  have hlt := w_lt hall k hk
  have hi : 0 ≤ (ws.getD k Wr.zero).i ∧ (ws.getD k Wr.zero).i < (gs.length : Int) := by
    unfold mayS at hmay
    simp only [Bool.and_eq_true, decide_eq_true_eq] at hmay
    exact ⟨hmay.2.1, hmay.2.2.1⟩
  obtain ⟨w, hw⟩ : ∃ w, ws.getD k Wr.zero = w := ⟨_, rfl⟩
  rw [hw] at h1 h3 h4 hc hkey hlt hi ⊢
  rw [hc]
  have hno : hasN ws w.k w.i k = false := by
    cases e : hasN ws w.k w.i k with
    | false => rfl
    | true =>
      obtain ⟨j, hj, e1, e2⟩ := hasN_iff.1 e
      have := hlt j hj
      rw [ahead_pl (show (ws.getD j Wr.zero).pl = w.pl by unfold Wr.pl; rw [e1, e2])] at this
      cases this
  have hne : ∀ r ∈ R0, w.k ≠ r.1 := fun r hr e => by
    have := (List.pairwise_append.1 h1).2.2 r hr _ (List.mem_singleton.2 rfl)
    exact bl_ne this e.symm
  obtain ⟨p1, p2, p3⟩ := h3
  simp only at p1 p2 p3
  obtain ⟨-,-, hcl, hcg⟩ := rgood_inv p1
  have hit : ((w.i.toNat : Nat) : Int) = w.i := Int.toNat_of_nonneg hi.1
  have hil : w.i.toNat < gs.length := by omega
  refine ⟨?_, .inr ⟨R0, _, by rw [Nat.add_sub_cancel, hw]⟩, fun r hr => ?_,?_⟩
  · rw [List.pairwise_append] at h1 ⊢
    refine ⟨h1.1, by simp, fun r hr r' hr' => ?_⟩
    rw [List.mem_singleton.1 hr']
    exact h1.2.2 r hr (w.k, cs) (List.mem_singleton.2 rfl)
  · rcases List.mem_append.1 hr with h | h
    · obtain ⟨q1, q2, q3⟩ := h2 r h
      refine ⟨q1, fun g hg hh => q2 g hg ?_, fun j hj he => ?_⟩
      · rw [hasN_skip (by rw [hw]; exact hne r h)] at hh; exact hh
      · by_cases e : j = k
        · subst e; rw [hw] at he; exact absurd he (hne r h)
        · exact q3 j (by omega) he
    · rw [List.mem_singleton.1 h]
      refine ⟨rgood_yes hp hkey (by rw [List.length_set]; exact hcl) fun j hj => ?_, fun g hg hh => ?_, fun j hj he => ?_⟩
      · unfold cgAt
        rw [set_getD]
        split
        · rename_i e; rw [← e.1]; exact (cof_good hc).1
        · exact hcg j hj
      · have hs : hasN ws w.k (g : Int) (k + 1) = (hasN ws w.k (g : Int) k || plEq w.k w.i w.k (g : Int)) := by rw [← hw]; rfl
        simp only at hh
        rw [hs, Bool.or_eq_false_iff] at hh
        have hgi : w.i.toNat ≠ g := fun e => by
          have h9 := hh.2
          unfold plEq at h9
          rw [← e, hit] at h9
          simp at h9
        simp only
        rw [set_getD, if_neg (fun e => hgi e.1)]
        exact p2 g hg hh.1
      · simp only at he ⊢
        by_cases e : j = k
        · subst e
          rw [hw, set_getD, if_pos ⟨rfl, by omega⟩, hc]
        · have hj2 : j < k := by omega
          have hmj := w_at (hall j (by omega))
          have hji : 0 ≤ (ws.getD j Wr.zero).i := by
            unfold mayS at hmj
            simp only [Bool.and_eq_true, decide_eq_true_eq] at hmj
            exact hmj.2.1
          have hd : w.i.toNat ≠ (ws.getD j Wr.zero).i.toNat := fun e9 => by
            have := hlt j hj2
            rw [ahead_pl (show (ws.getD j Wr.zero).pl = w.pl by unfold Wr.pl; rw [he]; congr 1; omega)] at this
            cases this
          rw [set_getD, if_neg (fun e => hd e.1)]
          exact p3 j hj2 he
  · rw [List.map_append, List.sum_append]
    have e1 : R0.map (fun r => cntR gs.length ws r.1 (k + 1)) = R0.map (fun r => cntR gs.length ws r.1 k) := by
      apply List.map_congr_left
      intro r hr
      unfold cntR
      congr 1
      funext g
      exact hasN_skip (by rw [hw]; exact hne r hr)
    have e2 : cntR gs.length ws w.k (k + 1) = cntR gs.length ws w.k k + 1 := by
      unfold cntR
      have hf : (fun g : Nat => hasN ws w.k (g : Int) (k + 1)) = (fun g : Nat => hasN ws w.k (g : Int) k || g == w.i.toNat) := by
        funext g
        have hs : hasN ws w.k (g : Int) (k + 1) = (hasN ws w.k (g : Int) k || plEq w.k w.i w.k (g : Int)) := by rw [← hw]; rfl
        rw [hs]
        congr 1
        unfold plEq
        rw [Bool.eq_iff_iff]
        simp
        omega
      rw [hf, countP_one (fun g : Nat => hasN ws w.k (g : Int) k) w.i.toNat (by show hasN ws w.k ((w.i.toNat : Nat) : Int) k = false; rw [hit]; exact hno), if_pos hil]
    rw [e1]
    simp only [List.map_cons, List.map_nil, List.sum_cons, List.sum_nil]
    rw [e2]
    omega
theorem rinv (hp : pgoodS gs = 0) (hv : whenS n s = true ∧ vgood a b = true) (hall : ∀ k, k < ws.length → wAt gs.length ws k = true) : ∀ k, k ≤ ws.length → RInv gs n s a b ws k (wrowN gs n s a b ws k)
  | 0, _ => ⟨List.Pairwise.nil, .inl ⟨rfl, rfl⟩, fun r hr => (by cases hr), rfl⟩
  | k + 1, hk => by
    have ih := rinv hp hv hall k (by omega)
    have hmay := w_at (hall k (by omega))
    have hz : ∀ key : List UInt8, keyS key = 0 → (∀ j, j < k → (ws.getD j Wr.zero).k ≠ key) → RowInv gs n s a b ws k (key, zerosC gs.length) ∧ cntR gs.length ws key k = 0 := fun key h0 hn => by
      have hf : ∀ g : Int, hasN ws key g k = false := fun g => by
        cases e : hasN ws key g k with
        | false => rfl
        | true => obtain ⟨j, hj, e1, -⟩ := hasN_iff.1 e; exact absurd e1 (hn j hj)
      refine ⟨⟨rgood_yes hp h0 (by simp [zerosC]) fun j hj => ?_, fun g hg _ => by simp [zerosC, hg], fun j hj he => absurd he (hn j hj)⟩, ?_⟩
      · unfold cgAt
        rw [show (zerosC gs.length).getD j Cl.zero = Cl.zero by simp [zerosC, hj]]
        exact cg_zero (pgood_pol hp j hj)
      · unfold cntR
        rw [List.countP_eq_zero]
        intro g _
        simp [hf]
    show RInv gs n s a b ws (k + 1) (rowPut gs.length (wrowN gs n s a b ws k) _ _ _)
    rcases ih.last with ⟨rfl, hR⟩ | ⟨R0, cs, hR⟩
    · rw [hR, rowPut_nil]
      obtain ⟨z1, z2⟩ := hz (ws.getD 0 Wr.zero).k (may_key hmay) (fun j hj => by omega)
      exact rinv_step hp hv hall (by omega) (R0 := []) (by simp) (fun r hr => by cases hr) z1 (by rw [z2]; rfl)
    · have hk0 : 0 < k := by
        rcases Nat.eq_zero_or_pos k with e | e
        · subst e
          have : wrowN gs n s a b ws 0 = [] := rfl
          rw [this] at hR
          simp at hR
        · exact e
      have hasc := ih.asc
      have hrow := ih.row
      have hcnt := ih.cnt
      rw [hR] at hasc hrow hcnt ⊢
      by_cases e : (ws.getD (k - 1) Wr.zero).k = (ws.getD k Wr.zero).k
      · rw [e] at hasc hrow hcnt ⊢
        rw [rowPut_old]
        refine rinv_step hp hv hall (by omega) hasc (fun r hr => hrow r (List.mem_append_left _ hr)) (hrow _ (List.mem_append_right _ (List.mem_singleton.2 rfl))) ?_
        rw [List.map_append, List.sum_append] at hcnt
        simpa using hcnt
      · rw [rowPut_new e]
        have hle : ∀ j, j < k → (ws.getD j Wr.zero).k = (ws.getD (k - 1) Wr.zero).k ∨ Op.bytesLess (ws.getD j Wr.zero).k (ws.getD (k - 1) Wr.zero).k = true := fun j hj => by
          by_cases ej : j = k - 1
          · subst ej; exact .inl rfl
          · exact ahead_le (w_lt hall (k - 1) (by omega) j (by omega))
        have hl : Op.bytesLess (ws.getD (k - 1) Wr.zero).k (ws.getD k Wr.zero).k = true := by
          rcases ahead_le (w_lt hall k (by omega) (k - 1) (by omega)) with h | h
          · exact absurd h e
          · exact h
        have hn : ∀ j, j < k → (ws.getD j Wr.zero).k ≠ (ws.getD k Wr.zero).k := fun j hj => by
          rcases hle j hj with h | h
          · rw [h]; exact e
          · exact bl_ne (strictT.tr _ _ _ h hl)
        obtain ⟨z1, z2⟩ := hz (ws.getD k Wr.zero).k (may_key hmay) hn
        refine rinv_step hp hv hall (by omega) ?_ hrow z1 (by rw [z2]; exact hcnt)
        rw [List.pairwise_append]
        refine ⟨hasc, by simp, fun r hr r' hr' => ?_⟩
        rw [List.mem_singleton.1 hr']
        rcases List.mem_append.1 hr with h | h
        · exact strictT.tr _ _ _ ((List.pairwise_append.1 hasc).2.2 r h _ (List.mem_singleton.2 rfl)) hl
        · rw [List.mem_singleton.1 h]; exact hl
end
end Go.Proofs.Yteffbibmfpdenaa
end

section
namespace Go.Proofs.Yteffbibmfpdenaa
open Go.RowKit Go Go.Sort
set_option linter.unusedVariables false
set_option maxRecDepth 20000

def opC (u v : List Cl) : List Cl := zipN u v u.length
theorem aciC (gs : List Grp) (k : List UInt8) : ACI opC (fun u => rgoodS gs k u = 0) where
  good u v hu hv := zip_good hu hv
  comm u v hu hv := zip_comm hu hv
  assoc u v x hu hv hx := zip_assoc hu hv hx
  self u hu := zip_self hu
/-- What is asked of the row at a place. -/
def mAt (gs : List Grp) (R : List Rp) (i : Nat) : Int :=
  if ¬ rgoodS gs (R.getD i ([], [])).1 (R.getD i ([], [])).2 = 0 then rgoodS gs (R.getD i ([], [])).1 (R.getD i ([], [])).2
  else if (bareS (R.getD i ([], [])).2 || (decide (0 < i) && !Op.bytesLess (R.getD (i - 1) ([], [])).1 (R.getD i ([], [])).1)) = true then 100 else 0
def mgoodS (gs : List Grp) (R : List Rp) : Int :=
  if ¬ pgoodS gs = 0 then pgoodS gs else (((List.range R.length).map (mAt gs R)).find? (fun e => decide (e ≠ 0))).getD 0
theorem m_pol {gs : List Grp} {R : List Rp} (h : ¬ pgoodS gs = 0) : mgoodS gs R = pgoodS gs := by unfold mgoodS; rw [if_pos h]
theorem m_yes {gs : List Grp} {R : List Rp} (h : pgoodS gs = 0) (ha : ∀ k, k < R.length → mAt gs R k = 0) : mgoodS gs R = 0 := by
  unfold mgoodS
  rw [if_neg (not_not_intro h), List.find?_eq_none.2]
  · rfl
  · intro e he
    obtain ⟨k, hk, rfl⟩ := List.mem_map.1 he
    rw [ha k (List.mem_range.1 hk)]
    decide
theorem m_inv {gs : List Grp} {R : List Rp} (h : mgoodS gs R = 0) : pgoodS gs = 0 ∧ ∀ k, k < R.length → mAt gs R k = 0 := by
  unfold mgoodS at h
  by_cases hp : pgoodS gs = 0
  · refine ⟨hp, fun k hk => ?_⟩
    rw [if_neg (not_not_intro hp)] at h
    cases hf : ((List.range R.length).map (mAt gs R)).find? (fun e => decide (e ≠ 0)) with
    | none =>
      have := List.find?_eq_none.1 hf (mAt gs R k) (List.mem_map.2 ⟨k, List.mem_range.2 hk, rfl⟩)
      simpa using this
    | some e =>
      rw [hf] at h
      have := List.find?_some hf
      simp only [Option.getD_some] at h
      rw [h] at this
      simp at this
  · rw [if_pos hp] at h; exact absurd h hp
theorem m_bad {gs : List Grp} {R : List Rp} {k : Nat} (h : pgoodS gs = 0) (ha : ∀ j, j < k → mAt gs R j = 0) (hk : k < R.length) (hb : ¬ mAt gs R k = 0) : mgoodS gs R = mAt gs R k := by
  unfold mgoodS
  rw [if_neg (not_not_intro h)]
  have e : (List.range R.length).map (mAt gs R) = (List.range k).map (mAt gs R) ++ mAt gs R k :: ((List.range (R.length - k - 1)).map (fun i => mAt gs R (k + 1 + i))) := by
    apply List.ext_getElem
    · simp; omega
    · intro i h1 h2
      simp only [List.getElem_map, List.getElem_range]
      by_cases hi : i < k
      · rw [List.getElem_append_left (by simpa using hi)]; simp
      · rw [List.getElem_append_right (by simpa using hi)]
        by_cases he : i = k
        · subst he; simp
        · obtain ⟨j, rfl⟩ : ∃ j, i = k + 1 + j := ⟨i - k - 1, by omega⟩
          simp only [List.length_map, List.length_range, show k + 1 + j - k = j + 1 by omega, List.getElem_cons_succ, List.getElem_map, List.getElem_range]
  rw [e, List.find?_append, List.find?_eq_none.2]
  · simp only [Option.none_or]
    rw [List.find?_cons_of_pos (by simpa using hb)]
    rfl
  · intro x hx
    obtain ⟨j, hj, rfl⟩ := List.mem_map.1 hx
    rw [ha j (List.mem_range.1 hj)]
    decide
theorem mAt_zero {gs : List Grp} {R : List Rp} {i : Nat} : mAt gs R i = 0 ↔ rgoodS gs (R.getD i ([], [])).1 (R.getD i ([], [])).2 = 0 ∧ bareS (R.getD i ([], [])).2 = false ∧ (0 < i → Op.bytesLess (R.getD (i - 1) ([], [])).1 (R.getD i ([], [])).1 = true) := by
  unfold mAt
  by_cases h : rgoodS gs (R.getD i ([], [])).1 (R.getD i ([], [])).2 = 0
  · rw [if_neg (not_not_intro h)]
    generalize R.getD i ([], []) = z at *
    generalize R.getD (i - 1) ([], []) = z' at *
    generalize bareS z.2 = x
    generalize Op.bytesLess z'.1 z.1 = y
    by_cases hi : 0 < i
    · cases x <;> cases y <;> simp [h, hi]
    · cases x <;> cases y <;> simp [h, hi]
  · rw [if_pos h]
    exact ⟨fun e => absurd e h, fun e => absurd e.1 h⟩
/-- What a state is. -/
structure IsSt (gs : List Grp) (R : List Rp) : Prop where
  pol : pgoodS gs = 0
  asc : KAsc Op.bytesLess R
  good : ∀ r ∈ R, rgoodS gs r.1 r.2 = 0
  bare : ∀ r ∈ R, bareS r.2 = false
theorem asc_of_next {R : List Rp} (h : ∀ i, i + 1 < R.length → Op.bytesLess (R.getD i ([], [])).1 (R.getD (i + 1) ([], [])).1 = true) : KAsc Op.bytesLess R := by
  unfold KAsc
  rw [List.pairwise_iff_getElem]
  have g : ∀ i (hi : i < R.length), R.getD i ([], []) = R[i] := fun i hi => by rw [List.getD_eq_getElem?_getD, List.getElem?_eq_getElem hi]; rfl
  have key : ∀ d i, i + d + 1 < R.length → Op.bytesLess (R.getD i ([], [])).1 (R.getD (i + d + 1) ([], [])).1 = true := by
    intro d
    induction d with
    | zero => exact fun i hi => h i hi
    | succ d ih => exact fun i hi => strictT.tr _ _ _ (ih i (by omega)) (h (i + d + 1) (by omega))
  intro i j hi hj hij
  have := key (j - i - 1) i (by omega)
  rw [show i + (j - i - 1) + 1 = j by omega, g i hi, g j hj] at this
  exact this
theorem next_of_asc {R : List Rp} (h : KAsc Op.bytesLess R) {i : Nat} (hi : i + 1 < R.length) : Op.bytesLess (R.getD i ([], [])).1 (R.getD (i + 1) ([], [])).1 = true := by
  have hp := List.pairwise_iff_getElem.1 h i (i + 1) (by omega) hi (by omega)
  rw [List.getD_eq_getElem?_getD, List.getD_eq_getElem?_getD, List.getElem?_eq_getElem (show i < _ by omega), List.getElem?_eq_getElem hi]
  exact hp
theorem mgood_iff {gs : List Grp} {R : List Rp} : mgoodS gs R = 0 ↔ IsSt gs R := by
  have g : ∀ i (hi : i < R.length), R.getD i ([], []) = R[i] := fun i hi => by rw [List.getD_eq_getElem?_getD, List.getElem?_eq_getElem hi]; rfl
  constructor
  · intro h
    obtain ⟨hp, ha⟩ := m_inv h
    refine ⟨hp, asc_of_next fun i hi => ?_, fun r hr => ?_, fun r hr => ?_⟩
    · exact (mAt_zero.1 (ha (i + 1) hi)).2.2 (by omega)
    · obtain ⟨i, hi, rfl⟩ := List.getElem_of_mem hr
      have := (mAt_zero.1 (ha i hi)).1
      rwa [g i hi] at this
    · obtain ⟨i, hi, rfl⟩ := List.getElem_of_mem hr
      have := (mAt_zero.1 (ha i hi)).2.1
      rwa [g i hi] at this
  · intro h
    refine m_yes h.pol fun i hi => mAt_zero.2 ⟨?_,?_, fun h0 => ?_⟩
    · rw [g i hi]; exact h.good _ (List.getElem_mem hi)
    · rw [g i hi]; exact h.bare _ (List.getElem_mem hi)
    · have := next_of_asc h.asc (i := i - 1) (by omega)
      rwa [show i - 1 + 1 = i by omega] at this
theorem join_zero {p : Int} {a b : Cl} (ha : a.good p = true) (hb : b.good p = true) (h : joinC [a, b] = Cl.zero) : a = Cl.zero := by
  obtain ⟨-,-,-,-,-,-, h1, -, h2⟩ := lattice ha hb ha
  rw [h] at h1
  have e1 := (within_iff (good_up ha)).1 h1
  have e2 := (same_iff _ _).1 h2
  have e3 : joinC [Cl.zero, a] = twoS Cl.zero a := by
    show twoS (twoS Cl.zero Cl.zero) a = _
    rw [show twoS Cl.zero Cl.zero = Cl.zero from rfl]
  rw [e3, two_comm, e1] at e2
  exact e2.symm
theorem zip_bare {gs : List Grp} {k : List UInt8} {u v : List Cl} (hu : rgoodS gs k u = 0) (hv : rgoodS gs k v = 0) (h : bareS u = false) : bareS (opC u v) = false := by
  rw [Bool.eq_false_iff] at h ⊢
  intro hz
  apply h
  unfold bareS at hz ⊢
  rw [List.all_eq_true] at hz ⊢
  intro c hc
  obtain ⟨i, hi, rfl⟩ := List.getElem_of_mem hc
  have h3 := (rgood_inv hu).2.2.1
  have h5 := (rgood_inv hv).2.2.1
  have hl : (opC u v).length = u.length := zipN_len u v u.length
  have e := hz ((opC u v)[i]'(by omega)) (List.getElem_mem _)
  have e2 : (opC u v)[i]'(by omega) = joinC [u.getD i Cl.zero, v.getD i Cl.zero] := by
    have := zip_at u v hi
    rw [List.getD_eq_getElem?_getD, List.getElem?_eq_getElem (by rw [zipN_len]; exact hi)] at this
    exact this
  rw [e2, same_iff] at e
  have := join_zero (good_at hu hi) (good_at hv (show i < v.length by omega)) e
  rw [same_iff]
  rw [List.getD_eq_getElem?_getD, List.getElem?_eq_getElem hi] at this
  exact this
/-- Two states put together are one. -/
theorem mrg_st {gs : List Grp} {a b : List Rp} (ha : IsSt gs a) (hb : IsSt gs b) : IsSt gs (mrg Op.bytesLess opC a b) := by
  have hl := fun k => mrg_look strictT opC k _ a b (Nat.le_refl _) ha.asc hb.asc
  have hs := mrg_asc strictT opC _ a b (Nat.le_refl _) ha.asc hb.asc
  have key : ∀ r ∈ mrg Op.bytesLess opC a b, rgoodS gs r.1 r.2 = 0 ∧ bareS r.2 = false := by
    intro r hr
    have h1 := mem_look strictT (k := r.1) (c := r.2) hs hr
    rw [hl] at h1
    cases h2 : look a r.1 with
    | none =>
      cases h3 : look b r.1 with
      | none => rw [h2, h3] at h1; cases h1
      | some v =>
        rw [h2, h3] at h1
        cases h1
        have := look_mem h3
        exact ⟨hb.good _ this, hb.bare _ this⟩
    | some u =>
      have m1 := look_mem h2
      cases h3 : look b r.1 with
      | none =>
        rw [h2, h3] at h1
        cases h1
        exact ⟨ha.good _ m1, ha.bare _ m1⟩
      | some v =>
        rw [h2, h3] at h1
        have m2 := look_mem h3
        have g1 := ha.good _ m1
        have g2 := hb.good _ m2
        have e : opC u v = r.2 := Option.some.inj (show some (opC u v) = some r.2 from h1)
        rw [← e]
        exact ⟨zip_good g1 g2, zip_bare g1 g2 (ha.bare _ m1)⟩
  exact ⟨ha.pol, hs, fun r hr => (key r hr).1, fun r hr => (key r hr).2⟩
theorem made_st {gs : List Grp} (hp : pgoodS gs = 0) : ∀ (n : Nat) (cs : List (List Rp)), cs.length ≤ n → (∀ S ∈ cs, IsSt gs S) → IsSt gs (madeK Op.bytesLess opC cs)
  | n, [], _, _ => by rw [made_nil]; exact ⟨hp, List.Pairwise.nil, fun r hr => (by cases hr), fun r hr => (by cases hr)⟩
  | n, [S], _, h => by rw [made_one]; exact h S (List.mem_cons_self ..)
  | 0, S :: T :: cs, hn, _ => by simp at hn
  | n + 1, S :: T :: cs, hn, h => by
    have h2 : 2 ≤ (S :: T :: cs).length := by simp
    generalize (S :: T :: cs) = ds at *
    rw [made_two opC h2]
    refine mrg_st (made_st hp n _ ?_ fun X hX => h X (List.mem_of_mem_take hX)) (made_st hp n _ ?_ fun X hX => h X (List.mem_of_mem_drop hX))
    · rw [List.length_take]; omega
    · rw [List.length_drop]; omega
end Go.Proofs.Yteffbibmfpdenaa
end

section
namespace Go.Proofs.Yteffbibmfpdenaa
open Go.RowKit Go Go.Sort
set_option linter.unusedVariables false
set_option maxRecDepth 20000

theorem wrow_keys (gs : List Grp) (n s a b : Int) (ws : List Wr) : ∀ k, ∀ r ∈ wrowN gs n s a b ws k, ∃ j, j < k ∧ (ws.getD j Wr.zero).k = r.1
  | 0, r, hr => by cases hr
  | k + 1, r, hr => by
    have hp : r ∈ rowPut gs.length (wrowN gs n s a b ws k) (ws.getD k Wr.zero).k (ws.getD k Wr.zero).i.toNat (cofS (gs.getD (ws.getD k Wr.zero).i.toNat ([], 0)).2 n s a b (ws.getD k Wr.zero).g (ws.getD k Wr.zero).v).1 := hr
    have ih := wrow_keys gs n s a b ws k
    generalize (cofS (gs.getD (ws.getD k Wr.zero).i.toNat ([], 0)).2 n s a b (ws.getD k Wr.zero).g (ws.getD k Wr.zero).v).1 = x at hp
    unfold rowPut at hp
    split at hp
    · rcases List.mem_append.1 hp with h | h
      · obtain ⟨j, hj, e⟩ := ih r h; exact ⟨j, by omega, e⟩
      · rw [List.mem_singleton] at h; subst h; exact ⟨k, by omega, rfl⟩
    · rename_i hc
      obtain ⟨i, hi, e⟩ := List.getElem_of_mem hp
      rw [List.getElem_set] at e
      split at e
      · subst e; exact ⟨k, by omega, rfl⟩
      · subst e
        obtain ⟨j, hj, e2⟩ := ih _ (List.getElem_mem (by simpa using hi))
        exact ⟨j, by omega, e2⟩
theorem chrows_st {gs : List Grp} {site seq n s a b : Int} {ws : List Wr} (h : chgoodS gs site seq n s a b ws = 0) : IsSt gs (wrowN gs n s a b ws ws.length) := by
  obtain ⟨hp, hh, hall⟩ := ch_inv h
  obtain ⟨h1, h2, h3, h4, h5, h6, h7, -,-⟩ := head_ok hh
  have hn : 0 < n := by
    unfold sgood at h4
    simp only [decide_eq_true_eq] at h4
    rcases h4 with ⟨-, e⟩ | ⟨e, -⟩
    · rcases h1 with e1 | e1 <;> omega
    · omega
  have hw : whenS n s = true ∧ vgood a b = true := by
    refine ⟨?_, h6⟩
    unfold sgood at h4
    unfold whenS sgood
    simp only [decide_eq_true_eq] at h4
    simp [hn]
    omega
  have hR := rinv hp hw hall ws.length (Nat.le_refl _)
  refine ⟨hp, hR.asc, fun r hr => (hR.row r hr).1, fun r hr => ?_⟩
  obtain ⟨q1, q2, q3⟩ := hR.row r hr
  obtain ⟨-,-, k2, -⟩ := rgood_inv q1
  obtain ⟨j, hj, e1⟩ := wrow_keys gs n s a b ws _ r hr
  have h9 := q3 j hj e1
  have hm := w_at (hall j hj)
  obtain ⟨c, hc⟩ := cof_mine (n := n) (s := s) (a := a) (b := b) hp hw hm
  rw [hc] at h9
  simp only at h9
  have hi : (ws.getD j Wr.zero).i.toNat < r.2.length := by
    unfold mayS at hm
    simp only [Bool.and_eq_true, Bool.or_eq_true, decide_eq_true_eq, Bool.not_eq_true', beq_iff_eq] at hm
    omega
  refine bare_not hi ?_
  rw [Bool.eq_false_iff]
  intro e
  rw [same_iff, h9] at e
  obtain ⟨-,-,-,-,-,-, hcc⟩ := cof_ok hc
  rcases hcc with ⟨-,-, hcc⟩ | ⟨-, hcc⟩
  · rw [hcc] at e
    injection e with e1 e2 e3 e4 e5 e6 e7 e8
    split at h7 <;> omega
  · rw [hcc] at e
    injection e with e1
    omega
/-- The rows of a change, and its error. -/
theorem chrows_ok {gs : List Grp} {site seq n s a b : Int} {ws : List Wr} (h : chgoodS gs site seq n s a b ws = 0) : chrowsS gs site seq n s a b ws = (wrowN gs n s a b ws ws.length, 0) := by unfold chrowsS; rw [if_pos h]
theorem chrows_no {gs : List Grp} {site seq n s a b : Int} {ws : List Wr} (h : ¬ chgoodS gs site seq n s a b ws = 0) : chrowsS gs site seq n s a b ws = ([], chgoodS gs site seq n s a b ws) := by unfold chrowsS; rw [if_neg h]
theorem chgood_err {gs : List Grp} {site seq n s a b : Int} {ws : List Wr} (hp : pgoodS gs = 0) (h : ¬ chgoodS gs site seq n s a b ws = 0) : chgoodS gs site seq n s a b ws = 120 := by
  unfold chgoodS at h ⊢
  rw [if_neg (not_not_intro hp)] at h ⊢
  split
  · rfl
  · rename_i h2
    rw [if_neg h2] at h
    split
    · rename_i h3; rw [if_pos h3] at h; exact absurd rfl h
    · rfl
/-- A change: its parts, with the writes. -/
structure Chg where
  site : Int
  seq : Int
  n : Int
  s : Int
  a : Int
  b : Int
  ws : List Wr
def Chg.err (gs : List Grp) (c : Chg) : Int := chgoodS gs c.site c.seq c.n c.s c.a c.b c.ws
def Chg.rows (gs : List Grp) (c : Chg) : List Rp := wrowN gs c.n c.s c.a c.b c.ws c.ws.length
theorem Chg.st {gs : List Grp} {c : Chg} (h : c.err gs = 0) : IsSt gs (c.rows gs) := chrows_st h
/-- What changes make, and an error. -/
def stS (gs : List Grp) (cs : List Chg) : List Rp × Int :=
  if ¬ pgoodS gs = 0 then ([], pgoodS gs) else if cs.all (fun c => decide (c.err gs = 0)) = true then (madeK Op.bytesLess opC (cs.map (Chg.rows gs)), 0) else ([], 120)
theorem st_pol {gs : List Grp} {cs : List Chg} (h : ¬ pgoodS gs = 0) : stS gs cs = ([], pgoodS gs) := by unfold stS; rw [if_pos h]
theorem st_ok {gs : List Grp} {cs : List Chg} (h : pgoodS gs = 0) (ha : ∀ c ∈ cs, c.err gs = 0) : stS gs cs = (madeK Op.bytesLess opC (cs.map (Chg.rows gs)), 0) := by
  unfold stS
  rw [if_neg (not_not_intro h), if_pos (List.all_eq_true.2 fun c hc => by simpa using ha c hc)]
theorem st_bad {gs : List Grp} {cs : List Chg} (h : pgoodS gs = 0) {c : Chg} (hc : c ∈ cs) (hb : ¬ c.err gs = 0) : stS gs cs = ([], 120) := by
  unfold stS
  rw [if_neg (not_not_intro h), if_neg]
  intro ha
  have := List.all_eq_true.1 ha c hc
  exact hb (by simpa using this)
theorem st_inv {gs : List Grp} {cs : List Chg} (h : (stS gs cs).2 = 0) : pgoodS gs = 0 ∧ ∀ c ∈ cs, c.err gs = 0 := by
  unfold stS at h
  split at h
  · rename_i hp; exact absurd h hp
  · rename_i hp
    refine ⟨by omega, fun c hc => ?_⟩
    split at h
    · rename_i ha
      simpa using List.all_eq_true.1 ha c hc
    · cases h
theorem st_st {gs : List Grp} {cs : List Chg} (h : (stS gs cs).2 = 0) : IsSt gs (stS gs cs).1 := by
  obtain ⟨hp, ha⟩ := st_inv h
  rw [st_ok hp ha]
  exact made_st hp _ _ (Nat.le_refl _) fun S hS => by
    obtain ⟨c, hc, rfl⟩ := List.mem_map.1 hS
    exact Chg.st (ha c hc)
/-- Both ways of making a state come to one. -/
theorem st_ref {gs : List Grp} {cs : List Chg} (hp : pgoodS gs = 0) (ha : ∀ c ∈ cs, c.err gs = 0) : stateK Op.bytesLess opC bareS (cs.map (Chg.rows gs)) = (stS gs cs).1 := by
  rw [st_ok hp ha]
  refine state_made (G := fun k u => rgoodS gs k u = 0) strictT (aciC gs) bareS (fun S hS => ?_) (fun S hS r hr => ?_) (fun S hS r hr => ?_)
  · obtain ⟨c, hc, rfl⟩ := List.mem_map.1 hS; exact (Chg.st (ha c hc)).asc
  · obtain ⟨c, hc, rfl⟩ := List.mem_map.1 hS; exact (Chg.st (ha c hc)).good r hr
  · obtain ⟨c, hc, rfl⟩ := List.mem_map.1 hS; exact (Chg.st (ha c hc)).bare r hr
end Go.Proofs.Yteffbibmfpdenaa
end

section
namespace Go.Proofs.Yteffbibmfpdenaa
open Go.RowKit Go Go.Sort
set_option linter.unusedVariables false
set_option maxRecDepth 20000

/-- A block of a call's own behind a pointer, with its cells. -/
def HeldB (B0 : Nat) (ty : TypeId) (w : World) (v : Value) (cs : Array Value) : Prop := ∃ g, v = .pointer (some ⟨g, 0, none⟩) ∧ B0 ≤ g ∧ w.heap[g]? = some (.cells cs ty (0, 0))
theorem HeldB.kept {B0 : Nat} {ty : TypeId} {w w' : World} {v : Value} {cs : Array Value} (h : HeldB B0 ty w v cs) (hb : Below w.heap.size w w') : HeldB B0 ty w' v cs := by
  obtain ⟨g, h1, h2, h3⟩ := h
  exact ⟨g, h1, h2, heap_below h3 hb⟩
theorem HeldB.other {B0 q : Nat} {ty t : TypeId} {w w' : World} {v : Value} {cs ds : Array Value} (h : HeldB B0 ty w v cs) (hw : Wrote q ds t w w') (hne : v ≠ .pointer (some ⟨q, 0, none⟩)) : HeldB B0 ty w' v cs := by
  obtain ⟨g, rfl, h2, h3⟩ := h
  exact ⟨g, rfl, h2, (hw.rest g (Array.getElem?_eq_some_iff.1 h3).1 (by rintro rfl; exact hne rfl)).trans h3⟩
theorem HeldB.ne {B0 : Nat} {ty : TypeId} {w : World} {v : Value} {cs : Array Value} (h : HeldB B0 ty w v cs) : v ≠ .pointer (some ⟨w.heap.size, 0, none⟩) := by
  obtain ⟨g, rfl, _, h3⟩ := h
  have := (Array.getElem?_eq_some_iff.1 h3).1
  intro e
  simp at e
  try omega
/-- Where the laying of n boxes stands: m operations (and those behind) that tell V, n that make boxes, n that fill them with R. -/
def LayN (m n : Nat) (ty : TypeId) (z : Array Value) (V : Nat → Value) (R : Nat → Array Value) (w0 : World) (L : Nat → Bool) (xs : Nat → Value) (w : World) : Prop :=
  Below w0.heap.size w0 w ∧ (∀ i, (i < m ∨ m + n + n ≤ i) → L i = true → xs i = V i) ∧
  (∀ j, j < n → L (m + j) = true → HeldB w0.heap.size ty w (xs (m + j)) (if L (m + n + j) = true then R j else z)) ∧
  (∀ j k, j < n → k < n → j ≠ k → L (m + j) = true → L (m + k) = true → xs (m + j) ≠ xs (m + k)) ∧
  (∀ j, j < n → L (m + n + j) = true → L (m + j) = true)
section
variable {m n : Nat} {ty : TypeId} {z : Array Value} {V : Nat → Value} {R : Nat → Array Value} {w0 w : World} {L : Nat → Bool} {xs : Nat → Value}
theorem LayN.start (N : Nat) (hN : m + n + n ≤ N) (h : ∀ i, i < N → L i = false) (hz : ∀ i, N ≤ i → xs i = V i) : LayN m n ty z V R w0 L xs { w0 with drawn := w0.drawn + 1 } := by
  have f : ∀ i, i < m + n + n → L i = true → False := fun i hi ht => by rw [h i (by omega)] at ht; cases ht
  refine ⟨⟨rfl, rfl, rfl, Nat.le_refl _, fun _ _ => rfl⟩, fun i hi ht => ?_, fun j hj ht => (f _ (by omega) ht).elim, fun j k hj hk _ ht _ => (f _ (by omega) ht).elim, fun j hj ht => (f _ (by omega) ht).elim⟩
  by_cases hiN : i < N
  · rw [h i hiN] at ht; cases ht
  · exact hz i (by omega)
theorem LayN.below (h : LayN m n ty z V R w0 L xs w) : Below w0.heap.size w0 w := h.1
theorem LayN.set (h : LayN m n ty z V R w0 L xs w) (i : Nat) (hi : i < m ∨ m + n + n ≤ i) {w' : World} (hb : Below w.heap.size w w') : LayN m n ty z V R w0 (fun j => if j = i then true else L j) (fun j => if j = i then V i else xs j) w' := by
  obtain ⟨h0, h1, h2, h3, h4⟩ := h
  refine ⟨h0.trans (hb.mono h0.size), fun j hj ht => ?_, fun j hj ht => ?_, fun j k hj hk => ?_, fun j hj => ?_⟩
  · by_cases e : j = i
    · subst e; simp
    · simp only [if_neg e] at ht ⊢
      exact h1 j hj ht
  · simp only [if_neg (show ¬ m + j = i by omega), if_neg (show ¬ m + n + j = i by omega)] at ht ⊢
    exact (h2 j hj ht).kept hb
  · simp only [if_neg (show ¬ m + j = i by omega), if_neg (show ¬ m + k = i by omega)]
    exact h3 j k hj hk
  · simp only [if_neg (show ¬ m + j = i by omega), if_neg (show ¬ m + n + j = i by omega)]
    exact h4 j hj
theorem LayN.alloc (h : LayN m n ty z V R w0 L xs w) (j : Nat) (hj : j < n) {k : Nat} (hk : k = m + j) (hn : L k = false) : LayN m n ty z V R w0 (fun i => if i = k then true else L i) (fun i => if i = k then .pointer (some ⟨w.heap.size, 0, none⟩) else xs i) (w.alloc (.cells z ty)) := by
  subst hk
  obtain ⟨h0, h1, h2, h3, h4⟩ := h
  have kb := alloc_below w (.cells z ty)
  have hf : L (m + n + j) = false := by
    cases hx : L (m + n + j) with
    | false => rfl
    | true => rw [h4 j hj hx] at hn; cases hn
  refine ⟨h0.trans (kb.mono h0.size), fun i hi ht => ?_, fun i hi ht => ?_, fun i k hi hk hne hti htk => ?_, fun i hi ht => ?_⟩
  · simp only [if_neg (show ¬ i = m + j by omega)] at ht ⊢
    exact h1 i hi ht
  · by_cases e : i = j
    · subst e
      simp only [if_neg (show ¬ m + n + i = m + i by omega), hf, if_pos]
      exact ⟨_, rfl, h0.size, heap_alloc_new w _⟩
    · simp only [if_neg (show ¬ m + i = m + j by omega), if_neg (show ¬ m + n + i = m + j by omega)] at ht ⊢
      exact (h2 i hi ht).kept kb
  · by_cases e1 : i = j
    · subst e1
      simp only [if_neg (show ¬ m + k = m + i by omega), if_pos] at htk ⊢
      exact ((h2 k hk htk).ne).symm
    · by_cases e2 : k = j
      · subst e2
        simp only [if_neg (show ¬ m + i = m + k by omega), if_pos] at hti ⊢
        exact (h2 i hi hti).ne
      · simp only [if_neg (show ¬ m + i = m + j by omega), if_neg (show ¬ m + k = m + j by omega)] at hti htk ⊢
        exact h3 i k hi hk hne hti htk
  · by_cases e : i = j
    · subst e; simp
    · simp only [if_neg (show ¬ m + i = m + j by omega), if_neg (show ¬ m + n + i = m + j by omega)] at ht ⊢
      exact h4 i hi ht
theorem LayN.store (h : LayN m n ty z V R w0 L xs w) (j : Nat) (hj : j < n) {k s : Nat} (hk : k = m + j) (hs : s = m + n + j) (hL : L k = true) {g : Nat} (hg : xs k = .pointer (some ⟨g, 0, none⟩)) (hB : w0.heap.size ≤ g) {w2 : World} (hw : Wrote g (R j) ty w w2) (hl : g ≤ w.heap.size) (v : Value) :
    LayN m n ty z V R w0 (fun i => if i = s then true else L i) (fun i => if i = s then v else xs i) w2 := by
  subst hk hs
  obtain ⟨h0, h1, h2, h3, h4⟩ := h
  refine ⟨h0.trans (hw.below hB hl), fun i hi ht => ?_, fun i hi ht => ?_, fun i k hi hk hne hti htk => ?_, fun i hi ht => ?_⟩
  · simp only [if_neg (show ¬ i = m + n + j by omega)] at ht ⊢
    exact h1 i hi ht
  · simp only [if_neg (show ¬ m + i = m + n + j by omega)] at ht ⊢
    by_cases e : i = j
    · subst e
      simp only [if_pos]
      exact ⟨g, hg, hB, hw.cell⟩
    · simp only [if_neg (show ¬ m + n + i = m + n + j by omega)]
      exact (h2 i hi ht).other hw (hg ▸ h3 i j hi hj e ht hL)
  · simp only [if_neg (show ¬ m + i = m + n + j by omega), if_neg (show ¬ m + k = m + n + j by omega)] at hti htk ⊢
    exact h3 i k hi hk hne hti htk
  · by_cases e : i = j
    · subst e
      simp only [if_neg (show ¬ m + i = m + n + i by omega)]
      exact hL
    · simp only [if_neg (show ¬ m + i = m + n + j by omega), if_neg (show ¬ m + n + i = m + n + j by omega)] at ht ⊢
      exact h4 i hi ht
end
/-- A row in a block, with its cells. -/
def RowBox (W : World) (g : Nat) (tk : ByteArray) (a : Option Addr) (m c : Nat) (cs : List Cl) : Prop := W.heap[g]? = some (.cells #[.string tk, .slice a m c] 30 (0, 0)) ∧ Cls W a m c cs
theorem RowBox.kept {W W' : World} {g : Nat} {tk : ByteArray} {a : Option Addr} {m c : Nat} {cs : List Cl} (h : RowBox W g tk a m c cs) (hb : Below W.heap.size W W') : RowBox W' g tk a m c cs := ⟨heap_below h.1 hb, h.2.below hb⟩
theorem RowBox.cls {W : World} {g : Nat} {tk : ByteArray} {a : Option Addr} {m c : Nat} {cs : List Cl} (h : RowBox W g tk a m c cs) : Cls W a m c cs := h.2
theorem RowBox.cs {W : World} {g : Nat} {tk : ByteArray} {a : Option Addr} {m c : Nat} {cs : List Cl} (h : RowBox W g tk a m c cs) : W.cell? ⟨g, 0, none⟩ = some (.string tk) ∧ W.cell? ⟨g, 1, none⟩ = some (.slice a m c) ∧ ∀ i, W.frozen? ⟨g, i, none⟩ = false := row_cells h.1
theorem Wrote.row {W : World} {g : Nat} {k0 : ByteArray} {v0 : Value} (h : W.heap[g]? = some (.cells #[.string k0, v0] 30 (0, 0))) (k : ByteArray) (v : Value) :
    Wrote g #[.string k, v] 30 W ((W.setCell ⟨g, 0, none⟩ (.string k)).setCell ⟨g, 1, none⟩ v) := by
  have h1 := Wrote.of_set (Below.refl _ W) h 0 (.string k)
  have h2 := Wrote.of_set (Below.refl _ _) h1.cell 1 v
  exact (h1.trans h2 : Wrote g _ _ _ _)
end Go.Proofs.Yteffbibmfpdenaa
end

section
namespace Go.Proofs.Yteffbibmfpdenaa
open Go.RowKit Go Go.Sort
set_option linter.unusedVariables false
set_option maxRecDepth 20000

theorem run_append_zero {P : Program} (w : World) (t tx ty e : TypeId) (i : TypeInfo) (ht : P.underlying t = some (.slice e)) (hi : P.info? e = some i) (x : Value) (hs : Src P i.size tx x 0 [] w) :
    (Builtin.append_ #[t, tx] ty #[.slice none 0 0, x]).run P w = .ok (.slice none 0 0) w := by
  rcases hs.kind with ⟨e', hk⟩ | hk <;> simp [Builtin.append_, run_underlying ht, run_underlying hk, sizeOf, typeInfo, hi, hs.len, hs.cells]
/-- append(nil, cs...), cells onto none. -/
theorem wpList_append_cells {w : World} {ops : Array Oper} {rest : List Oper} {o : Oper} {ac : Act} {Q : Exit → Act → World → Prop} (hgd : o.guard = none) (os ox : Operand)
    (ho : o.op = .call { callee := .builtin .append, args := #[os, ox], argTypes := #[28, 28] })
    {base : Nat} (hs : ac.eval os = .slice none 0 0) {x : Option Addr} {m cap : Nat} {cs : List Cl} (hx : ac.eval ox = .slice x m cap) (hl : Cls w x m cap cs) (hm : m ≤ 1000000) (hbase : base ≤ w.heap.size)
    (h : ∀ v' w', OwnC w' base v' cs → w.grownBy w' none → wpList Try.prog ops Q rest (ac.put o.dst v') w') :
    wpList Try.prog ops Q (o :: rest) ac w := by
  obtain ⟨i0, hi, hz0, hz1, hz2⟩ := info_parts Try.infoC
  have hll := hl.len
  rcases hl.src with ⟨hc, h0⟩ | ⟨a, rfl, hsrc⟩
  · have hcs : cs = [] := List.eq_nil_of_length_eq_zero (by omega)
    subst h0 hcs
    refine wpList_plain hgd fun K hK => ?_
    have hsr : Src Try.prog i0.size 28 (.slice x 0 cap) 0 [] w := by
      cases x with
      | none => exact Src.ofNil w Try.underlying28 cap
      | some a => exact Src.ofSlice w Try.underlying28 a 0 cap [] (by simp) (by simp) (by simp)
    have hr := run_append_zero (P := Try.prog) w 28 28 o.type 79 i0 Try.underlying28 hi (.slice x 0 cap) hsr
    unfold Oper.wp execOp
    simp only [ho, resolve, invoke, builtin, Sem.run_bind, Sem.run_pure, Result.andThen_ok, List.map_toArray, List.map_cons, List.map_nil, hs, hx, hr]
    exact hK _ _ (h _ _ (OwnC.nil _ _) (World.grownBy.refl _ _))
  · refine wpList_append_own_wide (P := Try.prog) w hgd os ox 28 ho base 79 i0 _ 8 72 Try.underlying28 hi hz0 hz1 hz2 rfl (by decide) (.slice none 0 0) 0 [] hs (World.ownsRow_nil _ _ _ _)
      a m cap (cCells cs) hx (by rw [cCells_length, hll]) hsrc (cCells_one cs) (by unfold maxLen; omega) (by omega) hbase ?_
    intro v' w' h2 h3 _
    refine h v' w' ?_ h3
    unfold OwnC
    rw [hll]
    simpa using h2

set_option maxRecDepth 100000 in
set_option maxHeartbeats 3200000 in
theorem rcopy_c {w : World} {x : Option Addr} {m cap : Nat} {cs : List Cl} (hl : Cls w x m cap cs) (hm : m ≤ 1000000) (key : ByteArray) :
    Calls Try.prog 48 #[.agg #[.string key, .slice x m cap]] w (fun e w' => ∃ v, e = .returned (.agg #[.string key, v]) ∧ OwnC w' w.heap.size v cs ∧ Below w.heap.size w w') := by
  have hb := (alloc_below w (.cells #[.string key, .slice x m cap] 30)).alloc (by simp) (.cells #[.string ⟨#[]⟩, .slice none 0 0] 30)
  have hr0 : ((w.alloc (.cells #[.string key, .slice x m cap] 30)).alloc (.cells #[.string ⟨#[]⟩, .slice none 0 0] 30)).heap[w.heap.size]? = some (.cells #[.string key, .slice x m cap] 30 (0, 0)) := (Below.heap_alloc _ _ _ (by simp)).trans (heap_alloc_new w _)
  have hr1 := heap_alloc_new (w.alloc (.cells #[.string key, .slice x m cap] 30)) (.cells #[.string ⟨#[]⟩, .slice none 0 0] 30)
  rw [World.size_alloc] at hr1
  have HL := Lib.hid hl
  clear hl
  go_enter Try.func48, Try.ntmps48
  go_upto_region 1 with (fail)
  obtain ⟨B, hB⟩ : ∃ q, w.heap.size = q := ⟨_, rfl⟩
  have HBe := Lib.hid hB
  rw [hB] at hr0 hr1 ⊢
  clear hB
  generalize (w.alloc (.cells #[.string key, .slice x m cap] 30)).alloc (.cells #[.string ⟨#[]⟩, .slice none 0 0] 30) = W1 at *
  obtain ⟨r0, r1, -⟩ := row_cells hr0
  have HR0 := Lib.hid hr0
  have HR1 := Lib.hid hr1
  have HB1 := Lib.hid hb
  clear hr0 hr1 hb
  go_upto_region 2 with (fail)
  have hal := alloc_below W1 (.cells #[.string key, .slice none 0 0] 30)
  have hn := heap_alloc_new W1 (.cells #[.string key, .slice none 0 0] 30)
  have HB2 := Lib.hid (HB1.out.trans (hal.mono HB1.out.size))
  have hr0 := heap_below HR0.out hal
  have hr1 := heap_below HR1.out hal
  have hql : B + 1 < W1.heap.size := (Array.getElem?_eq_some_iff.1 HR1.out).1
  obtain ⟨q, hq⟩ : ∃ q, W1.heap.size = q := ⟨_, rfl⟩
  rw [hq] at hn hql ⊢
  generalize W1.alloc (.cells #[.string key, .slice none 0 0] 30) = W2 at *
  clear hal hq HR0 HR1 HB1 r0 r1
  obtain ⟨r0, r1, -⟩ := row_cells hr0
  obtain ⟨n0, n1, nf⟩ := row_cells hn
  have HN := Lib.hid hn
  have HR1 := Lib.hid hr1
  have HQL := Lib.hid hql
  have HLW := Lib.hid (HL.out.below HB2.out)
  clear hn hr1 hql
  go_upto_region 3 with (at_builtin; refine wpList_append_cells rfl (.tmp 8) (.tmp 10) rfl rfl rfl HLW.out hm HB2.out.size ?_; intro v3 w3 ho3 hg3; have HN3 := Lib.hid (heap_grown HN.out hg3 (by simp)); obtain ⟨m0, m1, mf⟩ := row_cells HN3.out; have HO3 := Lib.hid ho3; have HB3 := Lib.hid (HB2.out.grown hg3 HB2.out.size (fun k e => by cases e)); have HR3 := Lib.hid (heap_grown HR1.out hg3 (by simp)); obtain ⟨a3, c3, rfl, -⟩ := ho3.cls; clear hg3 ho3)
  clear HN HR1 HLW HB2 HL r0 r1 n0 n1 nf m0 m1 mf
  have hqw := HQL.out
  have hn4 : (w3.setCell ⟨q, 1, none⟩ (.slice a3 cs.length c3)).heap[q]? = some (.cells #[.string key, .slice a3 cs.length c3] 30 (0, 0)) := (heap_setCell_same w3 q 1 _ _ _ HN3.out).trans rfl
  have hr4 : (w3.setCell ⟨q, 1, none⟩ (.slice a3 cs.length c3)).heap[B + 1]? = some (.cells #[.string ⟨#[]⟩, .slice none 0 0] 30 (0, 0)) := (Below.heap_setCell w3 ⟨q, 1, none⟩ _ (B + 1) (by simp; omega)).trans HR3.out
  have ho4 : OwnC (w3.setCell ⟨q, 1, none⟩ (.slice a3 cs.length c3)) w.heap.size (.slice a3 cs.length c3) cs := own_set HN3.out (by decide) HO3.out
  have HB4 := Lib.hid (HB3.out.setCell (p := ⟨q, 1, none⟩) (by have := HBe.out; simp; omega) (.slice a3 cs.length c3))
  generalize w3.setCell ⟨q, 1, none⟩ (.slice a3 cs.length c3) = W4 at *
  obtain ⟨n0, n1, -⟩ := row_cells hn4
  obtain ⟨z0, z1, zf⟩ := row_cells hr4
  have HS := Lib.hid (row_set hr4 key (.slice a3 cs.length c3))
  have HR4 := Lib.hid hr4
  have HO4 := Lib.hid ho4
  clear hn4 hr4 ho4 HN3 HR3 HO3 HB3 hqw HQL
  go_wp2
  refine bodyPost_ret (results_cell_row rfl _ _ (B + 1) 30 _ (0, 0) _ rfl HS.out Try.underlying30 rfl (by kernel_rfl)) rfl ⟨_, rfl, ?_, (HB4.out.setCell (p := ⟨B + 1, 0, none⟩) (by have := HBe.out; simp; omega) _).setCell (p := ⟨B + 1, 1, none⟩) (by have := HBe.out; simp; omega) _⟩
  exact own_set (i := 1) (show (W4.setCell ⟨B + 1, 0, none⟩ (.string key)).heap[B + 1]? = _ from (heap_setCell_same _ _ 0 _ _ _ HR4.out).trans rfl) (by decide) (own_set (i := 0) HR4.out (by decide) HO4.out)
end Go.Proofs.Yteffbibmfpdenaa
end

section
namespace Go.Proofs.Yteffbibmfpdenaa
open Go.RowKit Go Go.Sort
set_option linter.unusedVariables false
set_option maxRecDepth 20000

/-- append of one row, its key's bytes under a name. -/
theorem wpList_append_rwt {w : World} {ops : Array Oper} {rest : List Oper} {o : Oper} {ac : Act} {Q : Exit → Act → World → Prop} (hgd : o.guard = none) (os ox : Operand)
    (ho : o.op = .call { callee := .builtin .append, args := #[os, ox], argTypes := #[27, 27] })
    {base : Nat} {u : Value} {l : List Rw} (hs : ac.eval os = u) (hown : OwnL 2 30 Rw.arr w base u l) (t : ByteArray) {k : List UInt8} (ht : text k = t) (a9 : Option Addr) (n9 c9 : Nat) (cs : List Cl) {e9 : TypeId}
    (hx : ac.eval ox = .slice (some ⟨w.heap.size, 0, none⟩) 1 1) (h63 : l.length ≤ 1000000000) (hbase : base ≤ w.heap.size)
    (h : ∀ v' w', OwnL 2 30 Rw.arr w' base v' (l ++ [⟨k, .slice a9 n9 c9, cs⟩]) → (w.alloc (.cells #[.string t, .slice a9 n9 c9] e9)).grownBy w' u.ownBlock → wpList Try.prog ops Q rest (ac.put o.dst v') w') :
    wpList Try.prog ops Q (o :: rest) ac (w.alloc (.cells #[.string t, .slice a9 n9 c9] e9)) := by
  subst ht
  exact wpList_append_rw hgd os ox ho hs hown k a9 n9 c9 cs hx h63 hbase h
/-- What Set tells. -/
def SetPost (R : List Rp) (B0 : Nat) (w : World) (e : Ending) (w' : World) : Prop := ∃ v NN, e = .returned v ∧ NN.map Rw.pr = R ∧ OwnS w' B0 w.heap.size v NN ∧ Below w.heap.size w w'

set_option maxRecDepth 100000 in
set_option maxHeartbeats 12800000 in
theorem rset_c {w : World} {x x2 : Option Addr} {m cap n2 c2 B0 : Nat} {L : List Rw} {cs : List Cl} (hl : RwsIn w B0 x m cap L) (hB0 : B0 ≤ w.heap.size) (hm : m ≤ 1000000) (hc : Cls w x2 n2 c2 cs) (hn2 : n2 ≤ 1000000) (kr : List UInt8) :
    Calls Try.prog 18 #[.slice x m cap, .agg #[.string (text kr), .slice x2 n2 c2]] w (SetPost (setR Op.bytesLess Prod.fst ([], []) (kr, cs) (L.map Rw.pr)) B0 w) := by
  have hll := hl.1.len
  have hle := hl.1.le
  have hmax := hl.1.max
  obtain ⟨tr, htr⟩ : ∃ z, text kr = z := ⟨_, rfl⟩
  rw [htr]
  have HTR := Lib.hid htr
  have hb := alloc_below w (.cells #[.string tr, .slice x2 n2 c2] 30)
  have hr := heap_alloc_new w (.cells #[.string tr, .slice x2 n2 c2] 30)
  have hsz : (w.alloc (.cells #[.string tr, .slice x2 n2 c2] 30)).heap.size = w.heap.size + 1 := by simp
  have HCP := Lib.hid (fun W (h : Below w.heap.size w W) => rcopy_c (hc.below h) hn2 tr)
  have HL := Lib.hid hl
  obtain ⟨O, hO⟩ : ∃ z, L.map Rw.pr = z := ⟨_, rfl⟩
  have hOl : O.length = m := by rw [← hO, List.length_map, hll]
  have HOD := Lib.hid (show ∀ q, q < m → O.getD q ([], []) = (L.getD q Rw.zero).pr from fun q hq => by rw [← hO]; exact prs_at (by omega))
  have HOL := Lib.hid hOl
  rw [hO]
  clear hO hOl htr hl hll hc
  go_enter Try.func18, Try.ntmps18
  go_upto_region 1 with (fail)
  obtain ⟨B, hB⟩ : ∃ q, w.heap.size = q := ⟨_, rfl⟩
  have HBe := Lib.hid hB
  rw [hB] at hr hsz ⊢
  clear hB
  generalize w.alloc (.cells #[.string tr, .slice x2 n2 c2] 30) = W1 at *
  have HSZ := Lib.hid hsz
  have HB1 := Lib.hid hb
  have HRW := Lib.hid (fun W (h : Below W1.heap.size W1 W) => row_cells (heap_below hr h))
  clear hb hr hsz
  go_wp2
  go_loopw [5, 6, 7] (fun nx dn j wr => ∃ (q : Nat) (v : Value) (NN : List Rw) (DN : Bool), q ≤ m ∧ j = .int .i64 (q : Int) ∧ nx = v ∧ dn = .bool DN ∧ sN Op.bytesLess Prod.fst ([], []) (kr, cs) O q = (NN.map Rw.pr, DN) ∧ OwnS wr B0 (B + 1) v NN ∧ Below W1.heap.size W1 wr) (fun _ _ j _ => m - (intOf j).toNat)
  case atStart => exact ⟨0, .slice none 0 0, [], false, by omega, rfl, rfl, rfl, rfl, OwnS.nil _ (by have := HBe.out; omega), Below.refl _ _⟩
  case round =>
    obtain ⟨q, v, NN, DN, hq, rfl, rfl, rfl, hcn, hn, hbx⟩ := hrel
    have hnf := sN_few (lt := Op.bytesLess) Prod.fst ([], []) (kr, cs) O q
    rw [hcn] at hnf
    have hnf2 : NN.length ≤ q + 1 := by
      simp only [List.length_map] at hnf
      cases DN <;> simp at hnf <;> omega
    clear hnf
    obtain ⟨an, cn, ev, -⟩ := hn.ins
    obtain ⟨nl, hnl⟩ : ∃ z, NN.length = z := ⟨_, rfl⟩
    rw [hnl] at ev hnf2
    subst ev
    have HNE := Lib.hid hnl
    have HNL := Lib.hid (show nl ≤ q + 1 from hnf2)
    have HNx := Lib.hid hn
    have HBx := Lib.hid hbx
    have HCQ := Lib.hid hcn
    clear hnl hnf2 hn hbx hcn
    by_cases hlq : q < m
    · have hqi : (q : Int) < (m : Int) := by omega
      have hqc : (q : Int) < (cap : Int) := by omega
      obtain ⟨bo, offo, ao, no, co, rfl, eu, eno, hco, hro, hat⟩ := HL.out.place hlq
      have hod := HOD.out q hlq
      obtain ⟨y, hy⟩ : ∃ y, L.getD q Rw.zero = y := ⟨_, rfl⟩
      rw [hy] at hat hod eu eno hro hco
      obtain ⟨ko, uo, cso⟩ := y
      simp only at hat eu eno hco
      subst eu
      obtain ⟨to, hto⟩ : ∃ z, text ko = z := ⟨_, rfl⟩
      rw [hto] at hat
      have HTO := Lib.hid hto
      have HOW := Lib.hid (fun W (h : Below W1.heap.size W1 W) => hat W (HB1.out.trans (h.mono HB1.out.size)))
      have hro1 := hro
      have HRO0 := Lib.hid hro
      have hcs : sN Op.bytesLess Prod.fst ([], []) (kr, cs) O (q + 1) = sstep Op.bytesLess Prod.fst (kr, cs) (NN.map Rw.pr, DN) (ko, cso) := by
        show sstep _ _ _ (sN Op.bytesLess Prod.fst ([], []) (kr, cs) O q) (O.getD q ([], [])) = _
        rw [HCQ.out, hod]; rfl
      unfold sstep at hcs
      simp only at hcs
      have hte := text_eqb ko kr
      have htl := text_lss ko kr
      rw [hto, HTR.out] at hte htl
      obtain ⟨BL, hBL⟩ : ∃ z, Op.bytesLess ko kr = z := ⟨_, rfl⟩
      obtain ⟨EQ, hEQ⟩ : ∃ z, (ko == kr) = z := ⟨_, rfl⟩
      have hdec : decide (ko = kr) = EQ := by
        rw [← hEQ]
        by_cases e : ko = kr
        · subst e; simp
        · simp [e]
      rw [hBL, hdec] at hcs
      rw [hBL] at htl
      rw [hEQ] at hte
      have HCN := Lib.hid hcs
      have HRO := Lib.hid (fun W (h : Below W1.heap.size W1 W) => hro1.kept (HB1.out.trans (h.mono HB1.out.size)))
      clear hat hy hBL hEQ hdec hcs HCQ hto hro hro1 HRO0 hod hco eno
      go_upto_region 6 with (fail)
      cases DN with
      | true =>
        refine wp_region_flow [none,none,none,none,none,none,none,none,none,none,none,none,none,none, some 0, some 1, some 2, some 3, some 4, some 5, some 6, some 7, some 8, some 9, some 10, some 11, none,none,none,none,none,none,none,none,none,none,none,none,none,none,none,none,none,none,none,none,none,none,none,none,none,none,none,none] (fun i => [u14, u15, u16, u17, u18, u19, u20, u21, u22, u23, u24, u25].getD i undef) [(fun v _ => v = .bool true), (fun v _ => v = .bool false), (fun v _ => v = .bool false), (fun v _ => v = undef), (fun v _ => v = undef), (fun v _ => v = undef), (fun v _ => v = undef), (fun v _ => v = undef), (fun v _ => v = undef), (fun v _ => v = undef), (fun v _ => v = undef), (fun v _ => v = .bool false)] (by kernel_rfl) (by kernel_rfl) rfl rfl rfl ?_ ?_ ?_
        · intro g hg v X Y hX hY hv
          simp only [List.mem_cons, List.not_mem_nil, or_false] at hg
          rcases hg with rfl | rfl | rfl | rfl | rfl | rfl | rfl | rfl | rfl | rfl | rfl | rfl
          all_goals first
            | exact hv
            | exact hv.kept hY
        · simp only [flowOps, and_true]
          refine ⟨?_,?_,?_,?_,?_,?_,?_,?_,?_,?_,?_,?_⟩
          · intro xs W hW hn
            simp only [flowAct, zwc, zwn]
            go_wp2_with (fail)
            exact ⟨rfl, _, rfl, Below.refl _ _, rfl⟩
          · intro xs W hW hn
            simp [flowNeeds, Region.binds] at hn
            simp only [flowAct, zwc, zwn]
            try simp only [hn]
            go_wp2_with (fail)
            exact ⟨rfl, _, rfl, Below.refl _ _, rfl⟩
          · intro xs W hW hn
            simp [flowNeeds, Region.binds] at hn
            simp only [flowAct, zwc, zwn]
            try simp only [hn]
            go_wp2_with (fail)
            exact ⟨rfl, _, rfl, Below.refl _ _, rfl⟩
          · intro xs W hW hn
            simp [flowNeeds, Region.binds] at hn
            simp only [flowAct, zwc, zwn]
            try simp only [hn]
            go_wp2_with (fail)
            exact ⟨rfl, _, rfl, Below.refl _ _, rfl⟩
          · intro xs W hW hn
            simp [flowNeeds, Region.binds] at hn
            simp only [flowAct, zwc, zwn]
            try simp only [hn]
            go_wp2_with (fail)
            exact ⟨rfl, _, rfl, Below.refl _ _, rfl⟩
          · intro xs W hW hn
            simp [flowNeeds, Region.binds] at hn
            simp only [flowAct, zwc, zwn]
            try simp only [hn]
            go_wp2_with (fail)
            exact ⟨rfl, _, rfl, Below.refl _ _, rfl⟩
          · intro xs W hW hn
            simp [flowNeeds, Region.binds] at hn
            simp only [flowAct, zwc, zwn]
            try simp only [hn]
            go_wp2_with (fail)
            exact ⟨rfl, _, rfl, Below.refl _ _, rfl⟩
          · intro xs W hW hn
            simp [flowNeeds, Region.binds] at hn
            simp only [flowAct, zwc, zwn]
            try simp only [hn]
            go_wp2_with (fail)
            exact ⟨rfl, _, rfl, Below.refl _ _, rfl⟩
          · intro xs W hW hn
            simp [flowNeeds, Region.binds] at hn
            simp only [flowAct, zwc, zwn]
            try simp only [hn]
            go_wp2_with (fail)
            exact ⟨rfl, _, rfl, Below.refl _ _, rfl⟩
          · intro xs W hW hn
            simp [flowNeeds, Region.binds] at hn
            simp only [flowAct, zwc, zwn]
            try simp only [hn]
            go_wp2_with (fail)
            exact ⟨rfl, _, rfl, Below.refl _ _, rfl⟩
          · intro xs W hW hn
            simp [flowNeeds, Region.binds] at hn
            simp only [flowAct, zwc, zwn]
            try simp only [hn]
            go_wp2_with (fail)
            exact ⟨rfl, _, rfl, Below.refl _ _, rfl⟩
          · intro xs W hW hn
            simp [flowNeeds, Region.binds] at hn
            simp only [flowAct, zwc, zwn]
            try simp only [hn]
            go_wp2_with (fail)
            exact ⟨rfl, _, rfl, Below.refl _ _, rfl⟩
        · intro xs W hW hall
          simp only [flowAll, and_true, Nat.zero_add, Nat.reduceAdd] at hall
          obtain ⟨-,-,-,-,-,-,-,-,-,-,-, eL⟩ := hall
          simp only [flowAct, zwc, zwn]
          simp only [eL]
          have hbk := HBx.out.trans (hW.mono HBx.out.size)
          have hnk := HNx.out.kept hW
          clear eL
          obtain ⟨WK, hWK⟩ : ∃ X, W = X := ⟨_, rfl⟩
          rw [hWK] at hbk hnk ⊢
          clear hWK hW HBx HNx
          have HBx := Lib.hid hbk
          have HNx := Lib.hid hnk
          clear hbk hnk
          go_upto_region 9 with (fail)
          refine wp_region_flow [none,none,none,none,none,none,none,none,none,none,none,none,none,none,none,none,none,none,none,none,none,none,none,none,none,none,none,none,none,none,none, some 0, some 1, some 2, some 3, some 4, some 5, some 6, some 7, none,none,none,none,none,none,none,none,none,none,none,none,none,none,none] (fun i => [u31, u32, u33, u34, u35, u36, u37, u38].getD i undef) [(fun v _ => v = .slice (some ⟨bo, offo, none⟩) m cap), (fun v _ => v = .int .i64 (q : Int)), (fun v _ => v = .pointer (some ⟨bo, offo + q * 2, none⟩)), (fun v _ => v = .pointer (some ⟨bo, offo + q * 2, none⟩)), (fun v _ => v = .string to), (fun v _ => v = .pointer (some ⟨B, 0, none⟩)), (fun v _ => v = .string tr), (fun v _ => v = .bool (!EQ))] (by kernel_rfl) (by kernel_rfl) rfl rfl rfl ?_ ?_ ?_
          · intro g hg v X Y hX hY hv
            simp only [List.mem_cons, List.not_mem_nil, or_false] at hg
            rcases hg with rfl | rfl | rfl | rfl | rfl | rfl | rfl | rfl
            all_goals first
              | exact hv
              | exact hv.kept hY
          · simp only [flowOps, and_true]
            refine ⟨?_,?_,?_,?_,?_,?_,?_,?_⟩
            · intro xs W hW hn
              simp only [flowAct, zwc, zwn]
              go_wp2_with (fail)
              exact ⟨rfl, _, rfl, Below.refl _ _, rfl⟩
            · intro xs W hW hn
              simp only [flowAct, zwc, zwn]
              go_wp2_with (fail)
              exact ⟨rfl, _, rfl, Below.refl _ _, rfl⟩
            · intro xs W hW hn
              simp [flowNeeds, Region.binds] at hn
              simp only [flowAct, zwc, zwn]
              try simp only [hn]
              go_wp2_with (fail)
              exact ⟨rfl, _, rfl, Below.refl _ _, rfl⟩
            · intro xs W hW hn
              simp [flowNeeds, Region.binds] at hn
              simp only [flowAct, zwc, zwn]
              try simp only [hn]
              go_wp2_with (fail)
              exact ⟨rfl, _, rfl, Below.refl _ _, rfl⟩
            · intro xs W hW hn
              obtain ⟨o0, o1⟩ := HOW.out W (HBx.out.trans (hW.mono HBx.out.size))
              simp [flowNeeds, Region.binds] at hn
              simp only [flowAct, zwc, zwn]
              try simp only [hn]
              go_wp2_with (fail)
              exact ⟨rfl, _, rfl, Below.refl _ _, rfl⟩
            · intro xs W hW hn
              simp only [flowAct, zwc, zwn]
              go_wp2_with (fail)
              exact ⟨rfl, _, rfl, Below.refl _ _, rfl⟩
            · intro xs W hW hn
              obtain ⟨r0, r1, -⟩ := HRW.out W (HBx.out.trans (hW.mono HBx.out.size))
              simp [flowNeeds, Region.binds] at hn
              simp only [flowAct, zwc, zwn]
              try simp only [hn]
              go_wp2_with (fail)
              exact ⟨rfl, _, rfl, Below.refl _ _, rfl⟩
            · intro xs W hW hn
              simp [flowNeeds, Region.binds] at hn
              simp only [flowAct, zwc, zwn]
              try simp only [hn]
              go_wp2_with (fail)
              exact ⟨rfl, _, rfl, Below.refl _ _, rfl⟩
          · intro xs W hW hall
            simp only [flowAll, and_true, Nat.zero_add, Nat.reduceAdd] at hall
            obtain ⟨-,-,-,-,-,-,-, eL⟩ := hall
            simp only [flowAct, zwc, zwn]
            simp only [eL]
            have hbk := HBx.out.trans (hW.mono HBx.out.size)
            have hnk := HNx.out.kept hW
            clear eL
            obtain ⟨WK, hWK⟩ : ∃ X, W = X := ⟨_, rfl⟩
            rw [hWK] at hbk hnk ⊢
            clear hWK hW HBx HNx
            have HBx := Lib.hid hbk
            have HNx := Lib.hid hnk
            clear hbk hnk
            cases EQ with
            | true =>
              have HST := Lib.hid (show sN Op.bytesLess Prod.fst ([], []) (kr, cs) O (q + 1) = (NN.map Rw.pr, true) by rw [HCN.out]; rfl)
              go_wp2
              go_roundw
              case rel => exact ⟨q + 1, _, _, _, by omega, by go_num, rfl, rfl, HST.out, HNx.out, HBx.out⟩
              case measure => simp [intOf]; omega
            | false =>
              have HST := Lib.hid (show sN Op.bytesLess Prod.fst ([], []) (kr, cs) O (q + 1) = (NN.map Rw.pr ++ [(ko, cso)], true) by rw [HCN.out]; rfl)
              have hbs := HBx.out.size
              have hl9 : NN.length ≤ 1000000000 := by have := HNL.out; have := HNE.out; omega
              have HL9 := Lib.hid hl9
              have HBS := Lib.hid (show B + 1 ≤ WK.heap.size by have := HSZ.out; omega)
              clear hl9
              obtain ⟨o0, o1⟩ := HOW.out WK HBx.out
              go_wp2_with (at_builtin; refine wpList_append_rwt rfl _ _ rfl (u := .slice an nl cn) rfl HNx.out.row to HTO.out ao no co cso rfl HL9.out HBS.out ?_; intro v' w' ho' hg'; obtain ⟨a8, c8, e8, -⟩ := OwnL.ls (z := Rw.zero) rw_size ho'; rw [List.length_append, List.length_singleton, HNE.out] at e8; subst e8)
              have hbk := ((HBx.out.alloc HBx.out.size (.cells #[.string to, .slice ao no co] 30)).grown hg' (by have := HBx.out.size; simp; omega) (fun z e => by have := (HNx.out.lt z e).1; have := HSZ.out; omega))
              have hnk := HNx.out.push (r := ⟨ko, .slice ao no co, cso⟩) (HRO.out _ HBx.out) _ ho' hg'
              clear HOW
              refine ⟨⟨q + 1, _, _, _, by omega, by go_num, rfl, rfl, by rw [HST.out, List.map_append]; rfl, hnk, hbk⟩, ?_⟩
              simp [intOf]; omega
      | false =>
        refine wp_region_flow [none,none,none,none,none,none,none,none,none,none,none,none,none,none, some 0, some 1, some 2, some 3, some 4, some 5, some 6, some 7, some 8, some 9, some 10, some 11, none,none,none,none,none,none,none,none,none,none,none,none,none,none,none,none,none,none,none,none,none,none,none,none,none,none,none,none] (fun i => [u14, u15, u16, u17, u18, u19, u20, u21, u22, u23, u24, u25].getD i undef) [(fun v _ => v = .bool false), (fun v _ => v = .bool true), (fun v _ => v = .bool true), (fun v _ => v = .slice (some ⟨bo, offo, none⟩) m cap), (fun v _ => v = .int .i64 (q : Int)), (fun v _ => v = .pointer (some ⟨bo, offo + q * 2, none⟩)), (fun v _ => v = .pointer (some ⟨bo, offo + q * 2, none⟩)), (fun v _ => v = .string to), (fun v _ => v = .pointer (some ⟨B, 0, none⟩)), (fun v _ => v = .string tr), (fun v _ => v = .bool (!BL)), (fun v _ => v = .bool (!BL))] (by kernel_rfl) (by kernel_rfl) rfl rfl rfl ?_ ?_ ?_
        · intro g hg v X Y hX hY hv
          simp only [List.mem_cons, List.not_mem_nil, or_false] at hg
          rcases hg with rfl | rfl | rfl | rfl | rfl | rfl | rfl | rfl | rfl | rfl | rfl | rfl
          all_goals first
            | exact hv
            | exact hv.kept hY
        · simp only [flowOps, and_true]
          refine ⟨?_,?_,?_,?_,?_,?_,?_,?_,?_,?_,?_,?_⟩
          · intro xs W hW hn
            simp only [flowAct, zwc, zwn]
            go_wp2_with (fail)
            exact ⟨rfl, _, rfl, Below.refl _ _, rfl⟩
          · intro xs W hW hn
            simp [flowNeeds, Region.binds] at hn
            simp only [flowAct, zwc, zwn]
            try simp only [hn]
            go_wp2_with (fail)
            exact ⟨rfl, _, rfl, Below.refl _ _, rfl⟩
          · intro xs W hW hn
            simp [flowNeeds, Region.binds] at hn
            simp only [flowAct, zwc, zwn]
            try simp only [hn]
            go_wp2_with (fail)
            exact ⟨rfl, _, rfl, Below.refl _ _, rfl⟩
          · intro xs W hW hn
            simp [flowNeeds, Region.binds] at hn
            simp only [flowAct, zwc, zwn]
            try simp only [hn]
            go_wp2_with (fail)
            exact ⟨rfl, _, rfl, Below.refl _ _, rfl⟩
          · intro xs W hW hn
            simp [flowNeeds, Region.binds] at hn
            simp only [flowAct, zwc, zwn]
            try simp only [hn]
            go_wp2_with (fail)
            exact ⟨rfl, _, rfl, Below.refl _ _, rfl⟩
          · intro xs W hW hn
            simp [flowNeeds, Region.binds] at hn
            simp only [flowAct, zwc, zwn]
            try simp only [hn]
            go_wp2_with (fail)
            exact ⟨rfl, _, rfl, Below.refl _ _, rfl⟩
          · intro xs W hW hn
            simp [flowNeeds, Region.binds] at hn
            simp only [flowAct, zwc, zwn]
            try simp only [hn]
            go_wp2_with (fail)
            exact ⟨rfl, _, rfl, Below.refl _ _, rfl⟩
          · intro xs W hW hn
            obtain ⟨o0, o1⟩ := HOW.out W (HBx.out.trans (hW.mono HBx.out.size))
            simp [flowNeeds, Region.binds] at hn
            simp only [flowAct, zwc, zwn]
            try simp only [hn]
            go_wp2_with (fail)
            exact ⟨rfl, _, rfl, Below.refl _ _, rfl⟩
          · intro xs W hW hn
            simp [flowNeeds, Region.binds] at hn
            simp only [flowAct, zwc, zwn]
            try simp only [hn]
            go_wp2_with (fail)
            exact ⟨rfl, _, rfl, Below.refl _ _, rfl⟩
          · intro xs W hW hn
            obtain ⟨r0, r1, -⟩ := HRW.out W (HBx.out.trans (hW.mono HBx.out.size))
            simp [flowNeeds, Region.binds] at hn
            simp only [flowAct, zwc, zwn]
            try simp only [hn]
            go_wp2_with (fail)
            exact ⟨rfl, _, rfl, Below.refl _ _, rfl⟩
          · intro xs W hW hn
            simp [flowNeeds, Region.binds] at hn
            simp only [flowAct, zwc, zwn]
            try simp only [hn]
            go_wp2_with (fail)
            exact ⟨rfl, _, rfl, Below.refl _ _, rfl⟩
          · intro xs W hW hn
            simp [flowNeeds, Region.binds] at hn
            simp only [flowAct, zwc, zwn]
            try simp only [hn]
            go_wp2_with (fail)
            exact ⟨rfl, _, rfl, Below.refl _ _, rfl⟩
        · intro xs W hW hall
          simp only [flowAll, and_true, Nat.zero_add, Nat.reduceAdd] at hall
          obtain ⟨-,-,-,-,-,-,-,-,-,-,-, eL⟩ := hall
          simp only [flowAct, zwc, zwn]
          simp only [eL]
          have hbk := HBx.out.trans (hW.mono HBx.out.size)
          have hnk := HNx.out.kept hW
          clear eL
          obtain ⟨WK, hWK⟩ : ∃ X, W = X := ⟨_, rfl⟩
          rw [hWK] at hbk hnk ⊢
          clear hWK hW HBx HNx
          have HBx := Lib.hid hbk
          have HNx := Lib.hid hnk
          clear hbk hnk
          cases BL with
          | true =>
            have hcn := HCN.out
            simp only [Bool.not_false, Bool.not_true, Bool.and_false, Bool.false_eq_true, if_false] at hcn
            clear HCN
            have HCN := Lib.hid hcn
            clear hcn
            go_upto_region 9 with (fail)
            refine wp_region_flow [none,none,none,none,none,none,none,none,none,none,none,none,none,none,none,none,none,none,none,none,none,none,none,none,none,none,none,none,none,none,none, some 0, some 1, some 2, some 3, some 4, some 5, some 6, some 7, none,none,none,none,none,none,none,none,none,none,none,none,none,none,none] (fun i => [u31, u32, u33, u34, u35, u36, u37, u38].getD i undef) [(fun v _ => v = .slice (some ⟨bo, offo, none⟩) m cap), (fun v _ => v = .int .i64 (q : Int)), (fun v _ => v = .pointer (some ⟨bo, offo + q * 2, none⟩)), (fun v _ => v = .pointer (some ⟨bo, offo + q * 2, none⟩)), (fun v _ => v = .string to), (fun v _ => v = .pointer (some ⟨B, 0, none⟩)), (fun v _ => v = .string tr), (fun v _ => v = .bool (!EQ))] (by kernel_rfl) (by kernel_rfl) rfl rfl rfl ?_ ?_ ?_
            · intro g hg v X Y hX hY hv
              simp only [List.mem_cons, List.not_mem_nil, or_false] at hg
              rcases hg with rfl | rfl | rfl | rfl | rfl | rfl | rfl | rfl
              all_goals first
                | exact hv
                | exact hv.kept hY
            · simp only [flowOps, and_true]
              refine ⟨?_,?_,?_,?_,?_,?_,?_,?_⟩
              · intro xs W hW hn
                simp only [flowAct, zwc, zwn]
                go_wp2_with (fail)
                exact ⟨rfl, _, rfl, Below.refl _ _, rfl⟩
              · intro xs W hW hn
                simp only [flowAct, zwc, zwn]
                go_wp2_with (fail)
                exact ⟨rfl, _, rfl, Below.refl _ _, rfl⟩
              · intro xs W hW hn
                simp [flowNeeds, Region.binds] at hn
                simp only [flowAct, zwc, zwn]
                try simp only [hn]
                go_wp2_with (fail)
                exact ⟨rfl, _, rfl, Below.refl _ _, rfl⟩
              · intro xs W hW hn
                simp [flowNeeds, Region.binds] at hn
                simp only [flowAct, zwc, zwn]
                try simp only [hn]
                go_wp2_with (fail)
                exact ⟨rfl, _, rfl, Below.refl _ _, rfl⟩
              · intro xs W hW hn
                obtain ⟨o0, o1⟩ := HOW.out W (HBx.out.trans (hW.mono HBx.out.size))
                simp [flowNeeds, Region.binds] at hn
                simp only [flowAct, zwc, zwn]
                try simp only [hn]
                go_wp2_with (fail)
                exact ⟨rfl, _, rfl, Below.refl _ _, rfl⟩
              · intro xs W hW hn
                simp only [flowAct, zwc, zwn]
                go_wp2_with (fail)
                exact ⟨rfl, _, rfl, Below.refl _ _, rfl⟩
              · intro xs W hW hn
                obtain ⟨r0, r1, -⟩ := HRW.out W (HBx.out.trans (hW.mono HBx.out.size))
                simp [flowNeeds, Region.binds] at hn
                simp only [flowAct, zwc, zwn]
                try simp only [hn]
                go_wp2_with (fail)
                exact ⟨rfl, _, rfl, Below.refl _ _, rfl⟩
              · intro xs W hW hn
                simp [flowNeeds, Region.binds] at hn
                simp only [flowAct, zwc, zwn]
                try simp only [hn]
                go_wp2_with (fail)
                exact ⟨rfl, _, rfl, Below.refl _ _, rfl⟩
            · intro xs W hW hall
              simp only [flowAll, and_true, Nat.zero_add, Nat.reduceAdd] at hall
              obtain ⟨-,-,-,-,-,-,-, eL⟩ := hall
              simp only [flowAct, zwc, zwn]
              simp only [eL]
              have hbk := HBx.out.trans (hW.mono HBx.out.size)
              have hnk := HNx.out.kept hW
              clear eL
              obtain ⟨WK, hWK⟩ : ∃ X, W = X := ⟨_, rfl⟩
              rw [hWK] at hbk hnk ⊢
              clear hWK hW HBx HNx
              have HBx := Lib.hid hbk
              have HNx := Lib.hid hnk
              clear hbk hnk
              cases EQ with
              | true =>
                have HST := Lib.hid (show sN Op.bytesLess Prod.fst ([], []) (kr, cs) O (q + 1) = (NN.map Rw.pr, false) by rw [HCN.out]; rfl)
                go_wp2
                go_roundw
                case rel => exact ⟨q + 1, _, _, _, by omega, by go_num, rfl, rfl, HST.out, HNx.out, HBx.out⟩
                case measure => simp [intOf]; omega
              | false =>
                have HST := Lib.hid (show sN Op.bytesLess Prod.fst ([], []) (kr, cs) O (q + 1) = (NN.map Rw.pr ++ [(ko, cso)], false) by rw [HCN.out]; rfl)
                have hbs := HBx.out.size
                have hl9 : NN.length ≤ 1000000000 := by have := HNL.out; have := HNE.out; omega
                have HL9 := Lib.hid hl9
                have HBS := Lib.hid (show B + 1 ≤ WK.heap.size by have := HSZ.out; omega)
                clear hl9
                obtain ⟨o0, o1⟩ := HOW.out WK HBx.out
                go_wp2_with (at_builtin; refine wpList_append_rwt rfl _ _ rfl (u := .slice an nl cn) rfl HNx.out.row to HTO.out ao no co cso rfl HL9.out HBS.out ?_; intro v' w' ho' hg'; obtain ⟨a8, c8, e8, -⟩ := OwnL.ls (z := Rw.zero) rw_size ho'; rw [List.length_append, List.length_singleton, HNE.out] at e8; subst e8)
                have hbk := ((HBx.out.alloc HBx.out.size (.cells #[.string to, .slice ao no co] 30)).grown hg' (by have := HBx.out.size; simp; omega) (fun z e => by have := (HNx.out.lt z e).1; have := HSZ.out; omega))
                have hnk := HNx.out.push (r := ⟨ko, .slice ao no co, cso⟩) (HRO.out _ HBx.out) _ ho' hg'
                clear HOW
                refine ⟨⟨q + 1, _, _, _, by omega, by go_num, rfl, rfl, by rw [HST.out, List.map_append]; rfl, hnk, hbk⟩, ?_⟩
                simp [intOf]; omega
          | false =>
            have hcn := HCN.out
            simp only [Bool.not_false, Bool.and_self, if_true] at hcn
            clear HCN
            have HCN := Lib.hid hcn
            clear hcn
            have hbs := HBx.out.size
            have hl9 : NN.length ≤ 1000000000 := by have := HNL.out; have := HNE.out; omega
            have HL9 := Lib.hid hl9
            have HBS := Lib.hid (show B + 1 ≤ WK.heap.size by have := HSZ.out; omega)
            clear hl9
            obtain ⟨r0, r1, -⟩ := HRW.out WK HBx.out
            go_upto_region 9 with (first
              | (go_at_call 48; refine (HCP.out _ (HB1.out.trans (HBx.out.mono HB1.out.size))).mono ?_; rintro e9 w9 ⟨vc, rfl, hoc, hb9⟩
                 have hnk9 := HNx.out.kept hb9
                 have hbk9 := HBx.out.trans (hb9.mono HBx.out.size)
                 have hri := RowIn.own (B := B0) (k := kr) hoc
                 obtain ⟨ac, cc, rfl, -⟩ := hoc.cls
                 have HRI := Lib.hid hri
                 have HN9 := Lib.hid hnk9
                 have HB9 := Lib.hid hbk9
                 have HBS9 := Lib.hid (show B + 1 ≤ w9.heap.size by have := hbk9.size; have := HSZ.out; omega)
                 clear hri hnk9 hbk9 hoc hb9 r0 r1)
              | (at_builtin; refine wpList_append_rwt rfl _ _ rfl (u := .slice an nl cn) rfl HN9.out.row tr HTR.out ac cs.length cc cs rfl HL9.out HBS9.out ?_; intro v' w' ho' hg'; obtain ⟨a8, c8, e8, -⟩ := OwnL.ls (z := Rw.zero) rw_size ho'; rw [List.length_append, List.length_singleton, HNE.out] at e8; subst e8))
            have hbk := ((HB9.out.alloc HB9.out.size (.cells #[.string tr, .slice ac cs.length cc] 30)).grown hg' (by have := HB9.out.size; simp; omega) (fun z e => by have := (HN9.out.lt z e).1; have := HSZ.out; omega))
            have hnk := HN9.out.push (r := ⟨kr, .slice ac cs.length cc, cs⟩) HRI.out _ ho' hg'
            have hnl2 : nl + 1 ≤ q + 2 := by have := HNL.out; omega
            have hne2 : (NN ++ [⟨kr, .slice ac cs.length cc, cs⟩] : List Rw).length = nl + 1 := by rw [List.length_append, List.length_singleton, HNE.out]
            have hpr2 : (NN ++ [⟨kr, .slice ac cs.length cc, cs⟩] : List Rw).map Rw.pr = NN.map Rw.pr ++ [(kr, cs)] := by rw [List.map_append]; rfl
            have hcn := HCN.out
            rw [← hpr2] at hcn
            clear HNx HBx HL9 hg' HCN hpr2 HN9 HB9 HBS9 HRI ho' HBS
            have HNx := Lib.hid hnk
            have HBx := Lib.hid hbk
            clear hbk hnk
            obtain ⟨N2, hN2⟩ : ∃ z, NN ++ [⟨kr, .slice ac cs.length cc, cs⟩] = z := ⟨_, rfl⟩
            rw [hN2] at HNx hcn hne2
            have HCN := Lib.hid hcn
            clear hcn hN2 HNE HNL hbs
            obtain ⟨nl2, hnl3⟩ : ∃ z, nl + 1 = z := ⟨_, rfl⟩
            rw [hnl3] at hne2 hnl2 HNx ⊢
            clear hnl3
            have HNE := Lib.hid hne2
            have HNL := Lib.hid (show nl2 ≤ q + 2 from hnl2)
            clear hne2 hnl2
            refine wp_region_flow [none,none,none,none,none,none,none,none,none,none,none,none,none,none,none,none,none,none,none,none,none,none,none,none,none,none,none,none,none,none,none, some 0, some 1, some 2, some 3, some 4, some 5, some 6, some 7, none,none,none,none,none,none,none,none,none,none,none,none,none,none,none] (fun i => [u31, u32, u33, u34, u35, u36, u37, u38].getD i undef) [(fun v _ => v = .slice (some ⟨bo, offo, none⟩) m cap), (fun v _ => v = .int .i64 (q : Int)), (fun v _ => v = .pointer (some ⟨bo, offo + q * 2, none⟩)), (fun v _ => v = .pointer (some ⟨bo, offo + q * 2, none⟩)), (fun v _ => v = .string to), (fun v _ => v = .pointer (some ⟨B, 0, none⟩)), (fun v _ => v = .string tr), (fun v _ => v = .bool (!EQ))] (by kernel_rfl) (by kernel_rfl) rfl rfl rfl ?_ ?_ ?_
            · intro g hg v X Y hX hY hv
              simp only [List.mem_cons, List.not_mem_nil, or_false] at hg
              rcases hg with rfl | rfl | rfl | rfl | rfl | rfl | rfl | rfl
              all_goals first
                | exact hv
                | exact hv.kept hY
            · simp only [flowOps, and_true]
              refine ⟨?_,?_,?_,?_,?_,?_,?_,?_⟩
              · intro xs W hW hn
                simp only [flowAct, zwc, zwn]
                go_wp2_with (fail)
                exact ⟨rfl, _, rfl, Below.refl _ _, rfl⟩
              · intro xs W hW hn
                simp only [flowAct, zwc, zwn]
                go_wp2_with (fail)
                exact ⟨rfl, _, rfl, Below.refl _ _, rfl⟩
              · intro xs W hW hn
                simp [flowNeeds, Region.binds] at hn
                simp only [flowAct, zwc, zwn]
                try simp only [hn]
                go_wp2_with (fail)
                exact ⟨rfl, _, rfl, Below.refl _ _, rfl⟩
              · intro xs W hW hn
                simp [flowNeeds, Region.binds] at hn
                simp only [flowAct, zwc, zwn]
                try simp only [hn]
                go_wp2_with (fail)
                exact ⟨rfl, _, rfl, Below.refl _ _, rfl⟩
              · intro xs W hW hn
                obtain ⟨o0, o1⟩ := HOW.out W (HBx.out.trans (hW.mono HBx.out.size))
                simp [flowNeeds, Region.binds] at hn
                simp only [flowAct, zwc, zwn]
                try simp only [hn]
                go_wp2_with (fail)
                exact ⟨rfl, _, rfl, Below.refl _ _, rfl⟩
              · intro xs W hW hn
                simp only [flowAct, zwc, zwn]
                go_wp2_with (fail)
                exact ⟨rfl, _, rfl, Below.refl _ _, rfl⟩
              · intro xs W hW hn
                obtain ⟨r0, r1, -⟩ := HRW.out W (HBx.out.trans (hW.mono HBx.out.size))
                simp [flowNeeds, Region.binds] at hn
                simp only [flowAct, zwc, zwn]
                try simp only [hn]
                go_wp2_with (fail)
                exact ⟨rfl, _, rfl, Below.refl _ _, rfl⟩
              · intro xs W hW hn
                simp [flowNeeds, Region.binds] at hn
                simp only [flowAct, zwc, zwn]
                try simp only [hn]
                go_wp2_with (fail)
                exact ⟨rfl, _, rfl, Below.refl _ _, rfl⟩
            · intro xs W hW hall
              simp only [flowAll, and_true, Nat.zero_add, Nat.reduceAdd] at hall
              obtain ⟨-,-,-,-,-,-,-, eL⟩ := hall
              simp only [flowAct, zwc, zwn]
              simp only [eL]
              have hbk := HBx.out.trans (hW.mono HBx.out.size)
              have hnk := HNx.out.kept hW
              clear eL
              obtain ⟨WK, hWK⟩ : ∃ X, W = X := ⟨_, rfl⟩
              rw [hWK] at hbk hnk ⊢
              clear hWK hW HBx HNx
              have HBx := Lib.hid hbk
              have HNx := Lib.hid hnk
              clear hbk hnk
              cases EQ with
              | true =>
                have HST := Lib.hid (show sN Op.bytesLess Prod.fst ([], []) (kr, cs) O (q + 1) = (N2.map Rw.pr, true) by rw [HCN.out]; rfl)
                go_wp2
                go_roundw
                case rel => exact ⟨q + 1, _, _, _, by omega, by go_num, rfl, rfl, HST.out, HNx.out, HBx.out⟩
                case measure => simp [intOf]; omega
              | false =>
                have HST := Lib.hid (show sN Op.bytesLess Prod.fst ([], []) (kr, cs) O (q + 1) = (N2.map Rw.pr ++ [(ko, cso)], true) by rw [HCN.out]; rfl)
                have hbs := HBx.out.size
                have hl9 : N2.length ≤ 1000000000 := by have := HNL.out; have := HNE.out; omega
                have HL9 := Lib.hid hl9
                have HBS := Lib.hid (show B + 1 ≤ WK.heap.size by have := HSZ.out; omega)
                clear hl9
                obtain ⟨o0, o1⟩ := HOW.out WK HBx.out
                go_wp2_with (at_builtin; refine wpList_append_rwt rfl _ _ rfl (u := .slice a8 nl2 c8) rfl HNx.out.row to HTO.out ao no co cso rfl HL9.out HBS.out ?_; intro v' w' ho' hg'; obtain ⟨a8, c8, e8, -⟩ := OwnL.ls (z := Rw.zero) rw_size ho'; rw [List.length_append, List.length_singleton, HNE.out] at e8; subst e8)
                have hbk := ((HBx.out.alloc HBx.out.size (.cells #[.string to, .slice ao no co] 30)).grown hg' (by have := HBx.out.size; simp; omega) (fun z e => by have := (HNx.out.lt z e).1; have := HSZ.out; omega))
                have hnk := HNx.out.push (r := ⟨ko, .slice ao no co, cso⟩) (HRO.out _ HBx.out) _ ho' hg'
                clear HOW
                refine ⟨⟨q + 1, _, _, _, by omega, by go_num, rfl, rfl, by rw [HST.out, List.map_append]; rfl, hnk, hbk⟩, ?_⟩
                simp [intOf]; omega
    · obtain rfl : m = q := by omega
      cases DN with
      | true =>
        have HRR := Lib.hid (show setR Op.bytesLess Prod.fst ([], []) (kr, cs) O = NN.map Rw.pr by unfold setR; rw [HOL.out, HCQ.out]; rfl)
        go_wp2
        go_ret
        exact ⟨_, NN, rfl, HRR.out.symm, HNx.out.mono (by have := HBe.out; omega) (by have := HBe.out; omega), HB1.out.trans (HBx.out.mono HB1.out.size)⟩
      | false =>
        have HRR := Lib.hid (show setR Op.bytesLess Prod.fst ([], []) (kr, cs) O = NN.map Rw.pr ++ [(kr, cs)] by unfold setR; rw [HOL.out, HCQ.out]; rfl)
        have hbs := HBx.out.size
        have hl9 : NN.length ≤ 1000000000 := by have := HNL.out; have := HNE.out; omega
        have HL9 := Lib.hid hl9
        have HBS := Lib.hid (show B + 1 ≤ wr.heap.size by have := HSZ.out; omega)
        clear hl9
        obtain ⟨r0, r1, -⟩ := HRW.out wr HBx.out
        go_wp2_with (first
          | (go_at_call 48; refine (HCP.out _ (HB1.out.trans (HBx.out.mono HB1.out.size))).mono ?_; rintro e9 w9 ⟨vc, rfl, hoc, hb9⟩
             have hnk9 := HNx.out.kept hb9
             have hbk9 := HBx.out.trans (hb9.mono HBx.out.size)
             have hri := RowIn.own (B := B0) (k := kr) hoc
             obtain ⟨ac, cc, rfl, -⟩ := hoc.cls
             have HRI := Lib.hid hri
             have HN9 := Lib.hid hnk9
             have HB9 := Lib.hid hbk9
             have HBS9 := Lib.hid (show B + 1 ≤ w9.heap.size by have := hbk9.size; have := HSZ.out; omega)
             clear hri hnk9 hbk9 hoc hb9 r0 r1)
          | (at_builtin; refine wpList_append_rwt rfl _ _ rfl (u := .slice an nl cn) rfl HN9.out.row tr HTR.out ac cs.length cc cs rfl HL9.out HBS9.out ?_; intro v' w' ho' hg'; obtain ⟨a8, c8, e8, -⟩ := OwnL.ls (z := Rw.zero) rw_size ho'; rw [List.length_append, List.length_singleton, HNE.out] at e8; subst e8))
        have hbk := ((HB9.out.alloc HB9.out.size (.cells #[.string tr, .slice ac cs.length cc] 30)).grown hg' (by have := HB9.out.size; simp; omega) (fun z e => by have := (HN9.out.lt z e).1; have := HSZ.out; omega))
        have hnk := HN9.out.push (r := ⟨kr, .slice ac cs.length cc, cs⟩) HRI.out _ ho' hg'
        go_ret
        exact ⟨_, _, rfl, by rw [HRR.out, List.map_append]; rfl, hnk.mono (by have := HBe.out; omega) (by have := HBe.out; omega), HB1.out.trans (hbk.mono HB1.out.size)⟩
end Go.Proofs.Yteffbibmfpdenaa
end

section
namespace Go.Proofs.Yteffbibmfpdenaa
open Go.RowKit Go Go.Sort
set_option linter.unusedVariables false
set_option maxRecDepth 20000

theorem Ls.drop {α : Type} {sz : Nat} {arr : α → Array Value} {z : α} {W : World} {a : Option Addr} {n cap : Nat} {l : List α} (h : Ls sz arr z W a n cap l) {q : Nat} (hq : q ≤ n) : Ls sz arr z W (if cap = q then a else a.map (fun x => x.add (q * sz))) (n - q) (cap - q) (l.drop q) := by
  have hle := h.le
  refine ⟨by rw [List.length_drop, h.len], by omega, by have := h.max; omega, ?_⟩
  by_cases hc : cap = q
  · left; omega
  · rw [if_neg hc]
    rcases h.adr with h4 | ⟨b, off, rfl, hat⟩
    · omega
    · refine .inr ⟨b, off + q * sz, by simp [Addr.add], fun i hi j v hj => ?_⟩
      have e : (l.drop q).getD i z = l.getD (q + i) z := by simp [List.getD_eq_getElem?_getD]
      rw [e] at hj
      have := hat (q + i) (by omega) j v hj
      rw [show off + q * sz + i * sz + j = off + (q + i) * sz + j by rw [Nat.add_mul]; omega]
      exact this
theorem slice_rw {W : World} {a : Option Addr} {n cap : Nat} {l : List Rw} (h : Ls 2 Rw.arr Rw.zero W a n cap l) {q : Nat} (hq : q ≤ n) :
    ∃ a', (∀ W', (Instr.slice 27 (.slice a n cap) (some (.int .i64 (q : Int))) none none).run Try.prog W' = .ok (.slice a' (n - q) (cap - q)) W') ∧
      (∀ W', (Instr.sliceAt 27 (.slice a n cap) (some (.int .i64 (q : Int))) none none).run Try.prog W' = .ok (.slice a' (n - q) (cap - q)) W') ∧ Ls 2 Rw.arr Rw.zero W a' (n - q) (cap - q) (l.drop q) := by
  have hle := h.le
  have he : Try.prog.elem 27 = 30 := by kernel_rfl
  obtain ⟨i0, hi, hz0, hz1, hz2⟩ := info_parts Try.infoRw
  have key : ∀ W', (Instr.slice 27 (.slice a n cap) (some (.int .i64 (q : Int))) none none).run Try.prog W' = .ok (.slice (if cap = q then a else a.map (fun x => x.add (q * 2))) (n - q) (cap - q)) W' := fun W' => by
    rw [run_slice_l W' 27 a n cap (by kernel_rfl) .i64 (q : Int) (by omega) (by omega), he]
    have hsz : (sizeOf 30).run Try.prog W' = .ok 2 W' := by simp [sizeOf, typeInfo, hi, hz1, go_sem]
    rw [hsz]
    simp only [Result.andThen_ok, sliced, Int.toNat_natCast]
  refine ⟨_, key, fun W' => ?_, h.drop hq⟩
  rw [run_sliceAt_slice _ _ _ _ _ _ (by kernel_rfl)]
  exact key W'
theorem slice_rwto {W : World} {a : Option Addr} {n cap : Nat} {l : List Rw} (h : Ls 2 Rw.arr Rw.zero W a n cap l) {q : Nat} (hq : q ≤ n) :
    (∀ W', (Instr.slice 27 (.slice a n cap) none (some (.int .i64 (q : Int))) none).run Try.prog W' = .ok (.slice a q cap) W') ∧
      (∀ W', (Instr.sliceAt 27 (.slice a n cap) none (some (.int .i64 (q : Int))) none).run Try.prog W' = .ok (.slice a q cap) W') ∧ Ls 2 Rw.arr Rw.zero W a q cap (l.take q) := by
  have hle := h.le
  have he : Try.prog.elem 27 = 30 := by kernel_rfl
  obtain ⟨i0, hi, hz0, hz1, hz2⟩ := info_parts Try.infoRw
  have key : ∀ W', (Instr.slice 27 (.slice a n cap) none (some (.int .i64 (q : Int))) none).run Try.prog W' = .ok (.slice a q cap) W' := fun W' => by
    have hsz : (sizeOf 30).run Try.prog W' = .ok 2 W' := by simp [sizeOf, typeInfo, hi, hz1, go_sem]
    rw [run_slice_h W' 27 a n cap (by kernel_rfl) .i64 (q : Int) (by omega) (by omega), Int.toNat_natCast, he, hsz]
    simp only [Result.andThen_ok, sliced, Nat.zero_mul, Nat.sub_zero]
    cases a <;> simp [Addr.add]
  refine ⟨key, fun W' => ?_, h.take hq⟩
  rw [run_sliceAt_slice _ _ _ _ _ _ (by kernel_rfl)]
  exact key W'
theorem RwsAt.drop {W : World} {a a' : Option Addr} {n cap cap' q : Nat} {L : List Rw} (h : RwsAt W a n cap L) (hl : Ls 2 Rw.arr Rw.zero W a' (n - q) cap' (L.drop q)) (hq : q ≤ n) : RwsAt W a' (n - q) cap' (L.drop q) :=
  ⟨hl, fun j hj => by
    have e : (L.drop q).getD j Rw.zero = L.getD (q + j) Rw.zero := by simp [List.getD_eq_getElem?_getD]
    rw [e]
    exact h.2 (q + j) (by omega)⟩
theorem RwsAt.take {W : World} {a : Option Addr} {n cap q : Nat} {L : List Rw} (h : RwsAt W a n cap L) (hq : q ≤ n) : RwsAt W a q cap (L.take q) :=
  ⟨h.1.take hq, fun j hj => by
    have e : (L.take q).getD j Rw.zero = L.getD j Rw.zero := by rw [List.getD_eq_getElem?_getD, List.getD_eq_getElem?_getD, List.getElem?_take_of_lt hj]
    rw [e]
    exact h.2 j (by omega)⟩
/-- A slice of cells of the call's own, told by its value. -/
def ClnV (base : Nat) (cs : List Cl) (v : Value) (W : World) : Prop := ∃ a c, v = .slice a cs.length c ∧ OwnC W base (.slice a cs.length c) cs
theorem ClnV.kept {base : Nat} {cs : List Cl} {v : Value} {X Y : World} (h : ClnV base cs v X) (hb : Below X.heap.size X Y) : ClnV base cs v Y := by
  obtain ⟨a, c, e, ho⟩ := h; exact ⟨a, c, e, ho.kept hb⟩
def RowV (base : Nat) (t : ByteArray) (cs : List Cl) (v : Value) (W : World) : Prop := ∃ a c, v = .agg #[.string t, .slice a cs.length c] ∧ OwnC W base (.slice a cs.length c) cs
theorem RowV.kept {base : Nat} {t : ByteArray} {cs : List Cl} {v : Value} {X Y : World} (h : RowV base t cs v X) (hb : Below X.heap.size X Y) : RowV base t cs v Y := by
  obtain ⟨a, c, e, ho⟩ := h; exact ⟨a, c, e, ho.kept hb⟩
/-- A row in a block of its own, as what is appended. -/
def OneV (base : Nat) (t : ByteArray) (cs : List Cl) (v : Value) (W : World) : Prop := ∃ g a c, v = .slice (some ⟨g, 0, none⟩) 1 1 ∧ W.heap[g]? = some (.cells #[.string t, .slice a cs.length c] 30 (0, 0)) ∧ OwnC W base (.slice a cs.length c) cs
theorem OneV.kept {base : Nat} {t : ByteArray} {cs : List Cl} {v : Value} {X Y : World} (h : OneV base t cs v X) (hb : Below X.heap.size X Y) : OneV base t cs v Y := by
  obtain ⟨g, a, c, e, hg, ho⟩ := h; exact ⟨g, a, c, e, heap_below hg hb, ho.kept hb⟩
theorem wpList_append_rwm {w : World} {ops : Array Oper} {rest : List Oper} {o : Oper} {ac : Act} {Q : Exit → Act → World → Prop} (hgd : o.guard = none) (os ox : Operand)
    (ho : o.op = .call { callee := .builtin .append, args := #[os, ox], argTypes := #[27, 27] })
    {base : Nat} {u : Value} {l : List Rw} (hs : ac.eval os = u) (hown : OwnL 2 30 Rw.arr w base u l) {t : ByteArray} {k : List UInt8} (ht : text k = t) {g : Nat} {a9 : Option Addr} {n9 c9 : Nat} (cs : List Cl) {e9 : TypeId}
    (hx : ac.eval ox = .slice (some ⟨g, 0, none⟩) 1 1) (hg : w.heap[g]? = some (.cells #[.string t, .slice a9 n9 c9] e9 (0, 0))) (h63 : l.length ≤ 1000000000) (hbase : base ≤ w.heap.size)
    (h : ∀ v' w', OwnL 2 30 Rw.arr w' base v' (l ++ [⟨k, .slice a9 n9 c9, cs⟩]) → w.grownBy w' u.ownBlock → wpList Try.prog ops Q rest (ac.put o.dst v') w') :
    wpList Try.prog ops Q (o :: rest) ac w := by
  subst ht
  obtain ⟨i0, hi, hz0, hz1, hz2⟩ := info_parts Try.infoRw
  refine wpList_append_own_wide (P := Try.prog) w hgd os ox 27 ho base 30 i0 _ 2 40 Try.underlying27 hi hz0 hz1 hz2 rfl (by decide) u l.length (lCells Rw.arr l) hs hown
    ⟨g, 0, none⟩ 1 1 [.string (text k), .slice a9 n9 c9] hx rfl ?_ ?_ (by unfold maxLen; omega) (by omega) hbase ?_
  · intro j v hj
    rw [addr_add, Nat.zero_add, cell_of_row _ g j #[.string (text k), .slice a9 n9 c9] e9 (0, 0) hg]
    rw [← hj]; simp
  · intro v hv
    simp only [List.mem_cons, List.not_mem_nil, or_false] at hv
    rcases hv with rfl | rfl <;> rfl
  · intro v' w' h2 h3 _
    refine h v' w' ?_ h3
    unfold OwnL
    rw [List.length_append, lCells_append]
    exact h2
theorem OwnC.turn0 {W W' : World} {B B' : Nat} {u v : Value} {cs : List Cl} {L : List Rw} (h : OwnC W B u cs) (hr : OwnL 2 30 Rw.arr W B' v L) (hg : W.grownBy W' v.ownBlock) : OwnC W' B u cs :=
  h.of_block fun q hq => hg.block q (h.lt q hq).2 (fun e => own_kinds h hr hq e)
theorem getD_app {L M : List Rw} {j : Nat} : (L ++ M).getD j Rw.zero = if j < L.length then L.getD j Rw.zero else M.getD (j - L.length) Rw.zero := by
  rw [List.getD_eq_getElem?_getD, List.getD_eq_getElem?_getD, List.getD_eq_getElem?_getD]
  by_cases h : j < L.length
  · rw [if_pos h, List.getElem?_append_left h]
  · rw [if_neg h, List.getElem?_append_right (by omega)]
/-- Rows and more rows, whose cells are younger than all. -/
theorem OwnRw.join {W W' : World} {B B2 n1 : Nat} {v v' : Value} {L M : List Rw} (h : OwnRw W B n1 v L) (hm : ∀ j, j < M.length → OwnC W B2 (M.getD j Rw.zero).u (M.getD j Rw.zero).cs ∧ (M.getD j Rw.zero).cs.length = n1) (ha : ∀ i j, i < j → j < M.length → (M.getD i Rw.zero).u.ownBlock ≠ (M.getD j Rw.zero).u.ownBlock)
    (h1 : 0 < n1) (hB : B ≤ B2) (hlt : ∀ j, j < L.length → ∀ q, (L.getD j Rw.zero).u.ownBlock = some q → q < B2) (hr : OwnL 2 30 Rw.arr W' B v' (L ++ M)) (hg : W.grownBy W' v.ownBlock) : OwnRw W' B n1 v' (L ++ M) := by
  refine ⟨hr, fun j hj => ?_, fun i j hij hj => ?_⟩
  · rw [getD_app]
    rw [List.length_append] at hj
    by_cases e : j < L.length
    · rw [if_pos e]; exact ⟨(h.own j e).1.turn0 h.row hg, (h.own j e).2⟩
    · rw [if_neg e]; exact ⟨((hm _ (by omega)).1.turn0 h.row hg).mono hB, (hm _ (by omega)).2⟩
  · rw [getD_app, getD_app]
    rw [List.length_append] at hj
    by_cases e : j < L.length
    · rw [if_pos (by omega), if_pos e]; exact h.apart i j hij e
    · rw [if_neg e]
      by_cases e2 : i < L.length
      · rw [if_pos e2]
        obtain ⟨hc, hn⟩ := hm (j - L.length) (by omega)
        obtain ⟨g, c, ev, hge, -,-⟩ := own_some hc (by omega)
        intro e3
        have e4 : (M.getD (j - L.length) Rw.zero).u.ownBlock = some g := by rw [ev]; rfl
        have := hlt i e2 g (e3.trans e4)
        omega
      · rw [if_neg e2]; exact ha _ _ (by omega) (by omega)
theorem OwnRw.push0 {W W' : World} {B B2 n1 : Nat} {v v' u : Value} {L : List Rw} {k : List UInt8} {cs : List Cl} (h : OwnRw W B n1 v L) (hn : cs.length = n1) (hc : OwnC W B2 u cs) (h1 : 0 < n1) (hB : B ≤ B2) (hlt : ∀ j, j < L.length → ∀ q, (L.getD j Rw.zero).u.ownBlock = some q → q < B2)
    (hr : OwnL 2 30 Rw.arr W' B v' (L ++ [⟨k, u, cs⟩])) (hg : W.grownBy W' v.ownBlock) : OwnRw W' B n1 v' (L ++ [⟨k, u, cs⟩]) :=
  h.join (M := [⟨k, u, cs⟩]) (fun j hj => by
    have : j = 0 := by simpa using hj
    subst this; exact ⟨hc, hn⟩) (fun i j hij hj => by
    have : j = 0 := by simpa using hj
    omega) h1 hB hlt hr hg

set_option maxRecDepth 100000 in
set_option maxHeartbeats 3200000 in
theorem clonec_c {w : World} {x : Option Addr} {m cap : Nat} {cs : List Cl} (hl : Cls w x m cap cs) (h0 : 0 < m) (hm : m ≤ 1000000) :
    Calls Try.prog 123 #[.slice x m cap] w (fun e w' => ∃ a c, e = .returned (.slice a cs.length c) ∧ OwnC w' w.heap.size (.slice a cs.length c) cs ∧ Below w.heap.size w w') := by
  have hll := hl.len
  obtain ⟨i0, hi, hz0, hz1, hz2⟩ := info_parts Try.infoC
  rcases hl.src with ⟨-, h9⟩ | ⟨a, rfl, hsrc⟩
  · omega
  have q22 : ∀ (w : World) (a : Option Addr) (n c n' c' : Nat), (binOp .eql 28 (.slice a n c) (.slice none n' c')).run Try.prog w = .ok (.bool a.isNone) w := fun w a n c n' c' => Lib.run_eql_slice_nil w _ _ a n c n' c' Try.underlying28
  have HS := Lib.hid (fun (o : Obj) j v (h : (cCells cs)[j]? = some v) => (show (w.alloc o).cell? (a.add j) = some v from by
    have h1 := hsrc j v h
    rw [(alloc_below w o).cell (World.block_lt_of_cell? w _ h1)]
    exact h1))
  have HLL := Lib.hid hll
  clear hl hsrc hll
  go_enter Try.func123, Try.ntmps123
  go_wp2_with (at_builtin; refine wpList_append_own_wide (P := Try.prog) _ rfl _ _ 28 rfl w.heap.size 79 i0 _ 8 72 Try.underlying28 hi hz0 hz1 hz2 rfl (by decide) _ 0 [] rfl (World.ownsRow_made w #[] 0 (Nat.le_refl _) (Nat.zero_le _) rfl) a m cap (cCells cs) rfl (by rw [cCells_length, HLL.out]) (HS.out _) (cCells_one cs) (by unfold maxLen; omega) (by omega) (by simp) ?_; intro v' w' h2 h3 _)
  go_ret
  have h4 : OwnC w' w.heap.size v' cs := by
    unfold OwnC
    rw [HLL.out]
    simpa using h2
  obtain ⟨a4, c4, rfl, -⟩ := h4.cls
  exact ⟨a4, c4, rfl, h4, ((Below.refl _ w).alloc (Nat.le_refl _) _).grown h3 (by simp) (fun k hk => by cases hk; exact Nat.le_refl _)⟩

set_option maxRecDepth 100000 in
set_option maxHeartbeats 6400000 in
theorem mcopied_c {w : World} {x : Option Addr} {m cap n1 : Nat} {L : List Rw} (hl : RwsAt w x m cap L) (hm : m ≤ 1000000) (hn : ∀ r ∈ L, r.cs.length = n1) (h0 : 0 < n1) (h1 : n1 ≤ 1000000) :
    Calls Try.prog 94 #[.slice x m cap] w (fun e w' => ∃ v NN, e = .returned v ∧ NN.map Rw.pr = L.map Rw.pr ∧ OwnRw w' w.heap.size n1 v NN ∧ Below w.heap.size w w') := by
  have hll := hl.1.len
  have hle := hl.1.le
  have hmax := hl.1.max
  have HL := Lib.hid hl
  have HN := Lib.hid (fun q (hq : q < m) => hn _ (rw_mem (L := L) (k := q) (by omega)))
  have HT := Lib.hid (show L.map Rw.pr = (L.take m).map Rw.pr by rw [← hll, List.take_length])
  have HTS := Lib.hid (fun q (hq : q < m) => (show (L.take (q + 1)).map Rw.pr = (L.take q).map Rw.pr ++ [(L.getD q Rw.zero).pr] by
    rw [List.take_add_one, List.getElem?_eq_getElem (by omega), List.getD_eq_getElem?_getD, List.getElem?_eq_getElem (by omega), List.map_append]; rfl))
  clear hl hn hll
  go_enter Try.func94, Try.ntmps94
  go_wp2
  go_loopw [3, 8] (fun o j wr => ∃ (q : Nat) (v : Value) (NN : List Rw), q ≤ m ∧ j = .int .i64 (q : Int) ∧ o = v ∧ NN.map Rw.pr = (L.take q).map Rw.pr ∧ NN.length = q ∧ OwnRw wr w.heap.size n1 v NN ∧ Below w.heap.size w wr) (fun _ j _ => m - (intOf j).toNat)
  case atStart => exact ⟨0, .slice none 0 0, [], by omega, rfl, rfl, rfl, rfl, OwnRw.nil _ _ _, Below.refl _ _⟩
  case round =>
    obtain ⟨q, v, NN, hq, rfl, rfl, hpr, hnl, ho, hbx⟩ := hrel
    obtain ⟨an, cn, ev, -⟩ := ho.at
    rw [hnl] at ev
    subst ev
    have HPR := Lib.hid hpr
    have HNL := Lib.hid hnl
    have HO := Lib.hid ho
    have HBx := Lib.hid hbx
    clear hpr hnl ho hbx
    by_cases hlq : q < m
    · have hqi : (q : Int) < (m : Int) := by omega
      have hqc : (q : Int) < (cap : Int) := by omega
      obtain ⟨bo, offo, ao, no, co, rfl, eu, eno, hco, hat⟩ := HL.out.place hlq
      have hnn := HN.out q hlq
      have hts := HTS.out q hlq
      obtain ⟨y, hy⟩ : ∃ y, L.getD q Rw.zero = y := ⟨_, rfl⟩
      rw [hy] at hat eu eno hco hnn hts
      obtain ⟨ko, uo, cso⟩ := y
      simp only at hat eu eno hco hnn
      have hno : 0 < no ∧ no ≤ 1000000 := by omega
      obtain ⟨to, hto⟩ : ∃ z, text ko = z := ⟨_, rfl⟩
      rw [hto] at hat
      have HTO := Lib.hid hto
      have HNN := Lib.hid hnn
      have HTSQ := Lib.hid hts
      obtain ⟨o0, o1⟩ := hat _ HBx.out
      have HCL := Lib.hid (fun W (h : Below w.heap.size w W) => clonec_c (hco.below h) hno.1 hno.2)
      clear hat hy hto hco hnn hts eno eu hno
      go_upto_region 5 with (fail)
      have hal := alloc_below wr (.cells #[.string to, .slice ao no co] 30)
      have hnew := heap_alloc_new wr (.cells #[.string to, .slice ao no co] 30)
      have HBy := Lib.hid (HBx.out.trans (hal.mono HBx.out.size))
      have HOy := Lib.hid (HO.out.kept hal)
      obtain ⟨g, hg⟩ : ∃ z, wr.heap.size = z := ⟨_, rfl⟩
      rw [hg] at hnew ⊢
      generalize wr.alloc (.cells #[.string to, .slice ao no co] 30) = W2 at *
      have HRW := Lib.hid (fun W (h : Below W2.heap.size W2 W) => row_cells (heap_below hnew h))
      clear hal hnew o0 o1 hg HO HBx
      refine wp_region_flow_tail 8 [none,none,none,none,none,none,none,none,none,none,none,none, some 0, some 1, some 2, some 3, some 4, some 5, some 6, some 7, none,none,none] (fun i => [u12, u13, u14, u15, u16, u17, u18, u19].getD i undef) [(fun v _ => v = .slice an q cn), (fun v _ => v = .pointer (some ⟨g, 0, none⟩)), (fun v _ => v = .string to), (fun v _ => v = .pointer (some ⟨g, 1, none⟩)), (fun v _ => v = .slice ao no co), (ClnV W2.heap.size cso), (RowV W2.heap.size to cso), (OneV W2.heap.size to cso)] (fun _ => False) (by kernel_rfl) (by kernel_rfl) (by kernel_rfl) rfl rfl rfl ?_ ?_ ?_
      · intro g hg v X Y hX hY hv
        simp only [List.mem_cons, List.not_mem_nil, or_false] at hg
        rcases hg with rfl | rfl | rfl | rfl | rfl | rfl | rfl | rfl
        all_goals first
          | exact hv
          | exact hv.kept hY
      · simp only [flowOpsF, List.take_succ_cons, List.take_zero, and_true]
        refine ⟨?_,?_,?_,?_,?_,?_,?_,?_⟩
        · intro xs W hW hn
          simp only [flowAct, zwc, zwn]
          go_wp2_with (fail)
          exact ⟨rfl, _, rfl, Below.refl _ _, rfl, fun h => h.elim⟩
        · intro xs W hW hn
          simp only [flowAct, zwc, zwn]
          go_wp2_with (fail)
          exact ⟨rfl, _, rfl, Below.refl _ _, rfl, fun h => h.elim⟩
        · intro xs W hW hn
          obtain ⟨r0, r1, -⟩ := HRW.out W hW
          simp [flowNeeds, Region.binds] at hn
          simp only [flowAct, zwc, zwn]
          try simp only [hn]
          go_wp2_with (fail)
          exact ⟨rfl, _, rfl, Below.refl _ _, rfl, fun h => h.elim⟩
        · intro xs W hW hn
          simp only [flowAct, zwc, zwn]
          go_wp2_with (fail)
          exact ⟨rfl, _, rfl, Below.refl _ _, rfl, fun h => h.elim⟩
        · intro xs W hW hn
          obtain ⟨r0, r1, -⟩ := HRW.out W hW
          simp [flowNeeds, Region.binds] at hn
          simp only [flowAct, zwc, zwn]
          try simp only [hn]
          go_wp2_with (fail)
          exact ⟨rfl, _, rfl, Below.refl _ _, rfl, fun h => h.elim⟩
        · intro xs W hW hn
          simp [flowNeeds, Region.binds] at hn
          simp only [flowAct, zwc, zwn]
          simp only [hn]
          go_wp2_with (go_at_call 123; (with_reducible refine (HCL.out _ (HBy.out.trans (hW.mono HBy.out.size))).mono ?_); rintro e9 w9 ⟨a9, c9, rfl, ho9, hb9⟩)
          exact ⟨rfl, _, rfl, hb9, ⟨_, _, rfl, ho9.mono hW.size⟩, fun h => h.elim⟩
        · intro xs W hW hn
          simp [flowNeeds, Region.binds] at hn
          obtain ⟨h2, a9, c9, e9, ho9⟩ := hn
          simp only [flowAct, zwc, zwn]
          simp only [h2, e9]
          go_wp2_with (fail)
          exact ⟨rfl, _, rfl, Below.refl _ _, ⟨_, _, rfl, ho9⟩, fun h => h.elim⟩
        · intro xs W hW hn
          simp [flowNeeds, Region.binds] at hn
          obtain ⟨a9, c9, e9, ho9⟩ := hn
          simp only [flowAct, zwc, zwn]
          simp only [e9]
          go_wp2_with (fail)
          exact ⟨rfl, _, rfl, alloc_below _ _, ⟨_, _, _, rfl, heap_alloc_new _ _, ho9.kept (alloc_below _ _)⟩, fun h => h.elim⟩
      · intro xs W hW hall hfr
        clear hfr
        simp only [flowAll, and_true, Nat.zero_add, Nat.reduceAdd] at hall
        obtain ⟨e0, -,-,-,-,-,-, g9, a9, c9, e7, hg9, ho9⟩ := hall
        simp only [flowAct, zwc, zwn, List.drop_succ_cons, List.drop_zero]
        simp only [e0, e7]
        have HOW := Lib.hid (HOy.out.kept hW)
        have HBW := Lib.hid (HBy.out.trans (hW.mono HBy.out.size))
        have HOC := Lib.hid ho9
        have HW2 := Lib.hid HBy.out.size
        have HLT := Lib.hid (fun j (hj : j < NN.length) k hk => ((HOy.out.own j hj).1.lt k hk).2)
        have HG9 := Lib.hid hg9
        clear e0 e7 ho9 hg9 hW HOy HBy HRW HCL
        go_wp2_with (at_builtin; refine wpList_append_rwm rfl _ _ rfl (u := .slice an q cn) rfl HOW.out.row HTO.out cso rfl HG9.out (by rw [HNL.out]; omega) HBW.out.size ?_; intro v' w' ho' hg'; have hpush := HOW.out.push0 HNN.out HOC.out h0 HW2.out HLT.out ho' hg'; have hbk := HBW.out.grown hg' HBW.out.size (fun z e => (HOW.out.row.lt z e).1); have HPU := Lib.hid hpush; have HBK := Lib.hid hbk; clear hpush hbk ho' hg')
        go_roundw
        case rel => exact ⟨q + 1, _, _, by omega, by go_num, rfl, by rw [HTSQ.out, List.map_append, HPR.out]; rfl, by rw [List.length_append, HNL.out]; rfl, HPU.out, HBK.out⟩
        case measure => simp [intOf]; omega
    · obtain rfl : m = q := by omega
      go_wp2
      go_ret
      exact ⟨_, NN, rfl, by rw [HT.out]; exact HPR.out, HO.out, HBx.out⟩
end Go.Proofs.Yteffbibmfpdenaa
end

section
namespace Go.Proofs.Yteffbibmfpdenaa
open Go.RowKit Go Go.Sort
set_option linter.unusedVariables false
set_option maxRecDepth 20000

end Go.Proofs.Yteffbibmfpdenaa
end

section
namespace Go.Proofs.Yteffbibmfpdenaa
open Go.RowKit Go Go.Sort
set_option linter.unusedVariables false
set_option maxRecDepth 20000

theorem join_bad1 {gs : List Grp} {ka kb : List UInt8} {ca cb : List Cl} (h : ¬ rgoodS gs ka ca = 0) : rjoinS gs ka ca kb cb = ([], [], rgoodS gs ka ca) := by unfold rjoinS; rw [if_pos h]
theorem join_bad2 {gs : List Grp} {ka kb : List UInt8} {ca cb : List Cl} (h0 : rgoodS gs ka ca = 0) (h : ¬ rgoodS gs kb cb = 0) : rjoinS gs ka ca kb cb = ([], [], rgoodS gs kb cb) := by unfold rjoinS; rw [if_neg (not_not_intro h0), if_pos h]
theorem join_bad3 {gs : List Grp} {ka kb : List UInt8} {ca cb : List Cl} (h0 : rgoodS gs ka ca = 0) (h1 : rgoodS gs kb cb = 0) (h : ¬ ka = kb) : rjoinS gs ka ca kb cb = ([], [], 100) := by unfold rjoinS; rw [if_neg (not_not_intro h0), if_neg (not_not_intro h1), if_pos h]
theorem join_yes {gs : List Grp} {ka kb : List UInt8} {ca cb : List Cl} (h0 : rgoodS gs ka ca = 0) (h1 : rgoodS gs kb cb = 0) (h : ka = kb) : rjoinS gs ka ca kb cb = (ka, zipN ca cb ca.length, 0) := by unfold rjoinS; rw [if_neg (not_not_intro h0), if_neg (not_not_intro h1), if_neg (not_not_intro h)]
theorem pgood_pos {gs : List Grp} (h : pgoodS gs = 0) : 0 < gs.length := by
  rcases Nat.eq_zero_or_pos gs.length with h0 | h0
  · unfold pgoodS at h; rw [if_pos h0] at h; cases h
  · exact h0

set_option maxRecDepth 100000 in
set_option maxHeartbeats 12800000 in
theorem rrowjoin_c {w : World} {x xa xb : Option Addr} {n1 cap ma capa mb capb : Nat} {gs : List Grp} {ca cb : List Cl} (hg : Grs w x n1 cap gs) (hs : ∀ g ∈ gs, g.1.length ≤ 9223372036854775807)
    (hla : Cls w xa ma capa ca) (hxa : ∀ c ∈ ca, c.t.length ≤ 9223372036854775807) (ka : List UInt8) (hka : ka.length ≤ 9223372036854775807)
    (hlb : Cls w xb mb capb cb) (hxb : ∀ c ∈ cb, c.t.length ≤ 9223372036854775807) (kb : List UInt8) (hkb : kb.length ≤ 9223372036854775807) :
    Calls Try.prog 117 #[.slice x n1 cap, .agg #[.string (text ka), .slice xa ma capa], .agg #[.string (text kb), .slice xb mb capb]] w (RowPost (rjoinS gs ka ca kb cb) w) := by
  have hgl := hg.len
  have hal := hla.len
  have hbl := hlb.len
  have hlea := hla.le
  have hmaxa := hla.max
  have hleb := hlb.le
  have hmaxb := hlb.max
  have hGA := fun W (h : Below w.heap.size w W) => rrowgood_c (hg.below h) hs (hla.below h) hxa ka hka
  have hGB := fun W (h : Below w.heap.size w W) => rrowgood_c (hg.below h) hs (hlb.below h) hxb kb hkb
  have hCP := fun (hm : ma ≤ 1000000) W (h : Below w.heap.size w W) => rcopy_c (hla.below h) hm (text ka)
  have HIA := Lib.hid (@rgood_inv gs ka ca)
  have HIB := Lib.hid (@rgood_inv gs kb cb)
  have HUP := Lib.hid (fun (h : rgoodS gs ka ca = 0) (k : Nat) (hk : k < ca.length) => join_two (b := cb.getD k Cl.zero) (good_up (good_at h hk)))
  have hts := text_same ka kb
  have H1 := Lib.hid (@join_bad1 gs ka kb ca cb)
  have H2 := Lib.hid (@join_bad2 gs ka kb ca cb)
  have H3 := Lib.hid (@join_bad3 gs ka kb ca cb)
  have H4 := Lib.hid (@join_yes gs ka kb ca cb)
  have HLB := Lib.hid hlb
  obtain ⟨RA, hRA⟩ : ∃ z, rgoodS gs ka ca = z := ⟨_, rfl⟩
  obtain ⟨RB, hRB⟩ : ∃ z, rgoodS gs kb cb = z := ⟨_, rfl⟩
  obtain ⟨RV, hRV⟩ : ∃ z, rjoinS gs ka ca kb cb = z := ⟨_, rfl⟩
  rw [hRA, hRV] at H1
  rw [hRA, hRB, hRV] at H2 H3 H4
  rw [hRV]
  simp only [hRA] at hGA
  simp only [hRB] at hGB
  rw [hRA] at HIA HUP
  rw [hRB] at HIB
  obtain ⟨tka, htka⟩ : ∃ z, text ka = z := ⟨_, rfl⟩
  obtain ⟨tkb, htkb⟩ : ∃ z, text kb = z := ⟨_, rfl⟩
  rw [htka] at hGA hCP ⊢
  rw [htkb] at hGB ⊢
  rw [htka, htkb] at hts
  obtain ⟨KE, hKE⟩ : ∃ z, decide (ka = kb) = z := ⟨_, rfl⟩
  rw [hKE] at hts
  have HTK := Lib.hid htka
  have HKE := Lib.hid hKE
  have HGA := Lib.hid hGA
  have HGB := Lib.hid hGB
  have HCP := Lib.hid hCP
  have hb := ((alloc_below w (.cells #[.string tka, .slice xa ma capa] 30)).alloc (by simp) (.cells #[.string tkb, .slice xb mb capb] 30)).alloc (by simp; omega) (.cells #[.string ⟨#[]⟩, .slice none 0 0] 30)
  have hra : (((w.alloc (.cells #[.string tka, .slice xa ma capa] 30)).alloc (.cells #[.string tkb, .slice xb mb capb] 30)).alloc (.cells #[.string ⟨#[]⟩, .slice none 0 0] 30)).heap[w.heap.size]? = some (.cells #[.string tka, .slice xa ma capa] 30 (0, 0)) := (Below.heap_alloc _ _ _ (by simp; omega)).trans ((Below.heap_alloc _ _ _ (by simp)).trans (heap_alloc_new w _))
  have hrb := heap_below (heap_alloc_new (w.alloc (.cells #[.string tka, .slice xa ma capa] 30)) (.cells #[.string tkb, .slice xb mb capb] 30)) (alloc_below _ (.cells #[.string ⟨#[]⟩, .slice none 0 0] 30))
  have hz := heap_alloc_new ((w.alloc (.cells #[.string tka, .slice xa ma capa] 30)).alloc (.cells #[.string tkb, .slice xb mb capb] 30)) (.cells #[.string ⟨#[]⟩, .slice none 0 0] 30)
  simp only [World.size_alloc] at hrb hz
  clear hGA hGB hCP hRA hRB hRV htka htkb hKE hg hs hla hlb hxa hxb hka hkb
  go_enter Try.func117, Try.ntmps117
  go_upto_region 1 with (fail)
  obtain ⟨B, hB⟩ : ∃ q, w.heap.size = q := ⟨_, rfl⟩
  have HBe := Lib.hid hB
  rw [hB] at hra hrb hz ⊢
  clear hB
  generalize ((w.alloc (.cells #[.string tka, .slice xa ma capa] 30)).alloc (.cells #[.string tkb, .slice xb mb capb] 30)).alloc (.cells #[.string ⟨#[]⟩, .slice none 0 0] 30) = W1 at *
  obtain ⟨r0, r1, -⟩ := row_cells hra
  have HA1 := Lib.hid hra
  have HR1 := Lib.hid hrb
  have HZ1 := Lib.hid hz
  have HB1 := Lib.hid hb
  clear hra hrb hz hb
  have hbad : ∀ (f : Int), RV = ([], [], f) → ∀ (W : World), Below W1.heap.size W1 W → RowPost RV w (.returned (.tuple #[.agg #[.string ⟨#[]⟩, .slice none 0 0], .int .i64 f])) ((W.setCell ⟨B + 1 + 1, 0, none⟩ (.string ⟨#[]⟩)).setCell ⟨B + 1 + 1, 1, none⟩ (.slice none 0 0)) := fun f h W hW => by
    rw [h]
    exact ⟨_, rfl, OwnC.nil _ _, ((HB1.out.trans (hW.mono HB1.out.size)).setCell (p := ⟨B + 1 + 1, 0, none⟩) (by have := HBe.out; simp; omega) _).setCell (p := ⟨B + 1 + 1, 1, none⟩) (by have := HBe.out; simp; omega) _⟩
  have HBAD := Lib.hid hbad
  clear hbad
  go_upto_region 2 with (go_at_call 68; (with_reducible refine (HGA.out _ HB1.out).mono ?_); rintro e9 w2 ⟨rfl, hb2⟩; have HX2 := Lib.hid hb2; clear hb2)
  have HB2 := Lib.hid (HB1.out.trans (HX2.out.mono HB1.out.size))
  have HZ2 := Lib.hid (heap_below HZ1.out HX2.out)
  have HA2 := Lib.hid (heap_below HA1.out HX2.out)
  have HR2 := Lib.hid (heap_below HR1.out HX2.out)
  clear r0 r1 HGA
  by_cases h0 : RA = 0
  · subst h0
    obtain ⟨s0, s1, -⟩ := row_cells HR2.out
    go_upto_region 5 with (go_at_call 68; (with_reducible refine (HGB.out _ HB2.out).mono ?_); rintro e9 w3 ⟨rfl, hb3⟩; have HX3 := Lib.hid (HX2.out.trans (hb3.mono HX2.out.size)); clear hb3)
    have HB3 := Lib.hid (HB1.out.trans (HX3.out.mono HB1.out.size))
    have HZ3 := Lib.hid (heap_below HZ1.out HX3.out)
    have HA3 := Lib.hid (heap_below HA1.out HX3.out)
    have HR3 := Lib.hid (heap_below HR1.out HX3.out)
    clear s0 s1 HGB HB2 HZ2 HA2 HR2 HX2
    by_cases h1 : RB = 0
    · subst h1
      obtain ⟨r0, r1, -⟩ := row_cells HA3.out
      obtain ⟨s0, s1, -⟩ := row_cells HR3.out
      cases KE with
      | false =>
        have HRR := Lib.hid (H3.out (by first | rfl | trivial) (by first | rfl | trivial) (of_decide_eq_false HKE.out))
        obtain ⟨z0, z1, zf⟩ := row_cells HZ3.out
        have HSB := Lib.hid (row_set HZ3.out ⟨#[]⟩ (.slice none 0 0))
        clear H1 H2 H3 H4 HIA HIB HUP
        go_wp2
        exact bodyPost_ret (res_cell_tmp rfl _ _ (B + 1 + 1) 30 _ (0, 0) _ (.int .i64 100) rfl rfl HSB.out Try.underlying30 rfl (by kernel_rfl)) rfl (HBAD.out _ HRR.out _ (HX3.out))
      | true =>
        have HRR := Lib.hid (H4.out (by first | rfl | trivial) (by first | rfl | trivial) (of_decide_eq_true HKE.out))
        obtain ⟨hpa, -, hla, -⟩ := HIA.out (by first | rfl | trivial)
        have hlb := (HIB.out (by first | rfl | trivial)).2.2.1
        have hup := HUP.out (by first | rfl | trivial)
        have h4 := pgood_len hpa
        have hpos := pgood_pos hpa
        have hm4 : ma ≤ 1000000 := by omega
        obtain rfl : ma = mb := by omega
        have hcpos : 0 < ca.length := by omega
        have HUPK := Lib.hid hup
        clear H1 H2 H3 H4 HIA HIB HUP HBAD hpa hup HX3 HA1 HR1 HZ1 HB1
        go_upto_region 11 with (go_at_call 48; (with_reducible refine (HCP.out hm4 _ HB3.out).mono ?_); rintro e9 w5 ⟨v3, rfl, ho5, hb5⟩; obtain ⟨g3, c3, ev, hg3, hc3, hgs⟩ := own_some ho5 hcpos; rw [hal] at ev; subst ev)
        have hal5 := alloc_below w5 (.cells #[.string tka, .slice (some ⟨g3, 0, none⟩) ma c3] 30)
        have HS4 := Lib.hid (heap_alloc_new w5 (.cells #[.string tka, .slice (some ⟨g3, 0, none⟩) ma c3] 30))
        have HO4 := Lib.hid ((ho5.mono HB3.out.size).kept hal5)
        have HR4 := Lib.hid (heap_below (heap_below HR3.out hb5) hal5)
        have HZ4 := Lib.hid (heap_below (heap_below HZ3.out hb5) hal5)
        have HB4 := Lib.hid ((HB3.out.trans (hb5.mono HB3.out.size)).trans (hal5.mono (Nat.le_trans HB3.out.size hb5.size)))
        have HG3 := Lib.hid (Nat.le_trans HB3.out.size hg3)
        have HSG := Lib.hid (show w5.heap.size ≠ g3 by omega)
        have HZG := Lib.hid (show B + 1 + 1 ≠ g3 by have := (Array.getElem?_eq_some_iff.1 HZ3.out).1; omega)
        have HRG := Lib.hid (show B + 1 ≠ g3 by have := (Array.getElem?_eq_some_iff.1 HZ3.out).1; omega)
        obtain ⟨S, hS⟩ : ∃ q, w5.heap.size = q := ⟨_, rfl⟩
        rw [hS] at HS4 HSG ⊢
        generalize w5.alloc (.cells #[.string tka, .slice (some ⟨g3, 0, none⟩) ma c3] 30) = W5 at *
        clear hal5 hb5 ho5 hg3 hgs hS r0 r1 s0 s1 HA3 HR3 HZ3 HCP HB3
        go_loopw [10] (fun i wr => ∃ k : Nat, k ≤ ma ∧ i = .int .i64 (k : Int) ∧ OwnC wr w.heap.size (.slice (some ⟨g3, 0, none⟩) ma c3) (zipN ca cb k) ∧ Below w.heap.size w wr ∧ wr.heap[S]? = some (.cells #[.string tka, .slice (some ⟨g3, 0, none⟩) ma c3] 30 (0, 0)) ∧ wr.heap[B + 1]? = some (.cells #[.string tkb, .slice xb ma capb] 30 (0, 0)) ∧ wr.heap[B + 1 + 1]? = some (.cells #[.string ⟨#[]⟩, .slice none 0 0] 30 (0, 0))) (fun i _ => ma - (intOf i).toNat)
        case atStart => exact ⟨0, by omega, rfl, HO4.out, HB4.out, HS4.out, HR4.out, HZ4.out⟩
        case round =>
          clear HO4 HB4 HS4 HR4 HZ4
          obtain ⟨k, hk, rfl, ho, hB, hS, hR, hZ⟩ := hrel
          obtain ⟨s0, s1, -⟩ := row_cells hS
          have HO := Lib.hid ho
          have HB := Lib.hid hB
          have HS := Lib.hid hS
          have HR := Lib.hid hR
          have HZ := Lib.hid hZ
          clear ho hB hS hR hZ
          by_cases hlt : k < ma
          · have hki : (k : Int) < (ma : Int) := by omega
            have hkic : (k : Int) < (c3 : Int) := by omega
            have hkib : (k : Int) < (capb : Int) := by omega
            have hzl := zipN_len ca cb k
            have hlk : k < (zipN ca cb k).length := by omega
            have hzk : (zipN ca cb k).getD k Cl.zero = ca.getD k Cl.zero := by rw [zipN_get ca cb k (by omega) k, if_neg (by omega)]
            have hst : zipN ca cb (k + 1) = (zipN ca cb k).set k (twoS (ca.getD k Cl.zero) (cb.getD k Cl.zero)) := by rw [← HUPK.out k (by omega)]; rfl
            have hoat := own_at HO.out hlk
            rw [hzk] at hoat
            obtain ⟨bk, off, rfl, hat⟩ := HLB.out.at hlt
            obtain ⟨y, hck⟩ : ∃ y, ca.getD k Cl.zero = y := ⟨_, rfl⟩
            obtain ⟨z, hdk⟩ : ∃ y, cb.getD k Cl.zero = y := ⟨_, rfl⟩
            rw [hck] at hoat
            rw [hck, hdk] at hst
            rw [hdk] at hat
            obtain ⟨n, s, a, b, g, t, d, e⟩ := y
            obtain ⟨n', s', a', b', g', t', d', e'⟩ := z
            have hjj := fun W => rtwo_c n s a b g t d e n' s' a' b' g' t' d' e' W
            obtain ⟨y, hj⟩ : ∃ y, twoS ⟨n, s, a, b, g, t, d, e⟩ ⟨n', s', a', b', g', t', d', e'⟩ = y := ⟨_, rfl⟩
            rw [hj] at hst
            simp only [hj] at hjj
            obtain ⟨n9, s9, a9, b9, g9, t9, d9, e9⟩ := y
            have HJJ := Lib.hid (fun W => show Calls Try.prog 136 #[.agg #[.int .i64 n, .int .i64 s, .int .i64 a, .int .i64 b, .bool g, .string (text t), .int .i64 d, .int .i64 e], .agg #[.int .i64 n', .int .i64 s', .int .i64 a', .int .i64 b', .bool g', .string (text t'), .int .i64 d', .int .i64 e']] W (Tells (.agg #[.int .i64 n9, .int .i64 s9, .int .i64 a9, .int .i64 b9, .bool g9, .string (text t9), .int .i64 d9, .int .i64 e9]) W) from hjj W)
            have HST := Lib.hid hst
            have HLK := Lib.hid hlk
            have HOW := Lib.hid hoat
            have HSW := Lib.hid (fun W (h : Below wr.heap.size wr W) => row_cells (heap_below HS.out h))
            have HRW := Lib.hid (fun W (h : Below wr.heap.size wr W) => row_cells (heap_below HR.out h))
            have HAT := Lib.hid (fun W (h : Below wr.heap.size wr W) => hat W (HB.out.trans (h.mono HB.out.size)))
            clear hoat hat hck hdk hjj hj hst hzk hzl hlk
            go_upto_region 13 with (fail)
            clear s0 s1
            refine wp_region_flow_tail 14 [none,none,none,none,none,none,none,none,none,none,none,none,none,none,none,none,none,none,none,none,none,none,none,none,none,none,none,none,none,none,none,none,none,none,none,none,none,none,none,none, some 0, some 1, some 2, some 3, some 4, some 5, some 6, some 7, some 8, some 9, some 10, some 11, some 12, some 13, none,none] (fun i => [u40, u41, u42, u43, u44, u45, u46, u47, u48, u49, u50, u51, u52, u53].getD i undef) [(fun v _ => v = .pointer (some ⟨S, 1, none⟩)), (fun v _ => v = .slice (some ⟨g3, 0, none⟩) ma c3), (fun v _ => v = .int .i64 (k : Int)), (fun v _ => v = .pointer (some ⟨S, 1, none⟩)), (fun v _ => v = .slice (some ⟨g3, 0, none⟩) ma c3), (fun v _ => v = .int .i64 (k : Int)), (fun v _ => v = .pointer (some ⟨g3, k * 8, none⟩)), (fun v _ => v = .agg #[.int .i64 n, .int .i64 s, .int .i64 a, .int .i64 b, .bool g, .string (text t), .int .i64 d, .int .i64 e]), (fun v _ => v = .pointer (some ⟨B + 1, 1, none⟩)), (fun v _ => v = .slice (some ⟨bk, off, none⟩) ma capb), (fun v _ => v = .int .i64 (k : Int)), (fun v _ => v = .pointer (some ⟨bk, off + k * 8, none⟩)), (fun v _ => v = .agg #[.int .i64 n', .int .i64 s', .int .i64 a', .int .i64 b', .bool g', .string (text t'), .int .i64 d', .int .i64 e']), (fun v _ => v = .agg #[.int .i64 n9, .int .i64 s9, .int .i64 a9, .int .i64 b9, .bool g9, .string (text t9), .int .i64 d9, .int .i64 e9])] (fun _ => False) (by kernel_rfl) (by kernel_rfl) (by kernel_rfl) rfl rfl rfl ?_ ?_ ?_
            · intro g hg v X Y hX hY hv
              simp only [List.mem_cons, List.not_mem_nil, or_false] at hg
              rcases hg with rfl | rfl | rfl | rfl | rfl | rfl | rfl | rfl | rfl | rfl | rfl | rfl | rfl | rfl
              all_goals first
                | exact hv
                | exact hv.kept hY
            · simp only [flowOpsF, List.take_succ_cons, List.take_zero, and_true]
              refine ⟨?_,?_,?_,?_,?_,?_,?_,?_,?_,?_,?_,?_,?_,?_⟩
              · intro xs W hW hn
                simp only [flowAct, zwc, zwn]
                go_wp2_with (fail)
                exact ⟨rfl, _, rfl, Below.refl _ _, rfl, fun h => h.elim⟩
              · intro xs W hW hn
                obtain ⟨-, f1, -⟩ := HSW.out W hW
                simp [flowNeeds, Region.binds] at hn
                simp only [flowAct, zwc, zwn]
                try simp only [hn]
                go_wp2_with (fail)
                exact ⟨rfl, _, rfl, Below.refl _ _, rfl, fun h => h.elim⟩
              · intro xs W hW hn
                simp only [flowAct, zwc, zwn]
                go_wp2_with (fail)
                exact ⟨rfl, _, rfl, Below.refl _ _, rfl, fun h => h.elim⟩
              · intro xs W hW hn
                simp only [flowAct, zwc, zwn]
                go_wp2_with (fail)
                exact ⟨rfl, _, rfl, Below.refl _ _, rfl, fun h => h.elim⟩
              · intro xs W hW hn
                obtain ⟨-, f1, -⟩ := HSW.out W hW
                simp [flowNeeds, Region.binds] at hn
                simp only [flowAct, zwc, zwn]
                try simp only [hn]
                go_wp2_with (fail)
                exact ⟨rfl, _, rfl, Below.refl _ _, rfl, fun h => h.elim⟩
              · intro xs W hW hn
                simp only [flowAct, zwc, zwn]
                go_wp2_with (fail)
                exact ⟨rfl, _, rfl, Below.refl _ _, rfl, fun h => h.elim⟩
              · intro xs W hW hn
                simp [flowNeeds, Region.binds] at hn
                simp only [flowAct, zwc, zwn]
                try simp only [hn]
                go_wp2_with (fail)
                exact ⟨rfl, _, rfl, Below.refl _ _, rfl, fun h => h.elim⟩
              · intro xs W hW hn
                obtain ⟨p0, p1, p2, p3, p4, p5, p6, p7⟩ := HOW.out W hW
                simp only at p0 p1 p2 p3 p4 p5 p6 p7
                simp [flowNeeds, Region.binds] at hn
                simp only [flowAct, zwc, zwn]
                try simp only [hn]
                go_wp2_with (fail)
                exact ⟨rfl, _, rfl, Below.refl _ _, rfl, fun h => h.elim⟩
              · intro xs W hW hn
                simp only [flowAct, zwc, zwn]
                go_wp2_with (fail)
                exact ⟨rfl, _, rfl, Below.refl _ _, rfl, fun h => h.elim⟩
              · intro xs W hW hn
                obtain ⟨-, f2, -⟩ := HRW.out W hW
                simp [flowNeeds, Region.binds] at hn
                simp only [flowAct, zwc, zwn]
                try simp only [hn]
                go_wp2_with (fail)
                exact ⟨rfl, _, rfl, Below.refl _ _, rfl, fun h => h.elim⟩
              · intro xs W hW hn
                simp only [flowAct, zwc, zwn]
                go_wp2_with (fail)
                exact ⟨rfl, _, rfl, Below.refl _ _, rfl, fun h => h.elim⟩
              · intro xs W hW hn
                simp [flowNeeds, Region.binds] at hn
                simp only [flowAct, zwc, zwn]
                try simp only [hn]
                go_wp2_with (fail)
                exact ⟨rfl, _, rfl, Below.refl _ _, rfl, fun h => h.elim⟩
              · intro xs W hW hn
                obtain ⟨p0, p1, p2, p3, p4, p5, p6, p7⟩ := HAT.out W hW
                simp only at p0 p1 p2 p3 p4 p5 p6 p7
                simp [flowNeeds, Region.binds] at hn
                simp only [flowAct, zwc, zwn]
                try simp only [hn]
                go_wp2_with (fail)
                exact ⟨rfl, _, rfl, Below.refl _ _, rfl, fun h => h.elim⟩
              · intro xs W hW hn
                simp [flowNeeds, Region.binds] at hn
                simp only [flowAct, zwc, zwn]
                simp only [hn]
                go_wp2_with (go_at_call 136; (with_reducible refine (HJJ.out _).mono ?_); rintro e9 w9 ⟨rfl, hb9⟩)
                exact ⟨rfl, _, rfl, hb9, rfl, fun h => h.elim⟩
            · intro xs W hW hall hfr
              clear hfr
              simp only [flowAll, and_true, Nat.zero_add, Nat.reduceAdd] at hall
              obtain ⟨-, y1, y2, -,-,-,-,-,-,-,-,-,-, y13⟩ := hall
              simp only [flowAct, zwc, zwn, List.drop_succ_cons, List.drop_zero]
              simp only [y1, y2, y13]
              have HBx := Lib.hid (HB.out.trans (hW.mono HB.out.size))
              have HOx := Lib.hid (HO.out.kept hW)
              have HSx := Lib.hid (heap_below HS.out hW)
              have HRx := Lib.hid (heap_below HR.out hW)
              have HZx := Lib.hid (heap_below HZ.out hW)
              have pfz := own_fz HOx.out
              obtain ⟨p0, p1, p2, p3, p4, p5, p6, p7⟩ := HOW.out W hW
              simp only at p0 p1 p2 p3 p4 p5 p6 p7
              clear y1 y2 y13 hW
              have hop := own_put HOx.out HLK.out n9 s9 a9 b9 g9 t9 d9 e9
              have hbp := cells_put_below (k := k) HBx.out HG3.out n9 s9 a9 b9 g9 t9 d9 e9
              have hsp := (cells_put_other (W := W) (k := k) HSG.out n9 s9 a9 b9 g9 t9 d9 e9).trans HSx.out
              have hrp := (cells_put_other (W := W) (k := k) HRG.out n9 s9 a9 b9 g9 t9 d9 e9).trans HRx.out
              have hzp := (cells_put_other (W := W) (k := k) HZG.out n9 s9 a9 b9 g9 t9 d9 e9).trans HZx.out
              rw [← HST.out] at hop
              have HFIN := Lib.hid (And.intro hop (And.intro hbp (And.intro hsp (And.intro hrp hzp))))
              clear hop hbp hsp hrp hzp
              go_wp2
              go_roundw
              case rel => exact ⟨k + 1, by omega, by go_num, HFIN.out.1, HFIN.out.2.1, HFIN.out.2.2.1, HFIN.out.2.2.2.1, HFIN.out.2.2.2.2⟩
              case measure => simp [intOf]; omega
          · obtain rfl : k = ma := by omega
            obtain ⟨z0, z1, zf⟩ := row_cells HZ.out
            have HSR := Lib.hid (row_set HZ.out tka (.slice (some ⟨g3, 0, none⟩) k c3))
            go_wp2
            refine bodyPost_ret (res_cell_tmp rfl _ _ (B + 1 + 1) 30 _ (0, 0) _ (.int .i64 0) rfl rfl HSR.out Try.underlying30 rfl (by kernel_rfl)) rfl ?_
            rw [HRR.out, hal]
            refine ⟨_, by rw [HTK.out], ?_, (HB.out.setCell (p := ⟨B + 1 + 1, 0, none⟩) (by have := HBe.out; simp; omega) _).setCell (p := ⟨B + 1 + 1, 1, none⟩) (by have := HBe.out; simp; omega) _⟩
            exact own_set (i := 1) (show (wr.setCell ⟨B + 1 + 1, 0, none⟩ (.string tka)).heap[B + 1 + 1]? = _ from (heap_setCell_same _ _ 0 _ _ _ HZ.out).trans rfl) (by decide) (own_set (i := 0) HZ.out (by decide) HO.out)
    · have h1n : (RB != 0) = true := by simpa using h1
      have HRR := Lib.hid (H2.out (by first | rfl | trivial) h1)
      obtain ⟨z0, z1, zf⟩ := row_cells HZ3.out
      have HSB := Lib.hid (row_set HZ3.out ⟨#[]⟩ (.slice none 0 0))
      clear H1 H2 H3 H4 HIA HIB HUP h1
      go_wp2
      exact bodyPost_ret (res_cell_tmp rfl _ _ (B + 1 + 1) 30 _ (0, 0) _ (.int .i64 RB) rfl rfl HSB.out Try.underlying30 rfl (by kernel_rfl)) rfl (HBAD.out _ HRR.out _ (HX3.out))
  · have h0n : (RA != 0) = true := by simpa using h0
    have HRR := Lib.hid (H1.out h0)
    obtain ⟨z0, z1, zf⟩ := row_cells HZ2.out
    have HSB := Lib.hid (row_set HZ2.out ⟨#[]⟩ (.slice none 0 0))
    clear H1 H2 H3 H4 HIA HIB HUP h0
    go_wp2
    exact bodyPost_ret (res_cell_tmp rfl _ _ (B + 1 + 1) 30 _ (0, 0) _ (.int .i64 RA) rfl rfl HSB.out Try.underlying30 rfl (by kernel_rfl)) rfl (HBAD.out _ HRR.out _ (HX2.out))
end Go.Proofs.Yteffbibmfpdenaa
end

section
namespace Go.Proofs.Yteffbibmfpdenaa
open Go.RowKit Go Go.Sort
set_option linter.unusedVariables false
set_option maxRecDepth 20000

theorem good_t {p : Int} {c : Cl} (h : c.good p = true) : c.t.length ≤ 64 := by
  obtain ⟨n, s, a, b, g, t, d, e⟩ := c
  unfold Cl.good cgoodS at h
  simp only [Bool.and_eq_true, Bool.or_eq_true, Bool.not_eq_true', decide_eq_true_eq] at h
  rcases h.2 with h5 | ⟨-,-,-, h5, -⟩
  · unfold wroteS at h5
    simp only [Bool.or_eq_false_iff, bne_eq_false_iff_eq] at h5
    show t.length ≤ 64
    rw [h5.2.2.2.2.2]; simp
  · exact h5
theorem rgood_short {gs : List Grp} {k : List UInt8} {cs : List Cl} (h : rgoodS gs k cs = 0) : pgoodS gs = 0 ∧ k.length ≤ 32 ∧ cs.length = gs.length ∧ cs.length ≤ 1000000 ∧ ∀ c ∈ cs, c.t.length ≤ 64 := by
  obtain ⟨h1, h2, h3, h4⟩ := rgood_inv h
  have hp := pgood_len h1
  refine ⟨h1, ?_, h3, by omega, fun c hc => ?_⟩
  · unfold keyS at h2
    split at h2
    · cases h2
    · split at h2
      · cases h2
      · omega
  · obtain ⟨i, hi, rfl⟩ := List.getElem_of_mem hc
    have hg := good_at h hi
    have e : cs.getD i Cl.zero = cs[i] := by rw [List.getD_eq_getElem?_getD, List.getElem?_eq_getElem hi]; rfl
    rw [e] at hg
    exact good_t hg
theorem look_first (k : List UInt8) : ∀ (L : List Rw) (q : Nat), q < L.length → (∀ p, p < q → (L.getD p Rw.zero).k ≠ k) → (L.getD q Rw.zero).k = k → look (L.map Rw.pr) k = some (L.getD q Rw.zero).cs
  | [], q, h, _, _ => by simp at h
  | r :: L, 0, _, _, e => by
    show look (r.pr :: L.map Rw.pr) k = _
    rw [look_cons, if_pos (show r.pr.1 = k from e)]; rfl
  | r :: L, q + 1, h, hn, e => by
    show look (r.pr :: L.map Rw.pr) k = _
    rw [look_cons, if_neg (show ¬ r.pr.1 = k from hn 0 (by omega)), look_first k L q (by simpa using h) (fun p hp => hn (p + 1) (by omega)) e]; rfl
theorem look_never (k : List UInt8) (L : List Rw) (h : ∀ p, p < L.length → (L.getD p Rw.zero).k ≠ k) : look (L.map Rw.pr) k = none := by
  rw [look_none_iff]
  intro r hr
  obtain ⟨x, hx, rfl⟩ := List.mem_map.1 hr
  obtain ⟨i, hi, rfl⟩ := List.getElem_of_mem hx
  have := h i hi
  rw [List.getD_eq_getElem?_getD, List.getElem?_eq_getElem hi] at this
  exact this
/-- What Get tells of a row. -/
def GotPost (r : Option (List Cl)) (t : ByteArray) (w : World) (e : Ending) (w' : World) : Prop :=
  (∃ cs a c, r = some cs ∧ e = .returned (.tuple #[.agg #[.string t, .slice a cs.length c], .bool true]) ∧ OwnC w' w.heap.size (.slice a cs.length c) cs ∧ Below w.heap.size w w') ∨
  (r = none ∧ e = .returned (.tuple #[.agg #[.string ⟨#[]⟩, .slice none 0 0], .bool false]) ∧ Below w.heap.size w w')

set_option maxRecDepth 100000 in
set_option maxHeartbeats 6400000 in
theorem rget11_c {w : World} {x : Option Addr} {m cap B0 : Nat} {L : List Rw} (hl : RwsIn w B0 x m cap L) (hz : ∀ r ∈ L, r.cs.length ≤ 1000000) (k : List UInt8) :
    Calls Try.prog 23 #[.slice x m cap, .string (text k)] w (GotPost (look (L.map Rw.pr) k) (text k) w) := by
  have hll := hl.1.len
  have hle := hl.1.le
  have hmax := hl.1.max
  obtain ⟨RV, hRV⟩ : ∃ z, look (L.map Rw.pr) k = z := ⟨_, rfl⟩
  rw [hRV]
  have HF := Lib.hid (fun q (hq : q < m) (h1 : ∀ p, p < q → (L.getD p Rw.zero).k ≠ k) (h2 : (L.getD q Rw.zero).k = k) => hRV.symm.trans (look_first k L q (by omega) h1 h2))
  have HNV := Lib.hid (fun (h : ∀ p, p < m → (L.getD p Rw.zero).k ≠ k) => hRV.symm.trans (look_never k L (fun p hp => h p (by omega))))
  have HL := Lib.hid hl
  have HZ0 := Lib.hid (fun q (hq : q < m) => hz _ (rw_mem (L := L) (k := q) (by omega)))
  obtain ⟨tk, htk⟩ : ∃ z, text k = z := ⟨_, rfl⟩
  rw [htk]
  have HTK := Lib.hid htk
  have hb := alloc_below w (.cells #[.string ⟨#[]⟩, .slice none 0 0] 30)
  have hr := heap_alloc_new w (.cells #[.string ⟨#[]⟩, .slice none 0 0] 30)
  have hsz : (w.alloc (.cells #[.string ⟨#[]⟩, .slice none 0 0] 30)).heap.size = w.heap.size + 1 := by simp
  clear hRV hl hz htk hll
  go_enter Try.func23, Try.ntmps23
  go_upto_region 1 with (fail)
  obtain ⟨B, hB⟩ : ∃ q, w.heap.size = q := ⟨_, rfl⟩
  have HBe := Lib.hid hB
  rw [hB] at hr hsz ⊢
  clear hB
  generalize w.alloc (.cells #[.string ⟨#[]⟩, .slice none 0 0] 30) = W1 at *
  have HSZ := Lib.hid hsz
  have HB1 := Lib.hid hb
  have HR1 := Lib.hid hr
  clear hb hr hsz
  go_wp2
  go_loopw [6] (fun j wr => ∃ q : Nat, q ≤ m ∧ j = .int .i64 (q : Int) ∧ (∀ p, p < q → (L.getD p Rw.zero).k ≠ k) ∧ Below W1.heap.size W1 wr) (fun j _ => m - (intOf j).toNat)
  case atStart => exact ⟨0, by omega, rfl, fun p hp => absurd hp (by omega), Below.refl _ _⟩
  case round =>
    obtain ⟨q, hq, rfl, hne, hbx⟩ := hrel
    have HNEV := Lib.hid hne
    have HBx := Lib.hid hbx
    have hz2 := heap_below HR1.out hbx
    clear hne hbx
    by_cases hlq : q < m
    · have hqi : (q : Int) < (m : Int) := by omega
      have hqc : (q : Int) < (cap : Int) := by omega
      obtain ⟨bo, offo, ao, no, co, rfl, eu, eno, hco, hro, hat⟩ := HL.out.place hlq
      have HF2 := Lib.hid (fun h2 => HF.out q hlq HNEV.out h2)
      have hnl := HZ0.out q hlq
      have HNX := Lib.hid (fun (h2 : (L.getD q Rw.zero).k ≠ k) p (hp : p < q + 1) => (show (L.getD p Rw.zero).k ≠ k from if e : p = q then e ▸ h2 else HNEV.out p (by omega)))
      obtain ⟨y, hy⟩ : ∃ y, L.getD q Rw.zero = y := ⟨_, rfl⟩
      rw [hy] at hat eu eno hro hco HF2 HNX hnl
      obtain ⟨ko, uo, cso⟩ := y
      simp only at hat eu eno hco hnl
      subst eu
      obtain ⟨to, hto⟩ : ∃ z, text ko = z := ⟨_, rfl⟩
      rw [hto] at hat
      have hte := text_eqb ko k
      rw [hto, HTK.out] at hte
      have HCP := Lib.hid (rcopy_c (hco.below (HB1.out.trans (HBx.out.mono HB1.out.size))) (by omega) to)
      have HTO := Lib.hid hto
      obtain ⟨o0, o1⟩ := hat _ (HB1.out.trans (HBx.out.mono HB1.out.size))
      obtain ⟨z0, z1, zf⟩ := row_cells hz2
      have HZ2 := Lib.hid hz2
      have HCO := Lib.hid hro
      clear hat hy hto hro hco hz2 eno hnl
      by_cases he : ko = k
      · subst he
        have hE : (ko == ko) = true := by simp
        rw [hE] at hte
        have HRR := Lib.hid (HF2.out rfl)
        clear HF2 HNX HNV HF
        go_wp2_with (go_at_call 48; (with_reducible refine HCP.out.mono ?_); rintro e9 w9 ⟨v9, rfl, ho9, hb9⟩; obtain ⟨a9, c9, rfl, -⟩ := ho9.cls; have hz9 := heap_below HZ2.out hb9; have HO9 := Lib.hid ho9; have HB9 := Lib.hid hb9; have HZ9 := Lib.hid hz9; clear ho9 hb9 z0 z1 zf; obtain ⟨z0, z1, zf⟩ := row_cells hz9; clear hz9)
        refine bodyPost_ret (res_cell_tmp rfl _ _ B 30 _ (0, 0) _ (.bool true) rfl rfl (row_set HZ9.out to (.slice a9 cso.length c9)) Try.underlying30 rfl (by kernel_rfl)) rfl ?_
        refine .inl ⟨_, _, _, HRR.out, by rw [← HTO.out, HTK.out], ?_,?_⟩
        · exact own_set (i := 1) (show (w9.setCell ⟨B, 0, none⟩ (.string to)).heap[B]? = _ from (heap_setCell_same _ _ 0 _ _ _ HZ9.out).trans rfl) (by decide) (own_set (i := 0) HZ9.out (by decide) (HO9.out.mono (Nat.le_trans HB1.out.size HBx.out.size)))
        · exact ((((HB1.out.trans (HBx.out.mono HB1.out.size)).trans (HB9.out.mono (Nat.le_trans HB1.out.size HBx.out.size))).setCell (p := ⟨B, 0, none⟩) (by have := HBe.out; simp; omega) _).setCell (p := ⟨B, 1, none⟩) (by have := HBe.out; simp; omega) _)
      · have hE : (ko == k) = false := by simp [he]
        rw [hE] at hte
        have HNN := Lib.hid (HNX.out he)
        clear HF2 HNX HCP
        go_wp2
        go_roundw
        case rel => exact ⟨q + 1, by omega, by go_num, HNN.out, HBx.out⟩
        case measure => simp [intOf]; omega
    · obtain rfl : m = q := by omega
      have HRR := Lib.hid (HNV.out HNEV.out)
      obtain ⟨z0, z1, zf⟩ := row_cells hz2
      have HZ2 := Lib.hid hz2
      clear hz2 HNV HF
      go_wp2
      refine bodyPost_ret (res_cell_tmp rfl _ _ B 30 _ (0, 0) _ (.bool false) rfl rfl (row_set HZ2.out ⟨#[]⟩ (.slice none 0 0)) Try.underlying30 rfl (by kernel_rfl)) rfl ?_
      exact .inr ⟨HRR.out, rfl, (((HB1.out.trans (HBx.out.mono HB1.out.size)).setCell (p := ⟨B, 0, none⟩) (by have := HBe.out; simp; omega) _).setCell (p := ⟨B, 1, none⟩) (by have := HBe.out; simp; omega) _)⟩
theorem with_few {gs : List Grp} {R : List Rp} (h : KAsc Op.bytesLess R) (r : Rp) : (withK Op.bytesLess opC bareS R r).length ≤ R.length + 1 := by
  have key : ∀ y : Rp, (insK Op.bytesLess R y).length ≤ R.length + 1 := fun y => by
    have e := setR_eq strictT (Prod.fst : Rp → List UInt8) ([], []) y R h
    have := setR_few (lt := Op.bytesLess) (Prod.fst : Rp → List UInt8) ([], []) y R
    rw [e] at this
    exact this
  unfold withK
  split
  · omega
  · split
    · exact key _
    · exact key _
/-- What With tells. -/
def WithPost (R : List Rp) (B0 : Nat) (w : World) (e : Ending) (w' : World) : Prop := ∃ a m cap NN, e = .returned (.slice a m cap) ∧ NN.map Rw.pr = R ∧ RwsIn w' B0 a m cap NN ∧ Below w.heap.size w w'
theorem with_bare {R : List Rp} {k : List UInt8} {u : List Cl} (h : bareS u = true) : withK Op.bytesLess opC bareS R (k, u) = R := by unfold withK; rw [if_pos h]
theorem with_old {R : List Rp} {k : List UInt8} {u old : List Cl} (h : bareS u = false) (hs : KAsc Op.bytesLess R) (ho : look R k = some old) : withK Op.bytesLess opC bareS R (k, u) = setR Op.bytesLess Prod.fst ([], []) (k, zipN old u old.length) R := by
  unfold withK
  rw [if_neg (by rw [h]; decide)]
  simp only [ho]
  rw [setR_eq strictT _ _ _ _ hs]
  rfl
theorem with_new {R : List Rp} {k : List UInt8} {u : List Cl} (h : bareS u = false) (hs : KAsc Op.bytesLess R) (ho : look R k = none) : withK Op.bytesLess opC bareS R (k, u) = setR Op.bytesLess Prod.fst ([], []) (k, u) R := by
  unfold withK
  rw [if_neg (by rw [h]; decide)]
  simp only [ho]
  rw [setR_eq strictT _ _ _ _ hs]
  rfl

set_option maxRecDepth 100000 in
set_option maxHeartbeats 6400000 in
theorem rwith_c {w : World} {x xl x2 : Option Addr} {n1 cap m capl n2 c2 B0 : Nat} {gs : List Grp} {L : List Rw} {cs : List Cl} (hg : Grs w x n1 cap gs) (hs : ∀ g ∈ gs, g.1.length ≤ 9223372036854775807) (hl : RwsIn w B0 xl m capl L) (hB0 : B0 ≤ w.heap.size) (hm : m ≤ 1000000)
    (hgd : ∀ r ∈ L, rgoodS gs r.k r.cs = 0) (hasc : KAsc Op.bytesLess (L.map Rw.pr)) (hc : Cls w x2 n2 c2 cs) (kr : List UInt8) (hgr : rgoodS gs kr cs = 0) :
    Calls Try.prog 91 #[.slice x n1 cap, .slice xl m capl, .agg #[.string (text kr), .slice x2 n2 c2]] w (WithPost (withK Op.bytesLess opC bareS (L.map Rw.pr) (kr, cs)) B0 w) := by
  have hcl := hc.len
  obtain ⟨-, hk32, -, hcs6, hct⟩ := rgood_short hgr
  have hn2 : n2 ≤ 1000000 := by omega
  have HBR := Lib.hid (fun W (h : Below w.heap.size w W) => rbare_c (hc.below h) (text kr))
  have HGT := Lib.hid (fun W (h : Below w.heap.size w W) => rget11_c (hl.below h) (fun r hr => (rgood_short (hgd r hr)).2.2.2.1) kr)
  have HJN := Lib.hid (fun (old : List Cl) (ho : look (L.map Rw.pr) kr = some old) W (h : Below w.heap.size w W) (u : Option Addr) (n c : Nat) (hu : Cls W u n c old) => (show Calls Try.prog 117 #[.slice x n1 cap, .agg #[.string (text kr), .slice u n c], .agg #[.string (text kr), .slice x2 n2 c2]] W (RowPost (kr, zipN old cs old.length, 0) W) from by
    have hgo : rgoodS gs kr old = 0 := by
      have h1 := look_mem ho
      obtain ⟨r, hr, e⟩ := List.mem_map.1 h1
      have h2 := hgd r hr
      have e1 : r.k = kr := congrArg Prod.fst e
      have e2 : r.cs = old := congrArg Prod.snd e
      rw [e1, e2] at h2
      exact h2
    have hj := rrowjoin_c (hg.below h) hs hu (fun c hc => Nat.le_trans ((rgood_short hgo).2.2.2.2 c hc) (by omega)) kr (by omega) (hc.below h) (fun c hc => Nat.le_trans (hct c hc) (by omega)) kr (by omega)
    rw [join_yes hgo hgr rfl] at hj
    exact hj))
  have HOL := Lib.hid (fun (old : List Cl) (ho : look (L.map Rw.pr) kr = some old) => (show old.length ≤ 1000000 from by
    have h1 := look_mem ho
    obtain ⟨r, hr, e⟩ := List.mem_map.1 h1
    have h2 := (rgood_short (hgd r hr)).2.2.2.1
    have e2 : r.cs = old := congrArg Prod.snd e
    rw [e2] at h2
    exact h2))
  have HST := Lib.hid (fun W (h : Below w.heap.size w W) (u : Option Addr) (n c : Nat) (cs' : List Cl) (hu : Cls W u n c cs') (hn : n ≤ 1000000) => rset_c (hl.below h) (Nat.le_trans hB0 h.size) hm hu hn kr)
  have HL := Lib.hid hl
  have HC := Lib.hid hc
  have HW0 := Lib.hid (fun h => @with_bare (L.map Rw.pr) kr cs h)
  have HW1 := Lib.hid (fun h old ho => @with_old (L.map Rw.pr) kr cs old h hasc ho)
  have HW2 := Lib.hid (fun h ho => @with_new (L.map Rw.pr) kr cs h hasc ho)
  obtain ⟨RV, hRV⟩ : ∃ z, withK Op.bytesLess opC bareS (L.map Rw.pr) (kr, cs) = z := ⟨_, rfl⟩
  rw [hRV] at HW0 HW1 HW2 ⊢
  obtain ⟨tr, htr⟩ : ∃ z, text kr = z := ⟨_, rfl⟩
  simp only [htr] at HBR HGT HJN HST ⊢
  have HTR := Lib.hid htr
  have hb := alloc_below w (.cells #[.string tr, .slice x2 n2 c2] 30)
  have hr := heap_alloc_new w (.cells #[.string tr, .slice x2 n2 c2] 30)
  clear hRV htr hl hc hg hgd hasc hgr hct hcs6 hs
  go_enter Try.func91, Try.ntmps91
  go_upto_region 1 with (fail)
  obtain ⟨B, hB⟩ : ∃ q, w.heap.size = q := ⟨_, rfl⟩
  have HBe := Lib.hid hB
  rw [hB] at hr ⊢
  clear hB
  generalize w.alloc (.cells #[.string tr, .slice x2 n2 c2] 30) = W1 at *
  have HB1 := Lib.hid hb
  have HR1 := Lib.hid hr
  obtain ⟨r0, r1, -⟩ := row_cells hr
  clear hb hr
  have HB1' := Lib.hid (HBR.out _ HB1.out)
  obtain ⟨BR, hBR⟩ : ∃ z, bareS cs = z := ⟨_, rfl⟩
  rw [hBR] at HW0 HW1 HW2 HB1'
  clear hBR HBR
  cases BR with
  | true =>
    have HRR := Lib.hid (HW0.out (by first | rfl | trivial))
    clear HW0 HW1 HW2 HGT HJN HST
    go_wp2_with (go_at_call 69; (with_reducible refine HB1'.out.mono ?_); rintro e9 w9 ⟨rfl, hb9⟩)
    go_ret
    exact ⟨_, _, _, L, rfl, HRR.out.symm, HL.out.below (HB1.out.trans (hb9.mono HB1.out.size)), HB1.out.trans (hb9.mono HB1.out.size)⟩
  | false =>
    go_upto_region 3 with (go_at_call 69; (with_reducible refine HB1'.out.mono ?_); rintro e9 w9 ⟨rfl, hb9⟩; have HX9 := Lib.hid hb9; clear hb9)
    have HB9 := Lib.hid (HB1.out.trans (HX9.out.mono HB1.out.size))
    have HR9 := Lib.hid (heap_below HR1.out HX9.out)
    clear r0 r1 HB1' HX9 HB1 HR1 HW0
    obtain ⟨r0, r1, -⟩ := row_cells HR9.out
    go_upto_region 4 with (go_at_call 23; (with_reducible refine (HGT.out _ HB9.out).mono ?_); rintro e9 wa hgot; rcases hgot with ⟨old, aa, ca, hlo, rfl, hoa, hba⟩ | ⟨hlo, rfl, hba⟩)
    · have hla := alloc_below wa (.cells #[.string tr, .slice aa old.length ca] 30)
      have HOA := Lib.hid (hoa.kept hla)
      have HRA := Lib.hid (heap_below (heap_below HR9.out hba) hla)
      have HBA := Lib.hid ((HB9.out.trans (hba.mono HB9.out.size)).trans (hla.mono (Nat.le_trans HB9.out.size hba.size)))
      have HNA := Lib.hid (heap_alloc_new wa (.cells #[.string tr, .slice aa old.length ca] 30))
      obtain ⟨A, hA⟩ : ∃ q, wa.heap.size = q := ⟨_, rfl⟩
      rw [hA] at HNA ⊢
      generalize wa.alloc (.cells #[.string tr, .slice aa old.length ca] 30) = WA at *
      clear hla hoa hba hA r0 r1 HR9 HB9 HGT HW2
      obtain ⟨r0, r1, -⟩ := row_cells HRA.out
      obtain ⟨n0, n1', -⟩ := row_cells HNA.out
      have HRR := Lib.hid (HW1.out (by first | rfl | trivial) old hlo)
      have HOLL := Lib.hid (HOL.out old hlo)
      have HJ := Lib.hid (HJN.out old hlo WA HBA.out)
      clear HW1 HJN hlo HOL
      obtain ⟨a9, c9, e9, hcl9⟩ := HOA.out.cls
      injection e9 with e9a e9b e9c
      subst e9a e9c
      have HJ2 := Lib.hid (HJ.out _ _ _ hcl9)
      clear HJ hcl9 e9b
      go_upto_region 6 with (go_at_call 117; (with_reducible refine HJ2.out.mono ?_); rintro e9 wb ⟨vb, rfl, hob, hbb⟩; obtain ⟨ab, cb, rfl, hclb⟩ := hob.cls; simp only [HTR.out])
      have hlb := alloc_below wb (.cells #[.string tr, .slice ab (zipN old cs old.length).length cb] 30)
      have HNB := Lib.hid (heap_alloc_new wb (.cells #[.string tr, .slice ab (zipN old cs old.length).length cb] 30))
      have HBB := Lib.hid ((HBA.out.trans (hbb.mono HBA.out.size)).trans (hlb.mono (Nat.le_trans HBA.out.size hbb.size)))
      have HSB := Lib.hid (HST.out _ HBB.out _ _ _ _ (hclb.below hlb) (by rw [zipN_len]; exact HOLL.out))
      obtain ⟨Bb, hBb⟩ : ∃ q, wb.heap.size = q := ⟨_, rfl⟩
      rw [hBb] at HNB ⊢
      generalize wb.alloc (.cells #[.string tr, .slice ab (zipN old cs old.length).length cb] 30) = WB at *
      clear hlb hob hbb hclb hBb r0 r1 n0 n1' HRA HBA HNA HST HJ2 HOA
      obtain ⟨n0, n1', -⟩ := row_cells HNB.out
      go_wp2_with (go_at_call 18; (with_reducible refine HSB.out.mono ?_); rintro e9 wc ⟨vc, NN, rfl, hpr, hoc, hbc⟩)
      go_ret
      obtain ⟨a5, c5, rfl, h5⟩ := hoc.ins
      exact ⟨_, _, _, NN, rfl, by rw [HRR.out]; exact hpr, h5, HBB.out.trans (hbc.mono HBB.out.size)⟩
    · have hla := alloc_below wa (.cells #[.string ⟨#[]⟩, .slice none 0 0] 30)
      have HRA := Lib.hid (heap_below (heap_below HR9.out hba) hla)
      have HBA := Lib.hid ((HB9.out.trans (hba.mono HB9.out.size)).trans (hla.mono (Nat.le_trans HB9.out.size hba.size)))
      have HRR := Lib.hid (HW2.out (by first | rfl | trivial) hlo)
      generalize wa.alloc (.cells #[.string ⟨#[]⟩, .slice none 0 0] 30) = WA at *
      clear hla hba r0 r1 HR9 HB9 HGT HW1 HW2 HJN
      obtain ⟨r0, r1, -⟩ := row_cells HRA.out
      have HSA := Lib.hid (HST.out _ HBA.out _ _ _ _ (HC.out.below HBA.out) hn2)
      go_wp2_with (go_at_call 18; (with_reducible refine HSA.out.mono ?_); rintro e9 wc ⟨vc, NN, rfl, hpr, hoc, hbc⟩)
      go_ret
      obtain ⟨a5, c5, rfl, h5⟩ := hoc.ins
      exact ⟨_, _, _, NN, rfl, by rw [HRR.out]; exact hpr, h5, HBA.out.trans (hbc.mono HBA.out.size)⟩

set_option maxRecDepth 100000 in
set_option maxHeartbeats 6400000 in
theorem rjoined_c {w : World} {x xa xb : Option Addr} {n1 cap ma capa mb capb B0 : Nat} {gs : List Grp} {LA LB : List Rw} (hg : Grs w x n1 cap gs) (hs : ∀ g ∈ gs, g.1.length ≤ 9223372036854775807) (ha : RwsIn w B0 xa ma capa LA) (hB0 : B0 ≤ w.heap.size) (hb : RwsAt w xb mb capb LB) (hm : ma + mb ≤ 1000000)
    (hga : ∀ r ∈ LA, rgoodS gs r.k r.cs = 0) (hasc : KAsc Op.bytesLess (LA.map Rw.pr)) (hgb : ∀ r ∈ LB, rgoodS gs r.k r.cs = 0) :
    Calls Try.prog 64 #[.slice x n1 cap, .slice xa ma capa, .slice xb mb capb] w (WithPost (joinedK Op.bytesLess opC bareS (LA.map Rw.pr) (LB.map Rw.pr)) B0 w) := by
  have hbl := hb.1.len
  have hble := hb.1.le
  have hbmx := hb.1.max
  have hal := ha.1.len
  have HJ := Lib.hid (show joinedK Op.bytesLess opC bareS (LA.map Rw.pr) (LB.map Rw.pr) = ((LB.take mb).map Rw.pr).foldl (withK Op.bytesLess opC bareS) (LA.map Rw.pr) by rw [← hbl, List.take_length]; rfl)
  obtain ⟨J, hJ⟩ : ∃ J : Nat → List Rp, J = fun i => ((LB.take i).map Rw.pr).foldl (withK Op.bytesLess opC bareS) (LA.map Rw.pr) := ⟨_, rfl⟩
  have HJ0 := Lib.hid (show J 0 = LA.map Rw.pr by rw [hJ]; rfl)
  have HJm := Lib.hid (show joinedK Op.bytesLess opC bareS (LA.map Rw.pr) (LB.map Rw.pr) = J mb by rw [hJ]; exact HJ.out)
  have HJS := Lib.hid (fun i (hi : i < mb) => (show J (i + 1) = withK Op.bytesLess opC bareS (J i) ((LB.getD i Rw.zero).k, (LB.getD i Rw.zero).cs) by
    rw [hJ]
    simp only
    rw [List.take_add_one, List.getElem?_eq_getElem (by omega), List.getD_eq_getElem?_getD, List.getElem?_eq_getElem (by omega)]
    simp only [Option.toList_some, List.map_append, List.foldl_append, List.map_cons, List.map_nil, List.foldl_cons, List.foldl_nil, Option.getD_some]
    rfl))
  -- what each stage is
  have hgood : ∀ i, i ≤ mb → KAsc Op.bytesLess (J i) ∧ (∀ r ∈ J i, rgoodS gs r.1 r.2 = 0) ∧ (J i).length ≤ ma + i := by
    intro i
    induction i with
    | zero => intro _; rw [HJ0.out]; exact ⟨hasc, fun r hr => by obtain ⟨y, hy, rfl⟩ := List.mem_map.1 hr; exact hga y hy, by rw [List.length_map]; omega⟩
    | succ i ih =>
      intro hi
      obtain ⟨h1, h2, h3⟩ := ih (by omega)
      rw [HJS.out i (by omega)]
      have hgi := hgb _ (rw_mem (L := LB) (k := i) (by omega))
      refine ⟨with_asc strictT _ _ h1 _, fun r hr => ?_, Nat.le_trans (with_few (gs := gs) h1 _) (by omega)⟩
      cases hbr : bareS (LB.getD i Rw.zero).cs with
      | true => rw [with_bare hbr] at hr; exact h2 r hr
      | false =>
        have hl := with_look strictT opC bareS (J i) ((LB.getD i Rw.zero).k, (LB.getD i Rw.zero).cs) hbr r.1
        have h5 := mem_look strictT (with_asc strictT opC bareS h1 ((LB.getD i Rw.zero).k, (LB.getD i Rw.zero).cs)) (show (r.1, r.2) ∈ _ from hr)
        rw [h5] at hl
        split at hl
        · rename_i e
          simp only at e
          cases ho : look (J i) r.1 with
          | none =>
            rw [ho] at hl
            simp only [jn, Option.some.injEq] at hl
            rw [hl, ← e]; exact hgi
          | some u =>
            rw [ho] at hl
            simp only [jn, Option.some.injEq] at hl
            rw [hl, ← e]
            have := h2 _ (look_mem ho)
            simp only at this
            rw [← e] at this
            exact zip_good this hgi
        · exact h2 _ (look_mem hl.symm)
  have HGOOD := Lib.hid hgood
  have HWT := Lib.hid (fun W (h : Below w.heap.size w W) (a : Option Addr) (m c : Nat) (NN : List Rw) (hn : RwsIn W B0 a m c NN) (i : Nat) (hi : i < mb) (he : NN.map Rw.pr = J i) (u : Option Addr) (n' c' : Nat) (hu : Cls W u n' c' (LB.getD i Rw.zero).cs) =>
    (show Calls Try.prog 91 #[.slice x n1 cap, .slice a m c, .agg #[.string (text (LB.getD i Rw.zero).k), .slice u n' c']] W (WithPost (J (i + 1)) B0 W) from by
      have h9 := hgood i (by omega)
      rw [HJS.out i hi, ← he]
      refine rwith_c (hg.below h) hs hn (Nat.le_trans hB0 h.size) ?_ (fun r hr => ?_) (by rw [he]; exact h9.1) hu _ (hgb _ (rw_mem (by omega)))
      · have e1 := congrArg List.length he
        rw [List.length_map, hn.1.len] at e1
        omega
      · exact h9.2.1 r.pr (by rw [← he]; exact List.mem_map_of_mem hr)))
  have HB := Lib.hid hb
  have HA := Lib.hid ha
  rw [HJm.out]
  clear HJ hJ hgood hga hasc hgb hg hs hb ha HGOOD
  go_enter Try.func64, Try.ntmps64
  go_wp2
  go_loopw [7, 8] (fun o j wr => ∃ (i : Nat) (a : Option Addr) (m c : Nat) (NN : List Rw), i ≤ mb ∧ j = .int .i64 (i : Int) ∧ o = .slice a m c ∧ NN.map Rw.pr = J i ∧ RwsIn wr B0 a m c NN ∧ Below w.heap.size w wr) (fun _ j _ => mb - (intOf j).toNat)
  case atStart => exact ⟨0, _, _, _, LA, by omega, rfl, rfl, HJ0.out.symm, HA.out, Below.refl _ _⟩
  case round =>
    obtain ⟨i, a, m, c, NN, hi, rfl, rfl, hpr, hn, hbx⟩ := hrel
    have HPR := Lib.hid hpr
    have HN := Lib.hid hn
    have HBX := Lib.hid hbx
    clear hpr hn hbx
    by_cases hlt : i < mb
    · have hii : (i : Int) < (mb : Int) := by omega
      have hic : (i : Int) < (capb : Int) := by omega
      obtain ⟨bb, offb, ab, nb, cb, rfl, eu, enb, hcb, hat⟩ := HB.out.place hlt
      obtain ⟨o0, o1⟩ := hat _ HBX.out
      have HC := Lib.hid (HWT.out wr HBX.out _ _ _ NN HN.out i hlt HPR.out _ _ _ (hcb.below HBX.out))
      obtain ⟨tb, htb⟩ : ∃ z, text (LB.getD i Rw.zero).k = z := ⟨_, rfl⟩
      rw [htb] at o0
      simp only [htb] at HC
      clear hat hcb eu enb htb HN
      go_wp2_with (go_at_call 91; (with_reducible refine HC.out.mono ?_); rintro e9 w9 ⟨a9, m9, c9, N9, rfl, hp9, hn9, hb9⟩)
      go_roundw
      case rel => exact ⟨i + 1, _, _, _, N9, by omega, by go_num, rfl, hp9, hn9, HBX.out.trans (hb9.mono HBX.out.size)⟩
      case measure => simp [intOf]; omega
    · obtain rfl : mb = i := by omega
      go_wp2
      go_ret
      exact ⟨_, _, _, NN, rfl, HPR.out, HN.out, HBX.out⟩
end Go.Proofs.Yteffbibmfpdenaa
end

section
namespace Go.Proofs.Yteffbibmfpdenaa
open Go.RowKit Go Go.Sort
set_option linter.unusedVariables false
set_option maxRecDepth 20000

/-- append of rows that lie in memory. -/
theorem Ls.src {W : World} {a : Option Addr} {n cap : Nat} {L : List Rw} (h : Ls 2 Rw.arr Rw.zero W a n cap L) : n = 0 ∨ ∃ b off, a = some ⟨b, off, none⟩ ∧ ∀ j v, (lCells Rw.arr L)[j]? = some v → W.cell? ((⟨b, off, none⟩ : Addr).add j) = some v := by
  by_cases hn : n = 0
  · exact .inl hn
  · right
    rcases h.adr with h4 | ⟨b, off, rfl, hat⟩
    · have := h.le; omega
    · refine ⟨b, off, rfl, fun j v hj => ?_⟩
      have hjl : j < L.length * 2 := by
        have := (List.getElem?_eq_some_iff.1 hj).1
        rwa [lCells_length (sz := 2) rw_size] at this
      have e := lCells_get (z := Rw.zero) rw_size L (j / 2) (j % 2) (by omega) (Nat.mod_lt _ (by omega))
      rw [show j / 2 * 2 + j % 2 = j by omega, hj] at e
      have := hat (j / 2) (by have := h.len; omega) (j % 2) v e.symm
      rw [addr_add]
      rw [show off + j / 2 * 2 + j % 2 = off + j by omega] at this
      exact this
theorem rwcells_one (L : List Rw) (h : ∀ j, j < L.length → ∃ a n c, (L.getD j Rw.zero).u = .slice a n c) : ∀ v ∈ lCells Rw.arr L, v.oneCell' = true := by
  intro v hv
  obtain ⟨r, hr, hv⟩ := List.mem_flatMap.1 hv
  obtain ⟨j, hj, rfl⟩ := List.getElem_of_mem hr
  obtain ⟨a, n, c, e⟩ := h j hj
  rw [List.getD_eq_getElem?_getD, List.getElem?_eq_getElem hj] at e
  have e : (L[j]).u = .slice a n c := e
  have hv : v ∈ [Value.string (text (L[j]).k), (L[j]).u] := hv
  rw [e] at hv
  simp only [List.mem_cons, List.not_mem_nil, or_false] at hv
  rcases hv with rfl | rfl <;> rfl
theorem wpList_append_rws {w : World} {ops : Array Oper} {rest : List Oper} {o : Oper} {ac : Act} {Q : Exit → Act → World → Prop} (hgd : o.guard = none) (os ox : Operand)
    (ho : o.op = .call { callee := .builtin .append, args := #[os, ox], argTypes := #[27, 27] })
    {base : Nat} {u : Value} {l M : List Rw} (hs : ac.eval os = u) (hown : OwnL 2 30 Rw.arr w base u l) {a : Option Addr} {cap : Nat} (hx : ac.eval ox = .slice a M.length cap) (hm : RwsAt w a M.length cap M) (h63 : l.length + M.length ≤ 1000000000) (hbase : base ≤ w.heap.size)
    (h : ∀ v' w', OwnL 2 30 Rw.arr w' base v' (l ++ M) → w.grownBy w' u.ownBlock → wpList Try.prog ops Q rest (ac.put o.dst v') w') :
    wpList Try.prog ops Q (o :: rest) ac w := by
  obtain ⟨i0, hi, hz0, hz1, hz2⟩ := info_parts Try.infoRw
  rcases hm.1.src with hz | ⟨b, off, rfl, hsrc⟩
  · have hM : M = [] := List.eq_nil_of_length_eq_zero hz
    subst hM
    refine wpList_plain hgd fun K hK => ?_
    have hsr : Src Try.prog i0.size 27 (.slice a 0 cap) 0 [] w := by
      cases a with
      | none => exact Src.ofNil w Try.underlying27 cap
      | some a => exact Src.ofSlice w Try.underlying27 a 0 cap [] (by simp) (by simp) (by simp)
    rcases hown.2 with ⟨rfl, hn0⟩ | ⟨g, cp, cur, rfl, hB, hgg, hnc, hcm, hcs, htk⟩
    · have hr := run_append_zero (P := Try.prog) w 27 27 o.type 30 i0 Try.underlying27 hi (.slice a 0 cap) hsr
      unfold Oper.wp execOp
      simp only [ho, resolve, invoke, builtin, Sem.run_bind, Sem.run_pure, Result.andThen_ok, List.map_toArray, List.map_cons, List.map_nil, hs, hx, List.length_nil, hr]
      exact hK _ _ (h _ _ (by rw [List.append_nil]; exact hown) (World.grownBy.refl _ _))
    · have hr := run_append_room_src (P := Try.prog) (w := w) 27 27 o.type 30 i0 Try.underlying27 hi g 0 l.length cp (.slice a 0 cap) 0 [] hsr (by omega) (fun j hj => absurd hj (by simp)) (fun j hj => absurd hj (by simp))
      have hw : w.setCells g (0 + l.length * i0.size) [] = w := by simp [World.setCells]
      rw [hw] at hr
      unfold Oper.wp execOp
      simp only [ho, resolve, invoke, builtin, Sem.run_bind, Sem.run_pure, Result.andThen_ok, List.map_toArray, List.map_cons, List.map_nil, hs, hx, List.length_nil, hr]
      exact hK _ _ (h _ _ (by rw [List.append_nil]; exact hown) (World.grownBy.refl _ _))
  · refine wpList_append_own_wide (P := Try.prog) w hgd os ox 27 ho base 30 i0 _ 2 40 Try.underlying27 hi hz0 hz1 hz2 rfl (by decide) u l.length (lCells Rw.arr l) hs hown
      ⟨b, off, none⟩ M.length cap (lCells Rw.arr M) hx (by rw [lCells_length (sz := 2) rw_size]) hsrc (rwcells_one M fun j hj => by obtain ⟨a', c', e, -⟩ := hm.2 j hj; exact ⟨_, _, _, e⟩) (by unfold maxLen; omega) (by omega) hbase ?_
    intro v' w' h2 h3 _
    refine h v' w' ?_ h3
    unfold OwnL
    rw [List.length_append, lCells_append]
    exact h2
theorem wrote_row {W : World} {q : Nat} {k0 : ByteArray} {v0 : Value} (h : W.heap[q]? = some (.cells #[.string k0, v0] 30 (0, 0))) (k : ByteArray) (v : Value) : Wrote q #[.string k, v] 30 W ((W.setCell ⟨q, 0, none⟩ (.string k)).setCell ⟨q, 1, none⟩ v) := by
  have hx := ((Below.refl 0 W).setCell (p := ⟨q, 0, none⟩) (Nat.zero_le _) (.string k)).setCell (p := ⟨q, 1, none⟩) (Nat.zero_le _) v
  refine ⟨hx.os, hx.tape, hx.output, hx.size, row_set h k v, fun j hj hne => ?_⟩
  rw [heap_setCell_other _ _ _ _ (by exact hne), heap_setCell_other _ _ _ _ (by exact hne)]
def lenV : Value → Nat | .slice _ n _ => n | _ => 0
def MergePost (R : List Rp) (n1 : Nat) (w : World) (e : Ending) (w' : World) : Prop := ∃ v NN, e = .returned v ∧ NN.map Rw.pr = R ∧ OwnRw w' w.heap.size n1 v NN ∧ Below w.heap.size w w'
/-- What a join tells, told by its value. -/
def JTup (base : Nat) (t : ByteArray) (cs : List Cl) (v : Value) (W : World) : Prop := ∃ a c, v = .tuple #[.agg #[.string t, .slice a cs.length c], .int .i64 0] ∧ OwnC W base (.slice a cs.length c) cs
theorem JTup.kept {base : Nat} {t : ByteArray} {cs : List Cl} {v : Value} {X Y : World} (h : JTup base t cs v X) (hb : Below X.heap.size X Y) : JTup base t cs v Y := by
  obtain ⟨a, c, e, ho⟩ := h; exact ⟨a, c, e, ho.kept hb⟩
theorem OwnC.wrote {W W' : World} {B q : Nat} {u : Value} {cs : List Cl} {zs ds : Array Value} (h : OwnC W B u cs) (hq : W.heap[q]? = some (.cells ds 30 (0, 0))) (hw : Wrote q zs 30 W W') : OwnC W' B u cs :=
  h.of_block fun g hg => hw.rest g (h.lt g hg).2 (fun e => by
    obtain ⟨cur, fr, hc⟩ := own_block h hg
    subst e
    rw [hq] at hc
    injection hc with hc
    injection hc with h1 h2
    exact absurd h2 (by decide))
/-- What each operation tells where two rows of one key are joined. -/
def JG (sl sa ra sb rb pa pb : Value) (base : Nat) (t : ByteArray) (cs : List Cl) (i : Nat) (v : Value) (W : World) : Prop :=
  match i with
  | 0 => v = sl | 1 => v = sa | 2 => v = pa | 3 => v = ra | 4 => v = sb | 5 => v = pb | 6 => v = rb
  | 7 => JTup base t cs v W | 8 => JTup base t cs v W | 9 => RowV base t cs v W | 10 => v = .int .i64 0 | _ => True
theorem JG.st {sl sa ra sb rb pa pb : Value} {base : Nat} {t : ByteArray} {cs : List Cl} : GSt 30 (JG sl sa ra sb rb pa pb base t cs) where
  grow i v X Y h hb := by
    unfold JG at h ⊢
    split at h <;> first | exact h | exact h.kept hb
  wrote i v X Y q zs ds hq hw h := by
    unfold JG at h ⊢
    split at h
    all_goals first
      | exact h
      | (obtain ⟨a, c, e, ho⟩ := h; exact ⟨a, c, e, ho.wrote hq hw⟩)

set_option maxRecDepth 100000 in
set_option maxHeartbeats 12800000 in
theorem mmerged_c {w : World} {x xa xb : Option Addr} {n1 cap ma capa mb capb : Nat} {gs : List Grp} {LA LB : List Rw} (hg : Grs w x n1 cap gs) (hs : ∀ g ∈ gs, g.1.length ≤ 9223372036854775807) (ha : RwsAt w xa ma capa LA) (hb : RwsAt w xb mb capb LB)
    (hga : ∀ r ∈ LA, rgoodS gs r.k r.cs = 0) (hgb : ∀ r ∈ LB, rgoodS gs r.k r.cs = 0) (hm : ma + mb ≤ 1000000) (h0 : 0 < n1) (h1 : n1 ≤ 1000000) :
    Calls Try.prog 67 #[.slice x n1 cap, .slice xa ma capa, .slice xb mb capb] w (MergePost (mrg Op.bytesLess opC (LA.map Rw.pr) (LB.map Rw.pr)) n1 w) := by
  have hgl := hg.len
  have HCN := Lib.hid (fun (L : List Rw) (h : ∀ r ∈ L, rgoodS gs r.k r.cs = 0) r (hr : r ∈ L) => (show r.cs.length = n1 from by rw [(rgood_short (h r hr)).2.2.1]; exact hgl))
  have HJN := Lib.hid (fun W (h : Below w.heap.size w W) (k : List UInt8) (u v : List Cl) (hu : rgoodS gs k u = 0) (hv : rgoodS gs k v = 0) (a1 : Option Addr) (m1 c1 : Nat) (h1 : Cls W a1 m1 c1 u) (a2 : Option Addr) (m2 c2 : Nat) (h2 : Cls W a2 m2 c2 v) =>
    (show Calls Try.prog 95 #[.slice x n1 cap, .agg #[.string (text k), .slice a1 m1 c1], .agg #[.string (text k), .slice a2 m2 c2]] W (RowPost (k, zipN u v u.length, 0) W) from by
      have hj := rowjoin_c (hg.below h) hs h1 (fun c hc => Nat.le_trans ((rgood_short hu).2.2.2.2 c hc) (by omega)) k (by have := (rgood_short hu).2.1; omega) h2 (fun c hc => Nat.le_trans ((rgood_short hv).2.2.2.2 c hc) (by omega)) k (by have := (rgood_short hv).2.1; omega)
      rw [join_yes hu hv rfl] at hj
      exact hj))
  obtain ⟨RV, hRV⟩ : ∃ z, mrg Op.bytesLess opC (LA.map Rw.pr) (LB.map Rw.pr) = z := ⟨_, rfl⟩
  have HA := Lib.hid ha
  have HB := Lib.hid hb
  have HGA := Lib.hid hga
  have HGB := Lib.hid hgb
  have HRV := Lib.hid hRV
  rw [hRV]
  clear hRV ha hb hga hgb hg hs hgl
  go_enter Try.func67, Try.ntmps67
  go_wp2
  go_step3
  go_wp2
  go_step3
  go_wp2
  go_loopw [1, 2, 7] (fun a b o wr => ∃ (xa : Option Addr) (ma ca : Nat) (LA : List Rw) (xb : Option Addr) (mb cb : Nat) (LB OL : List Rw) (v : Value), a = .slice xa ma ca ∧ b = .slice xb mb cb ∧ o = v ∧ RwsAt w xa ma ca LA ∧ RwsAt w xb mb cb LB ∧ (∀ r ∈ LA, rgoodS gs r.k r.cs = 0) ∧ (∀ r ∈ LB, rgoodS gs r.k r.cs = 0) ∧
    OwnRw wr w.heap.size n1 v OL ∧ OL.map Rw.pr ++ mrg Op.bytesLess opC (LA.map Rw.pr) (LB.map Rw.pr) = RV ∧ OL.length + ma + mb ≤ 1000000 ∧ Below w.heap.size w wr) (fun a b _ _ => lenV a + lenV b)
  case atStart => exact ⟨_, _, _, LA, _, _, _, LB, [], _, rfl, rfl, rfl, HA.out, HB.out, HGA.out, HGB.out, OwnRw.nil _ _ _, HRV.out, by simp; omega, Below.refl _ _⟩
  case round =>
    clear HA HB HGA HGB HRV
    obtain ⟨xa, ma, ca, LA, xb, mb, cb, LB, OL, v, rfl, rfl, rfl, ha, hb, hga, hgb, ho, hrv, hsz, hbx⟩ := hrel
    obtain ⟨an, cn, ev, -⟩ := ho.at
    subst ev
    have hla := ha.1.len
    have hlb := hb.1.len
    have hlea := ha.1.le
    have hleb := hb.1.le
    have hmxa := ha.1.max
    have hmxb := hb.1.max
    have HA := Lib.hid ha
    have HB := Lib.hid hb
    have HGA := Lib.hid hga
    have HGB := Lib.hid hgb
    have HOx := Lib.hid ho
    have HBx := Lib.hid hbx
    have HRV := Lib.hid hrv
    have HLA := Lib.hid hla
    have HLB := Lib.hid hlb
    have hol : OL.length ≤ 1000000 := by omega
    have HOL := Lib.hid hol
    clear ha hb hga hgb ho hbx hrv hla hlb hol
    by_cases hma : ma = 0
    · subst hma
      have HRR := Lib.hid (show RV = OL.map Rw.pr ++ LB.map Rw.pr by
        rw [← HRV.out, List.eq_nil_of_length_eq_zero HLA.out]
        rw [List.map_nil, mrg_nil])
      go_wp2_with (first
        | (go_at_call 94; (with_reducible refine (mcopied_c (HB.out.below HBx.out) (by omega) (HCN.out LB HGB.out) h0 h1).mono ?_); rintro e9 w9 ⟨v9, MM, rfl, hpm, hom, hbm⟩
           have HPM := Lib.hid hpm
           have HOM := Lib.hid hom
           have HB9 := Lib.hid (HBx.out.trans (hbm.mono HBx.out.size))
           have HO9 := Lib.hid (HOx.out.kept hbm)
           have HLT := Lib.hid (fun j (hj : j < OL.length) k hk => ((HOx.out.own j hj).1.lt k hk).2)
           have HWS := Lib.hid HBx.out.size
           obtain ⟨a9, c9, ev9, hat9⟩ := hom.at
           subst ev9
           have HAT9 := Lib.hid hat9
           have HML := Lib.hid (show MM.length ≤ 1000000 by have e := congrArg List.length hpm; have := HLB.out; simp at e; omega)
           clear hpm hom hbm hat9 HBx HOx)
        | (at_builtin; refine wpList_append_rws rfl _ _ rfl (u := .slice an OL.length cn) rfl HO9.out.row rfl HAT9.out (by have := HOL.out; have := HML.out; omega) HB9.out.size ?_; intro v' w' ho' hg'
           have hjoin := HO9.out.join (B2 := wr.heap.size) (fun j hj => HOM.out.own j hj) HOM.out.apart h0 HWS.out HLT.out ho' hg'
           have hbk := HB9.out.grown hg' HB9.out.size (fun z e => (HO9.out.row.lt z e).1)
           have HJN := Lib.hid hjoin
           have HBK := Lib.hid hbk
           clear hjoin hbk ho' hg'))
      try rw [Exit.noGoto_ret]
      go_ret
      exact ⟨_, _, rfl, by rw [HRR.out, List.map_append, HPM.out], HJN.out, HBK.out⟩
    · by_cases hmb : mb = 0
      · subst hmb
        have HRR := Lib.hid (show RV = OL.map Rw.pr ++ LA.map Rw.pr by
          rw [← HRV.out, List.eq_nil_of_length_eq_zero HLB.out]
          rw [List.map_nil, mrg_none])
        go_wp2_with (first
          | (go_at_call 94; (with_reducible refine (mcopied_c (HA.out.below HBx.out) (by omega) (HCN.out LA HGA.out) h0 h1).mono ?_); rintro e9 w9 ⟨v9, MM, rfl, hpm, hom, hbm⟩
             have HPM := Lib.hid hpm
             have HOM := Lib.hid hom
             have HB9 := Lib.hid (HBx.out.trans (hbm.mono HBx.out.size))
             have HO9 := Lib.hid (HOx.out.kept hbm)
             have HLT := Lib.hid (fun j (hj : j < OL.length) k hk => ((HOx.out.own j hj).1.lt k hk).2)
             have HWS := Lib.hid HBx.out.size
             obtain ⟨a9, c9, ev9, hat9⟩ := hom.at
             subst ev9
             have HAT9 := Lib.hid hat9
             have HML := Lib.hid (show MM.length ≤ 1000000 by have e := congrArg List.length hpm; have := HLA.out; simp at e; omega)
             clear hpm hom hbm hat9 HBx HOx)
          | (at_builtin; refine wpList_append_rws rfl _ _ rfl (u := .slice an OL.length cn) rfl HO9.out.row rfl HAT9.out (by have := HOL.out; have := HML.out; omega) HB9.out.size ?_; intro v' w' ho' hg'
             have hjoin := HO9.out.join (B2 := wr.heap.size) (fun j hj => HOM.out.own j hj) HOM.out.apart h0 HWS.out HLT.out ho' hg'
             have hbk := HB9.out.grown hg' HB9.out.size (fun z e => (HO9.out.row.lt z e).1)
             have HJN := Lib.hid hjoin
             have HBK := Lib.hid hbk
             clear hjoin hbk ho' hg'))
        try rw [Exit.noGoto_ret]
        go_ret
        exact ⟨_, _, rfl, by rw [HRR.out, List.map_append, HPM.out], HJN.out, HBK.out⟩
      · obtain ⟨pa, rfl⟩ : ∃ p, ma = p + 1 := ⟨ma - 1, by omega⟩
        obtain ⟨pb, rfl⟩ : ∃ p, mb = p + 1 := ⟨mb - 1, by omega⟩
        obtain ⟨ra, TA, rfl⟩ : ∃ r T, LA = r :: T := by
          cases LA with
          | nil => have := HLA.out; simp at this
          | cons r T => exact ⟨r, T, rfl⟩
        obtain ⟨rb, TB, rfl⟩ : ∃ r T, LB = r :: T := by
          cases LB with
          | nil => have := HLB.out; simp at this
          | cons r T => exact ⟨r, T, rfl⟩
        obtain ⟨ba, offa, aa, na, c1, rfl, eua, ena, hca, hata⟩ := HA.out.place (k := 0) (by omega)
        obtain ⟨bb, offb, ab, nb, c2, rfl, eub, enb, hcb, hatb⟩ := HB.out.place (k := 0) (by omega)
        simp only [List.getD_cons_zero, Nat.zero_mul, Nat.add_zero] at eua ena hca hata eub enb hcb hatb
        obtain ⟨ka, ua, csa⟩ := ra
        obtain ⟨kb, ub, csb⟩ := rb
        simp only at eua ena hca hata eub enb hcb hatb
        subst eua eub
        have hga0 := HGA.out _ (List.mem_cons_self ..)
        have hgb0 := HGB.out _ (List.mem_cons_self ..)
        have HGA1 := Lib.hid (fun r hr => HGA.out r (List.mem_cons_of_mem _ hr))
        have HGB1 := Lib.hid (fun r hr => HGB.out r (List.mem_cons_of_mem _ hr))
        simp only at hga0 hgb0
        have hte := text_lss ka kb
        have htf := text_lss kb ka
        obtain ⟨ta, hta⟩ : ∃ z, text ka = z := ⟨_, rfl⟩
        obtain ⟨tb, htb⟩ : ∃ z, text kb = z := ⟨_, rfl⟩
        rw [hta] at hata
        rw [htb] at hatb
        rw [hta, htb] at hte htf
        obtain ⟨BL, hBL⟩ : ∃ z, Op.bytesLess ka kb = z := ⟨_, rfl⟩
        obtain ⟨BG, hBG⟩ : ∃ z, Op.bytesLess kb ka = z := ⟨_, rfl⟩
        rw [hBL] at hte
        rw [hBG] at htf
        have HAW0 := Lib.hid hata
        have HBW0 := Lib.hid hatb
        have HTA := Lib.hid hta
        have HTB := Lib.hid htb
        have HGA0 := Lib.hid hga0
        have HGB0 := Lib.hid hgb0
        have HBL := Lib.hid hBL
        have HBG := Lib.hid hBG
        have HCA := Lib.hid hca
        have HCB := Lib.hid hcb
        -- the cuts
        obtain ⟨a2, hsa1, hsa2, hsa3⟩ := slice_rw HA.out.1 (q := 1) (by omega)
        obtain ⟨b2, hsb1, hsb2, hsb3⟩ := slice_rw HB.out.1 (q := 1) (by omega)
        obtain ⟨hta1, hta2, -⟩ := slice_rwto HA.out.1 (q := 1) (by omega)
        obtain ⟨htb1, htb2, -⟩ := slice_rwto HB.out.1 (q := 1) (by omega)
        have HA1 := Lib.hid (show RwsAt w a2 pa (ca - 1) TA from HA.out.drop hsa3 (by omega))
        have HB1 := Lib.hid (show RwsAt w b2 pb (cb - 1) TB from HB.out.drop hsb3 (by omega))
        have HA0 := Lib.hid (show RwsAt w (some ⟨ba, offa, none⟩) 1 ca [⟨ka, .slice aa na c1, csa⟩] from HA.out.take (q := 1) (by omega))
        have HB0 := Lib.hid (show RwsAt w (some ⟨bb, offb, none⟩) 1 cb [⟨kb, .slice ab nb c2, csb⟩] from HB.out.take (q := 1) (by omega))
        have hsa1 : ∀ W', (Instr.slice 27 (.slice (some ⟨ba, offa, none⟩) (pa + 1) ca) (some (.int .i64 1)) none none).run Try.prog W' = .ok (.slice a2 pa (ca - 1)) W' := hsa1
        have hsa2 : ∀ W', (Instr.sliceAt 27 (.slice (some ⟨ba, offa, none⟩) (pa + 1) ca) (some (.int .i64 1)) none none).run Try.prog W' = .ok (.slice a2 pa (ca - 1)) W' := hsa2
        have hsb1 : ∀ W', (Instr.slice 27 (.slice (some ⟨bb, offb, none⟩) (pb + 1) cb) (some (.int .i64 1)) none none).run Try.prog W' = .ok (.slice b2 pb (cb - 1)) W' := hsb1
        have hsb2 : ∀ W', (Instr.sliceAt 27 (.slice (some ⟨bb, offb, none⟩) (pb + 1) cb) (some (.int .i64 1)) none none).run Try.prog W' = .ok (.slice b2 pb (cb - 1)) W' := hsb2
        have hta1 : ∀ W', (Instr.slice 27 (.slice (some ⟨ba, offa, none⟩) (pa + 1) ca) none (some (.int .i64 1)) none).run Try.prog W' = .ok (.slice (some ⟨ba, offa, none⟩) 1 ca) W' := hta1
        have hta2 : ∀ W', (Instr.sliceAt 27 (.slice (some ⟨ba, offa, none⟩) (pa + 1) ca) none (some (.int .i64 1)) none).run Try.prog W' = .ok (.slice (some ⟨ba, offa, none⟩) 1 ca) W' := hta2
        have htb1 : ∀ W', (Instr.slice 27 (.slice (some ⟨bb, offb, none⟩) (pb + 1) cb) none (some (.int .i64 1)) none).run Try.prog W' = .ok (.slice (some ⟨bb, offb, none⟩) 1 cb) W' := htb1
        have htb2 : ∀ W', (Instr.sliceAt 27 (.slice (some ⟨bb, offb, none⟩) (pb + 1) cb) none (some (.int .i64 1)) none).run Try.prog W' = .ok (.slice (some ⟨bb, offb, none⟩) 1 cb) W' := htb2
        have HAF := Lib.hid HA.out
        have HBF := Lib.hid HB.out
        clear hsa3 hsb3 HA HB HGA HGB hata hatb hta htb hga0 hgb0 hBL hBG hca hcb ena enb HLA HLB
        have HAW := Lib.hid (fun W (h : Below w.heap.size w W) => HAW0.out W h)
        have HBW := Lib.hid (fun W (h : Below w.heap.size w W) => HBW0.out W h)
        clear HAW0 HBW0
        go_upto_region 9 with (fail)
        refine wp_region_flow [none,none,none,none,none,none,none,none,none,none,none,none,none,none,none,none,none,none,none,none,none,none,none,none,none,none,none,none,none,none,none,none,none,none,none,none,none,none,none,none,none,none,none,none,none, some 9, some 0, some 1, some 2, some 3, some 4, some 5, some 6, some 7, some 8, none,none,none,none,none,none,none,none,none,none,none,none,none,none,none,none,none,none,none,none,none,none,none,none,none] (fun i => [u46, u47, u48, u49, u50, u51, u52, u53, u54, u45].getD i undef) [(fun v _ => v = .slice (some ⟨ba, offa, none⟩) (pa + 1) ca), (fun v _ => v = .pointer (some ⟨ba, offa, none⟩)), (fun v _ => v = .pointer (some ⟨ba, offa, none⟩)), (fun v _ => v = .string ta), (fun v _ => v = .slice (some ⟨bb, offb, none⟩) (pb + 1) cb), (fun v _ => v = .pointer (some ⟨bb, offb, none⟩)), (fun v _ => v = .pointer (some ⟨bb, offb, none⟩)), (fun v _ => v = .string tb), (fun v _ => v = .bool BL), (fun v _ => v = .bool BL)] (by kernel_rfl) (by kernel_rfl) rfl rfl rfl ?_ ?_ ?_
        · intro g hg v X Y hX hY hv
          simp only [List.mem_cons, List.not_mem_nil, or_false] at hg
          rcases hg with rfl | rfl | rfl | rfl | rfl | rfl | rfl | rfl | rfl | rfl
          all_goals first
            | exact hv
            | exact hv.kept hY
        · simp only [flowOps, and_true]
          refine ⟨?_,?_,?_,?_,?_,?_,?_,?_,?_,?_⟩
          · intro xs W hW hn
            simp only [flowAct, zwc, zwn]
            go_wp2_with (fail)
            exact ⟨rfl, _, rfl, Below.refl _ _, rfl⟩
          · intro xs W hW hn
            simp [flowNeeds, Region.binds] at hn
            simp only [flowAct, zwc, zwn]
            try simp only [hn]
            go_wp2_with (fail)
            exact ⟨rfl, _, rfl, Below.refl _ _, rfl⟩
          · intro xs W hW hn
            simp [flowNeeds, Region.binds] at hn
            simp only [flowAct, zwc, zwn]
            try simp only [hn]
            go_wp2_with (fail)
            exact ⟨rfl, _, rfl, Below.refl _ _, rfl⟩
          · intro xs W hW hn
            obtain ⟨a0, a1⟩ := HAW.out W (HBx.out.trans (hW.mono HBx.out.size))
            simp [flowNeeds, Region.binds] at hn
            simp only [flowAct, zwc, zwn]
            try simp only [hn]
            go_wp2_with (fail)
            exact ⟨rfl, _, rfl, Below.refl _ _, rfl⟩
          · intro xs W hW hn
            simp only [flowAct, zwc, zwn]
            go_wp2_with (fail)
            exact ⟨rfl, _, rfl, Below.refl _ _, rfl⟩
          · intro xs W hW hn
            simp [flowNeeds, Region.binds] at hn
            simp only [flowAct, zwc, zwn]
            try simp only [hn]
            go_wp2_with (fail)
            exact ⟨rfl, _, rfl, Below.refl _ _, rfl⟩
          · intro xs W hW hn
            simp [flowNeeds, Region.binds] at hn
            simp only [flowAct, zwc, zwn]
            try simp only [hn]
            go_wp2_with (fail)
            exact ⟨rfl, _, rfl, Below.refl _ _, rfl⟩
          · intro xs W hW hn
            obtain ⟨b0, b1⟩ := HBW.out W (HBx.out.trans (hW.mono HBx.out.size))
            simp [flowNeeds, Region.binds] at hn
            simp only [flowAct, zwc, zwn]
            try simp only [hn]
            go_wp2_with (fail)
            exact ⟨rfl, _, rfl, Below.refl _ _, rfl⟩
          · intro xs W hW hn
            simp [flowNeeds, Region.binds] at hn
            simp only [flowAct, zwc, zwn]
            try simp only [hn]
            go_wp2_with (fail)
            exact ⟨rfl, _, rfl, Below.refl _ _, rfl⟩
          · intro xs W hW hn
            simp [flowNeeds, Region.binds] at hn
            simp only [flowAct, zwc, zwn]
            try simp only [hn]
            go_wp2_with (fail)
            exact ⟨rfl, _, rfl, Below.refl _ _, rfl⟩
        · intro xs W hW hall
          simp only [flowAll, and_true, Nat.zero_add, Nat.reduceAdd] at hall
          obtain ⟨-,-,-,-,-,-,-,-,-, eL⟩ := hall
          simp only [flowAct, zwc, zwn]
          simp only [eL]
          have hbk := HBx.out.trans (hW.mono HBx.out.size)
          have hok := HOx.out.kept hW
          clear eL
          obtain ⟨WK, hWK⟩ : ∃ X, W = X := ⟨_, rfl⟩
          rw [hWK] at hbk hok ⊢
          clear hWK hW HBx HOx
          have HBx := Lib.hid hbk
          have HOx := Lib.hid hok
          clear hbk hok
          cases BL with
          | true =>
            have HMR := Lib.hid (mrg_lt opC (x := (ka, csa)) (y := (kb, csb)) (a := TA.map Rw.pr) (b := TB.map Rw.pr) HBL.out)
            go_wp2_with (first
              | (go_at_call 94; (with_reducible refine (mcopied_c (HA0.out.below HBx.out) (by omega) (HCN.out _ (fun r hr => by rw [List.mem_singleton] at hr; subst hr; exact HGA0.out)) h0 h1).mono ?_); rintro e9 w9 ⟨v9, MM, rfl, hpm, hom, hbm⟩
                 have HPM := Lib.hid hpm
                 have HOM := Lib.hid hom
                 have HB9 := Lib.hid (HBx.out.trans (hbm.mono HBx.out.size))
                 have HO9 := Lib.hid (HOx.out.kept hbm)
                 have HLT := Lib.hid (fun j (hj : j < OL.length) k hk => ((HOx.out.own j hj).1.lt k hk).2)
                 have HWS := Lib.hid HBx.out.size
                 obtain ⟨a9, c9, ev9, hat9⟩ := hom.at
                 subst ev9
                 have HAT9 := Lib.hid hat9
                 have HML := Lib.hid (show MM.length ≤ 1000000 by have e := congrArg List.length hpm; simp at e; omega)
                 clear hpm hom hbm hat9 HBx HOx)
              | (at_builtin; refine wpList_append_rws rfl _ _ rfl (u := .slice an OL.length cn) rfl HO9.out.row rfl HAT9.out (by have := HOL.out; have := HML.out; omega) HB9.out.size ?_; intro v' w' ho' hg'
                 have hjoin := HO9.out.join (B2 := WK.heap.size) (fun j hj => HOM.out.own j hj) HOM.out.apart h0 HWS.out HLT.out ho' hg'
                 have hbk := HB9.out.grown hg' HB9.out.size (fun z e => (HO9.out.row.lt z e).1)
                 have HJN := Lib.hid hjoin
                 have HBK := Lib.hid hbk
                 clear hjoin hbk ho' hg'))
            go_roundw
            case rel =>
              have hp : MM.map Rw.pr = [(ka, csa)] := HPM.out
              have hl : MM.length = 1 := by have := congrArg List.length hp; simpa using this
              exact ⟨_, _, _, TA, _, _, _, (⟨kb, .slice ab nb c2, csb⟩ :: TB), OL ++ MM, _, rfl, rfl, rfl, HA1.out, HBF.out, HGA1.out, (fun r hr => by rcases List.mem_cons.1 hr with rfl | hr; exact HGB0.out; exact HGB1.out r hr), HJN.out, by rw [List.map_append, hp, ← HRV.out, List.append_assoc]; exact congrArg _ (HMR.out).symm, by rw [List.length_append, hl]; omega, HBK.out⟩
            case measure => simp [lenV]
          | false =>
            have hteq : (ta.toList == tb.toList) = !BG := by
              rw [← HTA.out, ← HTB.out, text_eqb]
              cases hb : BG with
              | true =>
                have hne : ka ≠ kb := fun e => by
                  have := HBG.out
                  rw [e, hb, strictT.irr] at this
                  cases this
                simp [hne]
              | false =>
                have := strictT.tot _ _ HBL.out (HBG.out.trans hb)
                rw [this]; simp
            go_upto_region 12 with (fail)
            refine wp_region_flow [none,none,none,none,none,none,none,none,none,none,none,none,none,none,none,none,none,none,none,none,none,none,none,none,none,none,none,none,none,none,none,none,none,none,none,none,none,none,none,none,none,none,none,none,none,none,none,none,none,none,none,none,none,none,none,none,none,none,none,none,none,none, some 9, some 0, some 1, some 2, some 3, some 4, some 5, some 6, some 7, some 8, none,none,none,none,none,none,none,none] (fun i => [u63, u64, u65, u66, u67, u68, u69, u70, u71, u62].getD i undef) [(fun v _ => v = .slice (some ⟨ba, offa, none⟩) (pa + 1) ca), (fun v _ => v = .pointer (some ⟨ba, offa, none⟩)), (fun v _ => v = .pointer (some ⟨ba, offa, none⟩)), (fun v _ => v = .string ta), (fun v _ => v = .slice (some ⟨bb, offb, none⟩) (pb + 1) cb), (fun v _ => v = .pointer (some ⟨bb, offb, none⟩)), (fun v _ => v = .pointer (some ⟨bb, offb, none⟩)), (fun v _ => v = .string tb), (fun v _ => v = .bool BG), (fun v _ => v = .bool BG)] (by kernel_rfl) (by kernel_rfl) rfl rfl rfl ?_ ?_ ?_
            · intro g hg v X Y hX hY hv
              simp only [List.mem_cons, List.not_mem_nil, or_false] at hg
              rcases hg with rfl | rfl | rfl | rfl | rfl | rfl | rfl | rfl | rfl | rfl
              all_goals first
                | exact hv
                | exact hv.kept hY
            · simp only [flowOps, and_true]
              refine ⟨?_,?_,?_,?_,?_,?_,?_,?_,?_,?_⟩
              · intro xs W hW hn
                simp only [flowAct, zwc, zwn]
                go_wp2_with (fail)
                exact ⟨rfl, _, rfl, Below.refl _ _, rfl⟩
              · intro xs W hW hn
                simp [flowNeeds, Region.binds] at hn
                simp only [flowAct, zwc, zwn]
                try simp only [hn]
                go_wp2_with (fail)
                exact ⟨rfl, _, rfl, Below.refl _ _, rfl⟩
              · intro xs W hW hn
                simp [flowNeeds, Region.binds] at hn
                simp only [flowAct, zwc, zwn]
                try simp only [hn]
                go_wp2_with (fail)
                exact ⟨rfl, _, rfl, Below.refl _ _, rfl⟩
              · intro xs W hW hn
                obtain ⟨a0, a1⟩ := HAW.out W (HBx.out.trans (hW.mono HBx.out.size))
                simp [flowNeeds, Region.binds] at hn
                simp only [flowAct, zwc, zwn]
                try simp only [hn]
                go_wp2_with (fail)
                exact ⟨rfl, _, rfl, Below.refl _ _, rfl⟩
              · intro xs W hW hn
                simp only [flowAct, zwc, zwn]
                go_wp2_with (fail)
                exact ⟨rfl, _, rfl, Below.refl _ _, rfl⟩
              · intro xs W hW hn
                simp [flowNeeds, Region.binds] at hn
                simp only [flowAct, zwc, zwn]
                try simp only [hn]
                go_wp2_with (fail)
                exact ⟨rfl, _, rfl, Below.refl _ _, rfl⟩
              · intro xs W hW hn
                simp [flowNeeds, Region.binds] at hn
                simp only [flowAct, zwc, zwn]
                try simp only [hn]
                go_wp2_with (fail)
                exact ⟨rfl, _, rfl, Below.refl _ _, rfl⟩
              · intro xs W hW hn
                obtain ⟨b0, b1⟩ := HBW.out W (HBx.out.trans (hW.mono HBx.out.size))
                simp [flowNeeds, Region.binds] at hn
                simp only [flowAct, zwc, zwn]
                try simp only [hn]
                go_wp2_with (fail)
                exact ⟨rfl, _, rfl, Below.refl _ _, rfl⟩
              · intro xs W hW hn
                simp [flowNeeds, Region.binds] at hn
                simp only [flowAct, zwc, zwn]
                try simp only [hn]
                go_wp2_with (fail)
                exact ⟨rfl, _, rfl, Below.refl _ _, rfl⟩
              · intro xs W hW hn
                simp [flowNeeds, Region.binds] at hn
                simp only [flowAct, zwc, zwn]
                try simp only [hn]
                go_wp2_with (fail)
                exact ⟨rfl, _, rfl, Below.refl _ _, rfl⟩
            · intro xs W hW hall
              simp only [flowAll, and_true, Nat.zero_add, Nat.reduceAdd] at hall
              obtain ⟨-,-,-,-,-,-,-,-,-, eL⟩ := hall
              simp only [flowAct, zwc, zwn]
              simp only [eL]
              have hbk := HBx.out.trans (hW.mono HBx.out.size)
              have hok := HOx.out.kept hW
              clear eL
              obtain ⟨WK, hWK⟩ : ∃ X, W = X := ⟨_, rfl⟩
              rw [hWK] at hbk hok ⊢
              clear hWK hW HBx HOx
              have HBx := Lib.hid hbk
              have HOx := Lib.hid hok
              clear hbk hok
              cases BG with
              | true =>
                have HMR := Lib.hid (mrg_gt opC (x := (ka, csa)) (y := (kb, csb)) (a := TA.map Rw.pr) (b := TB.map Rw.pr) HBL.out HBG.out)
                go_wp2_with (first
                  | (go_at_call 94; (with_reducible refine (mcopied_c (HB0.out.below HBx.out) (by omega) (HCN.out _ (fun r hr => by rw [List.mem_singleton] at hr; subst hr; exact HGB0.out)) h0 h1).mono ?_); rintro e9 w9 ⟨v9, MM, rfl, hpm, hom, hbm⟩
                     have HPM := Lib.hid hpm
                     have HOM := Lib.hid hom
                     have HB9 := Lib.hid (HBx.out.trans (hbm.mono HBx.out.size))
                     have HO9 := Lib.hid (HOx.out.kept hbm)
                     have HLT := Lib.hid (fun j (hj : j < OL.length) k hk => ((HOx.out.own j hj).1.lt k hk).2)
                     have HWS := Lib.hid HBx.out.size
                     obtain ⟨a9, c9, ev9, hat9⟩ := hom.at
                     subst ev9
                     have HAT9 := Lib.hid hat9
                     have HML := Lib.hid (show MM.length ≤ 1000000 by have e := congrArg List.length hpm; simp at e; omega)
                     clear hpm hom hbm hat9 HBx HOx)
                  | (at_builtin; refine wpList_append_rws rfl _ _ rfl (u := .slice an OL.length cn) rfl HO9.out.row rfl HAT9.out (by have := HOL.out; have := HML.out; omega) HB9.out.size ?_; intro v' w' ho' hg'
                     have hjoin := HO9.out.join (B2 := WK.heap.size) (fun j hj => HOM.out.own j hj) HOM.out.apart h0 HWS.out HLT.out ho' hg'
                     have hbk := HB9.out.grown hg' HB9.out.size (fun z e => (HO9.out.row.lt z e).1)
                     have HJN := Lib.hid hjoin
                     have HBK := Lib.hid hbk
                     clear hjoin hbk ho' hg'))
                go_roundw
                case rel =>
                  have hp : MM.map Rw.pr = [(kb, csb)] := HPM.out
                  have hl : MM.length = 1 := by have := congrArg List.length hp; simpa using this
                  exact ⟨_, _, _, (⟨ka, .slice aa na c1, csa⟩ :: TA), _, _, _, TB, OL ++ MM, _, rfl, rfl, rfl, HAF.out, HB1.out, (fun r hr => by rcases List.mem_cons.1 hr with rfl | hr; exact HGA0.out; exact HGA1.out r hr), HGB1.out, HJN.out, by rw [List.map_append, hp, ← HRV.out, List.append_assoc]; exact congrArg _ (HMR.out).symm, by rw [List.length_append, hl]; omega, HBK.out⟩
                case measure => simp [lenV]
              | false =>
                have HMR := Lib.hid (mrg_eq opC (x := (ka, csa)) (y := (kb, csb)) (a := TA.map Rw.pr) (b := TB.map Rw.pr) HBL.out HBG.out)
                obtain rfl : ka = kb := strictT.tot _ _ HBL.out HBG.out
                obtain rfl : ta = tb := HTA.out.symm.trans HTB.out
                have HJ := Lib.hid (fun W (h : Below w.heap.size w W) => HJN.out W h ka csa csb HGA0.out HGB0.out _ _ _ (HCA.out.below h) _ _ _ (HCB.out.below h))
                obtain ⟨Z, hZ⟩ : ∃ z, zipN csa csb csa.length = z := ⟨_, rfl⟩
                have HZE := Lib.hid (show opC csa csb = Z from hZ)
                have HZL := Lib.hid (show Z.length = n1 from by rw [← hZ, zipN_len]; exact HCN.out [⟨ka, .slice aa na c1, csa⟩] (fun r hr => by rw [List.mem_singleton] at hr; subst hr; exact HGA0.out) _ (List.mem_singleton.2 rfl))
                rw [hZ] at HJ
                simp only [HTA.out] at HJ
                clear hZ hteq
                go_upto_region 2 with (fail)
                have HGS := Lib.hid (JG.st (sl := .slice x n1 cap) (sa := .slice (some ⟨ba, offa, none⟩) (pa + 1) ca) (ra := .agg #[.string ta, .slice aa na c1]) (sb := .slice (some ⟨bb, offb, none⟩) (pb + 1) cb) (rb := .agg #[.string ta, .slice ab nb c2]) (pa := .pointer (some ⟨ba, offa, none⟩)) (pb := .pointer (some ⟨bb, offb, none⟩)) (base := WK.heap.size) (t := ta) (cs := Z))
                refine wp_region_inv [none,none,none,none,none,none,none,none, some 11, some 13, some 8, some 0, some 1, some 2, some 3, some 4, some 5, some 6, some 7, some 9, some 10, none,none,none,none,none,none,none,none,none,none,none,none,none,none,none,none,none,none,none,none,none,none,none,none,none,none,none,none,none,none,none,none,none,none,none,none,none,none,none,none,none,none,none,none,none,none,none,none,none,none,none,none,none,none,none,none,none,none,none] (fun i => [u11, u12, u13, u14, u15, u16, u17, u18, u10, u19, u20, u8, undef, u9].getD i undef) (LayG 11 1 30 #[.string ⟨#[]⟩, .slice none 0 0] (JG (.slice x n1 cap) (.slice (some ⟨ba, offa, none⟩) (pa + 1) ca) (.agg #[.string ta, .slice aa na c1]) (.slice (some ⟨bb, offb, none⟩) (pb + 1) cb) (.agg #[.string ta, .slice ab nb c2]) (.pointer (some ⟨ba, offa, none⟩)) (.pointer (some ⟨bb, offb, none⟩)) WK.heap.size ta Z) (fun _ => 9) WK) (by kernel_rfl) (by kernel_rfl) rfl rfl (fun LL hL => LayG.start fun i hi => hL i (Nat.lt_of_lt_of_le hi (by decide))) ?_ ?_
                · simp only [invOps, and_true]
                  refine ⟨?_,?_,?_,?_,?_,?_,?_,?_,?_,?_,?_,?_,?_,?_⟩
                  · intro LL xs W hI hL hn
                    simp only [flowAct, zwc, zwn]
                    go_wp2_with (fail)
                    exact ⟨rfl, _, rfl, hI.set HGS.out 0 (by decide) (Below.refl _ _) rfl⟩
                  · intro LL xs W hI hL hn
                    simp only [flowAct, zwc, zwn]
                    go_wp2_with (fail)
                    exact ⟨rfl, _, rfl, hI.set HGS.out 1 (by decide) (Below.refl _ _) rfl⟩
                  · intro LL xs W hI hL hn
                    simp [invNeeds, Region.binds] at hn
                    have e1 : xs 1 = .slice (some ⟨ba, offa, none⟩) (pa + 1) ca := hI.2.1 1 (by decide) (by simp only [hn])
                    simp only [flowAct, zwc, zwn]
                    simp only [e1]
                    go_wp2_with (fail)
                    exact ⟨rfl, _, rfl, hI.set HGS.out 2 (by decide) (Below.refl _ _) rfl⟩
                  · intro LL xs W hI hL hn
                    obtain ⟨a0, a1⟩ := HAW.out W (HBx.out.trans (hI.below.mono HBx.out.size))
                    simp [invNeeds, Region.binds] at hn
                    have e2 : xs 2 = .pointer (some ⟨ba, offa, none⟩) := hI.2.1 2 (by decide) (by simp only [hn])
                    simp only [flowAct, zwc, zwn]
                    simp only [e2]
                    go_wp2_with (fail)
                    exact ⟨rfl, _, rfl, hI.set HGS.out 3 (by decide) (Below.refl _ _) rfl⟩
                  · intro LL xs W hI hL hn
                    simp only [flowAct, zwc, zwn]
                    go_wp2_with (fail)
                    exact ⟨rfl, _, rfl, hI.set HGS.out 4 (by decide) (Below.refl _ _) rfl⟩
                  · intro LL xs W hI hL hn
                    simp [invNeeds, Region.binds] at hn
                    have e4 : xs 4 = .slice (some ⟨bb, offb, none⟩) (pb + 1) cb := hI.2.1 4 (by decide) (by simp only [hn])
                    simp only [flowAct, zwc, zwn]
                    simp only [e4]
                    go_wp2_with (fail)
                    exact ⟨rfl, _, rfl, hI.set HGS.out 5 (by decide) (Below.refl _ _) rfl⟩
                  · intro LL xs W hI hL hn
                    obtain ⟨b0, b1⟩ := HBW.out W (HBx.out.trans (hI.below.mono HBx.out.size))
                    simp [invNeeds, Region.binds] at hn
                    have e5 : xs 5 = .pointer (some ⟨bb, offb, none⟩) := hI.2.1 5 (by decide) (by simp only [hn])
                    simp only [flowAct, zwc, zwn]
                    simp only [e5]
                    go_wp2_with (fail)
                    exact ⟨rfl, _, rfl, hI.set HGS.out 6 (by decide) (Below.refl _ _) rfl⟩
                  · intro LL xs W hI hL hn
                    simp [invNeeds, Region.binds] at hn
                    have e0 : xs 0 = .slice x n1 cap := hI.2.1 0 (by decide) (by simp only [hn])
                    have e3 : xs 3 = .agg #[.string ta, .slice aa na c1] := hI.2.1 3 (by decide) (by simp only [hn])
                    have e6 : xs 6 = .agg #[.string ta, .slice ab nb c2] := hI.2.1 6 (by decide) (by simp only [hn])
                    simp only [flowAct, zwc, zwn]
                    simp only [e0, e3, e6]
                    go_wp2_with (go_at_call 95; (with_reducible refine (HJ.out _ (HBx.out.trans (hI.below.mono HBx.out.size))).mono ?_); rintro e9 w9 ⟨v9, rfl, ho9, hb9⟩; obtain ⟨a9, c9, rfl, -⟩ := ho9.cls; simp only [HTA.out])
                    exact ⟨rfl, _, rfl, hI.set HGS.out 7 (by decide) hb9 ⟨_, _, rfl, ho9.mono hI.below.size⟩⟩
                  · intro LL xs W hI hL hn
                    simp [invNeeds, Region.binds] at hn
                    obtain ⟨a9, c9, e7, ho9⟩ : JTup WK.heap.size ta Z (xs 7) W := hI.2.1 7 (by decide) (by simp only [hn])
                    simp only [flowAct, zwc, zwn]
                    simp only [e7]
                    go_wp2_with (fail)
                    exact ⟨rfl, _, rfl, hI.set HGS.out 8 (by decide) (Below.refl _ _) ⟨_, _, rfl, ho9⟩⟩
                  · intro LL xs W hI hL hn
                    simp [invNeeds, Region.binds] at hn
                    obtain ⟨a9, c9, e8, ho9⟩ : JTup WK.heap.size ta Z (xs 8) W := hI.2.1 8 (by decide) (by simp only [hn])
                    simp only [flowAct, zwc, zwn]
                    simp only [e8]
                    go_wp2_with (fail)
                    exact ⟨rfl, _, rfl, hI.set HGS.out 9 (by decide) (Below.refl _ _) ⟨_, _, rfl, ho9⟩⟩
                  · intro LL xs W hI hL hn
                    simp [invNeeds, Region.binds] at hn
                    obtain ⟨a9, c9, e8, ho9⟩ : JTup WK.heap.size ta Z (xs 8) W := hI.2.1 8 (by decide) (by simp only [hn])
                    simp only [flowAct, zwc, zwn]
                    simp only [e8]
                    go_wp2_with (fail)
                    exact ⟨rfl, _, rfl, hI.set HGS.out 10 (by decide) (Below.refl _ _) rfl⟩
                  · intro LL xs W hI hL hn
                    simp only [flowAct, zwc, zwn]
                    go_wp2_with (fail)
                    exact ⟨rfl, _, rfl, hI.alloc HGS.out 0 (by decide) rfl hL⟩
                  · intro LL xs W hI hL hn
                    simp [invNeeds, Region.binds] at hn
                    obtain ⟨hk, hv⟩ : LL 11 = true ∧ LL 9 = true := by simp only [hn, and_self]
                    obtain ⟨g5, cs5, eg, lg, hgc, hz5⟩ := hI.2.2.1 0 (by decide) hk
                    rw [if_neg (by rw [show LL (11 + 1 + 0) = false from hL]; decide)] at hz5
                    subst hz5
                    have hg9 : RowV WK.heap.size ta Z (xs 9) W := hI.2.1 9 (by decide) hv
                    obtain ⟨a9, c9, e9, ho9⟩ := hg9
                    have e1 : xs 11 = .pointer (some ⟨g5, 0, none⟩) := eg
                    obtain ⟨p0, p1, pfz⟩ := row_cells hgc
                    simp only [flowAct, zwc, zwn]
                    simp only [e9, e1]
                    go_wp2_with (fail)
                    exact ⟨rfl, undef, rfl, hI.store HGS.out 0 (by decide) rfl rfl hk eg (cs := #[.string ta, .slice a9 Z.length c9]) ⟨_, _, rfl, ho9⟩ (wrote_row hgc ta (.slice a9 Z.length c9)) undef⟩
                  · intro LL xs W hI hL hn
                    simp [invNeeds, Region.binds] at hn
                    have e10 : xs 10 = .int .i64 0 := hI.2.1 10 (by decide) (by simp only [hn])
                    simp only [flowAct, zwc, zwn]
                    simp only [e10]
                    go_wp2_with (fail)
                    exact ⟨rfl, _, rfl, hI.other 13 (by decide) _⟩
                · intro LL xs W hI hall
                  obtain ⟨hW, -, hP, -,-⟩ := hI
                  obtain ⟨gx, cs7, e7, l7, h7, g7⟩ := hP 0 (by decide) (hall 11 (by decide))
                  rw [if_pos (hall (11 + 1 + 0) (by decide))] at g7
                  obtain ⟨a9, c9, g8, ho9⟩ := (show RowV WK.heap.size ta Z (.agg cs7) W from g7)
                  injection g8 with g8
                  subst g8
                  clear g7
                  replace e7 : xs 11 = _ := e7
                  simp only [flowAct, zwc, zwn]
                  simp only [e7]
                  have hbk := HBx.out.trans (hW.mono HBx.out.size)
                  have HLT := Lib.hid (fun j (hj : j < OL.length) k hk => ((HOx.out.own j hj).1.lt k hk).2)
                  have HWS := Lib.hid HBx.out.size
                  have hok := HOx.out.kept hW
                  have HOC := Lib.hid ho9
                  have HH7 := Lib.hid h7
                  obtain ⟨r0, r1, -⟩ := row_cells h7
                  clear hP hall e7 ho9 h7 l7 hW HGS HBx HOx
                  have HBx := Lib.hid hbk
                  have HOx := Lib.hid hok
                  clear hbk hok
                  have halx := fun W => alloc_below W (.cells #[.string ta, .slice a9 Z.length c9] 30)
                  have HALX := Lib.hid halx
                  clear halx
                  go_wp2_with (at_builtin; refine wpList_append_rwm rfl _ _ rfl (u := .slice an OL.length cn) rfl (HOx.out.kept (HALX.out W)).row HTA.out Z rfl (heap_alloc_new W _) (by have := HOL.out; omega) (Nat.le_trans HBx.out.size (HALX.out W).size) ?_; intro v' w' ho' hg'; have hpush := (HOx.out.kept (HALX.out W)).push0 HZL.out (HOC.out.kept (HALX.out W)) h0 HWS.out HLT.out ho' hg'; have hbk := (HBx.out.trans ((HALX.out W).mono HBx.out.size)).grown hg' (Nat.le_trans HBx.out.size (HALX.out W).size) (fun z e => ((HOx.out.kept (HALX.out W)).row.lt z e).1); have HPU := Lib.hid hpush; have HBK := Lib.hid hbk; clear hpush hbk ho' hg' r0 r1)
                  go_upto_region 4 with (fail)
                  go_quiet (fail)
                  have HDW := Lib.hid (below_drewN (Below.refl w'.heap.size w') nq)
                  have HBy := Lib.hid (HBK.out.trans (HDW.out.mono HBK.out.size))
                  have HOy := Lib.hid (HPU.out.kept HDW.out)
                  go_wp2
                  go_roundw
                  case rel => exact ⟨_, _, _, TA, _, _, _, TB, OL ++ [⟨ka, .slice a9 Z.length c9, Z⟩], _, rfl, rfl, rfl, HA1.out, HB1.out, HGA1.out, HGB1.out, HOy.out, by rw [List.map_append, ← HRV.out, List.append_assoc]; refine congrArg _ ?_; refine Eq.trans ?_ HMR.out.symm; rw [HZE.out]; rfl, by rw [List.length_append]; simp only [List.length_singleton]; omega, HBy.out⟩
                  case measure => simp [lenV]; omega

end Go.Proofs.Yteffbibmfpdenaa
end

section
namespace Go.Proofs.Yteffbibmfpdenaa
open Go.RowKit Go Go.Sort
set_option linter.unusedVariables false
set_option maxRecDepth 20000

/-- A change as it stands in memory: its parts, its slice of writes, and these. -/
structure Cg where
  site : Int
  seq : Int
  n : Int
  s : Int
  a : Int
  b : Int
  u : Value
  ws : List Wr
def Cg.zero : Cg := ⟨0, 0, 0, 0, 0, 0, .slice none 0 0, []⟩
def Cg.arr (c : Cg) : Array Value := #[.int .i64 c.site, .int .i64 c.seq, .int .i64 c.n, .int .i64 c.s, .int .i64 c.a, .int .i64 c.b, c.u]
def Cg.ch (c : Cg) : Chg := ⟨c.site, c.seq, c.n, c.s, c.a, c.b, c.ws⟩
theorem cg_size (c : Cg) : c.arr.size = 7 := rfl
/-- Changes as they lie in memory, each with its writes. -/
def ChsAt (W : World) (a : Option Addr) (m cap : Nat) (L : List Cg) : Prop := Ls 7 Cg.arr Cg.zero W a m cap L ∧ ∀ j, j < m → ∃ a' c, (L.getD j Cg.zero).u = .slice a' (L.getD j Cg.zero).ws.length c ∧ Wrs W a' (L.getD j Cg.zero).ws.length c (L.getD j Cg.zero).ws ∧ WShort (L.getD j Cg.zero).ws
theorem ChsAt.below {w w' : World} {a : Option Addr} {m cap : Nat} {L : List Cg} (h : ChsAt w a m cap L) (hb : Below w.heap.size w w') : ChsAt w' a m cap L :=
  ⟨h.1.below hb, fun j hj => by obtain ⟨a', c, e, hc, hx⟩ := h.2 j hj; exact ⟨a', c, e, hc.below hb, hx⟩⟩
theorem ChsAt.place {w : World} {a : Option Addr} {m cap : Nat} {L : List Cg} (h : ChsAt w a m cap L) {k : Nat} (hk : k < m) : ∃ b off a' n' c', a = some ⟨b, off, none⟩ ∧ (L.getD k Cg.zero).u = .slice a' n' c' ∧ n' = (L.getD k Cg.zero).ws.length ∧ Wrs w a' n' c' (L.getD k Cg.zero).ws ∧ WShort (L.getD k Cg.zero).ws ∧
    ∀ W, Below w.heap.size w W → W.cell? ⟨b, off + k * 7, none⟩ = some (.int .i64 (L.getD k Cg.zero).site) ∧ W.cell? ⟨b, off + k * 7 + 1, none⟩ = some (.int .i64 (L.getD k Cg.zero).seq) ∧ W.cell? ⟨b, off + k * 7 + 2, none⟩ = some (.int .i64 (L.getD k Cg.zero).n) ∧ W.cell? ⟨b, off + k * 7 + 3, none⟩ = some (.int .i64 (L.getD k Cg.zero).s) ∧
      W.cell? ⟨b, off + k * 7 + 4, none⟩ = some (.int .i64 (L.getD k Cg.zero).a) ∧ W.cell? ⟨b, off + k * 7 + 5, none⟩ = some (.int .i64 (L.getD k Cg.zero).b) ∧ W.cell? ⟨b, off + k * 7 + 6, none⟩ = some (.slice a' n' c') := by
  obtain ⟨b, off, e, hat⟩ := h.1.at hk
  obtain ⟨a', c', eu, hc, hx⟩ := h.2 k hk
  exact ⟨b, off, a', _, c', e, eu, rfl, hc, hx, fun W hb => ⟨hat W hb 0 _ rfl, hat W hb 1 _ rfl, hat W hb 2 _ rfl, hat W hb 3 _ rfl, hat W hb 4 _ rfl, hat W hb 5 _ rfl, (hat W hb 6 (L.getD k Cg.zero).u rfl).trans (by rw [eu])⟩⟩
theorem ChsAt.drop {W : World} {a a' : Option Addr} {n cap cap' q : Nat} {L : List Cg} (h : ChsAt W a n cap L) (hl : Ls 7 Cg.arr Cg.zero W a' (n - q) cap' (L.drop q)) (hq : q ≤ n) : ChsAt W a' (n - q) cap' (L.drop q) :=
  ⟨hl, fun j hj => by
    have e : (L.drop q).getD j Cg.zero = L.getD (q + j) Cg.zero := by simp [List.getD_eq_getElem?_getD]
    rw [e]
    exact h.2 (q + j) (by omega)⟩
theorem ChsAt.take {W : World} {a : Option Addr} {n cap q : Nat} {L : List Cg} (h : ChsAt W a n cap L) (hq : q ≤ n) : ChsAt W a q cap (L.take q) :=
  ⟨h.1.take hq, fun j hj => by
    have e : (L.take q).getD j Cg.zero = L.getD j Cg.zero := by rw [List.getD_eq_getElem?_getD, List.getD_eq_getElem?_getD, List.getElem?_take_of_lt hj]
    rw [e]
    exact h.2 j (by omega)⟩
theorem Try.infoCg : (Try.prog.info? 95).map (fun i => (i.zero, i.size, i.bytes)) = some (some (.agg #[.int .i64 0, .int .i64 0, .int .i64 0, .int .i64 0, .int .i64 0, .int .i64 0, .slice none 0 0]), 7, 72) := by kernel_rfl
theorem slice_cg {W : World} {a : Option Addr} {n cap : Nat} {l : List Cg} (h : Ls 7 Cg.arr Cg.zero W a n cap l) {q : Nat} (hq : q ≤ n) :
    ∃ a', (∀ W', (Instr.slice 61 (.slice a n cap) (some (.int .i64 (q : Int))) none none).run Try.prog W' = .ok (.slice a' (n - q) (cap - q)) W') ∧
      (∀ W', (Instr.sliceAt 61 (.slice a n cap) (some (.int .i64 (q : Int))) none none).run Try.prog W' = .ok (.slice a' (n - q) (cap - q)) W') ∧ Ls 7 Cg.arr Cg.zero W a' (n - q) (cap - q) (l.drop q) := by
  have hle := h.le
  have he : Try.prog.elem 61 = 95 := by kernel_rfl
  obtain ⟨i0, hi, hz0, hz1, hz2⟩ := info_parts Try.infoCg
  have key : ∀ W', (Instr.slice 61 (.slice a n cap) (some (.int .i64 (q : Int))) none none).run Try.prog W' = .ok (.slice (if cap = q then a else a.map (fun x => x.add (q * 7))) (n - q) (cap - q)) W' := fun W' => by
    rw [run_slice_l W' 61 a n cap (by kernel_rfl) .i64 (q : Int) (by omega) (by omega), he]
    have hsz : (sizeOf 95).run Try.prog W' = .ok 7 W' := by simp [sizeOf, typeInfo, hi, hz1, go_sem]
    rw [hsz]
    simp only [Result.andThen_ok, sliced, Int.toNat_natCast]
  refine ⟨_, key, fun W' => ?_, h.drop hq⟩
  rw [run_sliceAt_slice _ _ _ _ _ _ (by kernel_rfl)]
  exact key W'
theorem slice_cgto {W : World} {a : Option Addr} {n cap : Nat} {l : List Cg} (h : Ls 7 Cg.arr Cg.zero W a n cap l) {q : Nat} (hq : q ≤ n) :
    (∀ W', (Instr.slice 61 (.slice a n cap) none (some (.int .i64 (q : Int))) none).run Try.prog W' = .ok (.slice a q cap) W') ∧
      (∀ W', (Instr.sliceAt 61 (.slice a n cap) none (some (.int .i64 (q : Int))) none).run Try.prog W' = .ok (.slice a q cap) W') := by
  have hle := h.le
  have he : Try.prog.elem 61 = 95 := by kernel_rfl
  obtain ⟨i0, hi, hz0, hz1, hz2⟩ := info_parts Try.infoCg
  have key : ∀ W', (Instr.slice 61 (.slice a n cap) none (some (.int .i64 (q : Int))) none).run Try.prog W' = .ok (.slice a q cap) W' := fun W' => by
    have hsz : (sizeOf 95).run Try.prog W' = .ok 7 W' := by simp [sizeOf, typeInfo, hi, hz1, go_sem]
    rw [run_slice_h W' 61 a n cap (by kernel_rfl) .i64 (q : Int) (by omega) (by omega), Int.toNat_natCast, he, hsz]
    simp only [Result.andThen_ok, sliced, Nat.zero_mul, Nat.sub_zero]
    cases a <;> simp [Addr.add]
  refine ⟨key, fun W' => ?_⟩
  rw [run_sliceAt_slice _ _ _ _ _ _ (by kernel_rfl)]
  exact key W'
theorem chg_few {gs : List Grp} {c : Chg} (h : c.err gs = 0) : (c.rows gs).length ≤ 8 := by
  have h9 := (head_ok (ch_inv h).2.1).2.2.2.2.2.2.2.2
  exact Nat.le_trans (wrow_few gs c.n c.s c.a c.b c.ws c.ws.length) h9
theorem made_few {gs : List Grp} : ∀ (n : Nat) (cs : List Chg), cs.length ≤ n → (∀ c ∈ cs, c.err gs = 0) → (madeK Op.bytesLess opC (cs.map (Chg.rows gs))).length ≤ 8 * cs.length
  | n, [], _, _ => by rw [List.map_nil, made_nil]; simp
  | n, [c], _, h => by
    rw [List.map_cons, List.map_nil, made_one]
    have := chg_few (h c (List.mem_cons_self ..))
    simp; omega
  | 0, c :: d :: cs, hn, _ => by simp at hn
  | n + 1, c :: d :: cs, hn, h => by
    have h2 : 2 ≤ (c :: d :: cs).length := by simp
    generalize (c :: d :: cs) = ds at *
    rw [made_two opC (by rw [List.length_map]; exact h2), List.length_map, ← List.map_take, ← List.map_drop]
    have e1 := made_few n (ds.take (ds.length / 2)) (by rw [List.length_take]; omega) fun x hx => h x (List.mem_of_mem_take hx)
    have e2 := made_few n (ds.drop (ds.length / 2)) (by rw [List.length_drop]; omega) fun x hx => h x (List.mem_of_mem_drop hx)
    have e3 := mrg_few (lt := Op.bytesLess) opC _ (madeK Op.bytesLess opC ((ds.take (ds.length / 2)).map (Chg.rows gs))) (madeK Op.bytesLess opC ((ds.drop (ds.length / 2)).map (Chg.rows gs))) (Nat.le_refl _)
    rw [List.length_take] at e1
    rw [List.length_drop] at e2
    omega
theorem st_few {gs : List Grp} (cs : List Chg) : (stS gs cs).1.length ≤ 8 * cs.length := by
  unfold stS
  split
  · simp
  · split
    · rename_i h
      exact made_few _ cs (Nat.le_refl _) fun c hc => by simpa using List.all_eq_true.1 h c hc
    · simp
theorem st_one {gs : List Grp} (hp : pgoodS gs = 0) (c : Chg) : chrowsS gs c.site c.seq c.n c.s c.a c.b c.ws = stS gs [c] := by
  by_cases h : c.err gs = 0
  · rw [st_ok hp (fun x hx => by rw [List.mem_singleton] at hx; subst hx; exact h), List.map_cons, List.map_nil, made_one]
    exact chrows_ok h
  · rw [st_bad hp (List.mem_singleton.2 rfl) h, chrows_no h, chgood_err hp h]
theorem st_zero {gs : List Grp} (hp : pgoodS gs = 0) : stS gs [] = ([], 0) := by
  rw [st_ok hp (fun x hx => by cases hx), List.map_nil, made_nil]
theorem st_err {gs : List Grp} (hp : pgoodS gs = 0) {cs : List Chg} (h : ¬ (stS gs cs).2 = 0) : stS gs cs = ([], 120) := by
  unfold stS at h ⊢
  rw [if_neg (not_not_intro hp)] at h ⊢
  split
  · rename_i ha; rw [if_pos ha] at h; exact absurd rfl h
  · rfl
/-- The state of both halves. -/
theorem st_halves {gs : List Grp} (hp : pgoodS gs = 0) {cs : List Chg} (h2 : 2 ≤ cs.length) :
    (¬ (stS gs (cs.take (cs.length / 2))).2 = 0 → stS gs cs = ([], 120)) ∧ (¬ (stS gs (cs.drop (cs.length / 2))).2 = 0 → stS gs cs = ([], 120)) ∧
    ((stS gs (cs.take (cs.length / 2))).2 = 0 → (stS gs (cs.drop (cs.length / 2))).2 = 0 → stS gs cs = (mrg Op.bytesLess opC (stS gs (cs.take (cs.length / 2))).1 (stS gs (cs.drop (cs.length / 2))).1, 0)) := by
  have key : ∀ ds : List Chg, ¬ (stS gs ds).2 = 0 → ∃ c ∈ ds, ¬ c.err gs = 0 := fun ds h => by
    apply Classical.byContradiction
    intro hn
    apply h
    rw [st_ok hp fun c hc => Classical.byContradiction fun hb => hn ⟨c, hc, hb⟩]
  refine ⟨fun h => ?_, fun h => ?_, fun h1 h3 => ?_⟩
  · obtain ⟨c, hc, hb⟩ := key _ h
    exact st_bad hp (List.mem_of_mem_take hc) hb
  · obtain ⟨c, hc, hb⟩ := key _ h
    exact st_bad hp (List.mem_of_mem_drop hc) hb
  · obtain ⟨-, a1⟩ := st_inv h1
    obtain ⟨-, a2⟩ := st_inv h3
    have ha : ∀ c ∈ cs, c.err gs = 0 := fun c hc => by
      rw [← List.take_append_drop (cs.length / 2) cs] at hc
      exact (List.mem_append.1 hc).elim (a1 c) (a2 c)
    rw [st_ok hp a1, st_ok hp a2, st_ok hp ha, made_two opC (by rw [List.length_map]; exact h2), List.length_map, List.map_take, List.map_drop]
theorem OwnRw.mono {W : World} {B B' n1 : Nat} {v : Value} {L : List Rw} (h : OwnRw W B n1 v L) (hB : B' ≤ B) : OwnRw W B' n1 v L := ⟨h.row.mono hB, fun j hj => ⟨(h.own j hj).1.mono hB, (h.own j hj).2⟩, h.apart⟩
/-- What State tells. -/
def StPost (r : List Rp × Int) (n1 : Nat) (w : World) (e : Ending) (w' : World) : Prop := ∃ v NN, e = .returned (.tuple #[v, .int .i64 r.2]) ∧ NN.map Rw.pr = r.1 ∧ OwnRw w' w.heap.size n1 v NN ∧ Below w.heap.size w w'

set_option maxRecDepth 100000 in
set_option maxHeartbeats 6400000 in
theorem made_c {w : World} {x : Option Addr} {n1 cap : Nat} {gs : List Grp} (hg : Grs w x n1 cap gs) (hs : ∀ g ∈ gs, g.1.length ≤ 9223372036854775807) (hp : pgoodS gs = 0) :
    ∀ (n : Nat) (W : World) (a : Option Addr) (m cp : Nat) (L : List Cg), m ≤ n → Below w.heap.size w W → ChsAt W a m cp L → m ≤ 100000 → Calls Try.prog 61 #[.slice x n1 cap, .slice a m cp] W (StPost (stS gs (L.map Cg.ch)) n1 W) := by
  have hgl := hg.len
  have hp4 := pgood_len hp
  have hpos := pgood_pos hp
  intro n
  induction n with
  | zero =>
    intro W a m cp L hmn hW hl hm
    obtain rfl : m = 0 := by omega
    have hL : L = [] := List.eq_nil_of_length_eq_zero hl.1.len
    subst hL
    have HRR := Lib.hid (st_zero hp)
    clear hl hg hs
    go_enter Try.func61, Try.ntmps61
    go_wp2
    go_ret2
    exact ⟨.slice none 0 0, [], by show _ = Ending.returned (.tuple #[_, .int .i64 (stS gs []).2]); rw [HRR.out]; rfl, by show ([] : List Rp) = (stS gs []).1; rw [HRR.out], OwnRw.nil _ _ _, Below.refl _ _⟩
  | succ n ih =>
    intro W a m cp L hmn hW hl hm
    have hll := hl.1.len
    have hle := hl.1.le
    have hmx := hl.1.max
    by_cases h0 : m = 0
    · exact ih W a m cp L (by omega) hW hl hm
    · by_cases h1 : m = 1
      · subst h1
        obtain ⟨c, rfl⟩ : ∃ c, L = [c] := by
          cases L with
          | nil => simp at hll
          | cons c T => cases T with
            | nil => exact ⟨c, rfl⟩
            | cons d T => simp at hll
        obtain ⟨b, off, a', n', c', rfl, eu, en, hw, hx, hat⟩ := hl.place (k := 0) (by omega)
        simp only [List.getD_cons_zero, Nat.zero_mul, Nat.add_zero] at eu en hw hx hat
        have hr := chrows_c (hg.below hW) hs hw hx c.site c.seq c.n c.s c.a c.b
        have he := st_one hp c.ch
        have he : chrowsS gs c.site c.seq c.n c.s c.a c.b c.ws = stS gs [c.ch] := he
        rw [he] at hr
        have HR := Lib.hid hr
        obtain ⟨p0, p1, p2, p3, p4, p5, p6⟩ := hat W (Below.refl _ _)
        obtain ⟨site, seq, n2, s, aa, bb, u, ws⟩ := c
        simp only at p0 p1 p2 p3 p4 p5 p6 HR
        obtain ⟨RV, hRV⟩ : ∃ z, stS gs [(⟨site, seq, n2, s, aa, bb, u, ws⟩ : Cg).ch] = z := ⟨_, rfl⟩
        have HRV := Lib.hid (show stS gs ([(⟨site, seq, n2, s, aa, bb, u, ws⟩ : Cg)].map Cg.ch) = RV from hRV)
        rw [hRV] at HR
        clear hat hr he hRV eu en hw hx hl hll ih hg hs
        go_enter Try.func61, Try.ntmps61
        go_wp2_with (go_at_call 86; (with_reducible refine HR.out.mono ?_); rintro e9 w9 ⟨v9, N9, rfl, ho9, hp9, hb9⟩)
        go_ret2
        exact ⟨_, N9, by rw [HRV.out]; rfl, by rw [HRV.out]; exact hp9, ho9, hb9⟩
      · have h2 : 2 ≤ m := by omega
        obtain ⟨q, hq⟩ : ∃ q, m / 2 = q := ⟨_, rfl⟩
        have hqm : q ≤ m := by omega
        have hq1 : 1 ≤ q := by omega
        have hq2 : m - q ≤ n := by omega
        have hq3 : q ≤ n := by omega
        obtain ⟨a2, hs1, hs2, hs3⟩ := slice_cg hl.1 hqm
        obtain ⟨ht1, ht2⟩ := slice_cgto hl.1 hqm
        have H1 := Lib.hid (ih W a q cp (L.take q) hq3 hW (hl.take hqm) (by omega))
        have H2 := Lib.hid (fun W' (h : Below W.heap.size W W') => ih W' a2 (m - q) (cp - q) (L.drop q) hq2 (hW.trans (h.mono hW.size)) ((hl.drop hs3 hqm).below h) (by omega))
        have hh := st_halves hp (cs := L.map Cg.ch) (by rw [List.length_map]; omega)
        rw [List.length_map, hll, hq, ← List.map_take, ← List.map_drop] at hh
        obtain ⟨e1, e2, e3⟩ := hh
        have f1 := st_few (gs := gs) ((L.take q).map Cg.ch)
        have f2 := st_few (gs := gs) ((L.drop q).map Cg.ch)
        rw [List.length_map, List.length_take, hll] at f1
        rw [List.length_map, List.length_drop, hll] at f2
        have k1 := fun (h : (stS gs ((L.take q).map Cg.ch)).2 = 0) => (st_st h).good
        have k2 := fun (h : (stS gs ((L.drop q).map Cg.ch)).2 = 0) => (st_st h).good
        have x1 := fun (h : ¬ (stS gs ((L.take q).map Cg.ch)).2 = 0) => st_err hp h
        have x2 := fun (h : ¬ (stS gs ((L.drop q).map Cg.ch)).2 = 0) => st_err hp h
        obtain ⟨⟨R1, E1⟩, hR1⟩ : ∃ z, stS gs ((L.take q).map Cg.ch) = z := ⟨_, rfl⟩
        obtain ⟨⟨R2, E2⟩, hR2⟩ : ∃ z, stS gs ((L.drop q).map Cg.ch) = z := ⟨_, rfl⟩
        obtain ⟨RV, hRV⟩ : ∃ z, stS gs (L.map Cg.ch) = z := ⟨_, rfl⟩
        rw [hR1] at e1 e3 f1 k1 x1 H1
        rw [hR2] at e2 e3 f2 k2 x2
        simp only [hR2] at H2
        rw [hRV] at e1 e2 e3 ⊢
        simp only at e1 e2 e3 f1 f2 k1 k2 x1 x2
        have HE1 := Lib.hid e1
        have HE2 := Lib.hid e2
        have HE3 := Lib.hid e3
        have HF1 := Lib.hid f1
        have HF2 := Lib.hid f2
        have HK1 := Lib.hid k1
        have HK2 := Lib.hid k2
        have HX1 := Lib.hid x1
        have HX2 := Lib.hid x2
        have HQ := Lib.hid hq
        have HG := Lib.hid hg
        have HS := Lib.hid hs
        have HW := Lib.hid hW
        have hqt : Int.tdiv (m : Int) 2 = ((q : Nat) : Int) := by rw [← hq]; exact (Int.ofNat_tdiv m 2).symm
        have hm0 : ((m : Int) == 0) = false := by simp; omega
        have hm1 : ((m : Int) == 1) = false := by simp; omega
        clear e1 e2 e3 f1 f2 k1 k2 x1 x2 hR1 hR2 hRV hs3 hl hll ih hq hg hs hW h0 h1 h2 hq1 hq2 hq3
        go_enter Try.func61, Try.ntmps61
        go_upto_region 8 with (go_at_call 61; (with_reducible refine H1.out.mono ?_); rintro e9 w1 ⟨v1, N1, rfl, hp1, ho1, hb1⟩)
        have HP1 := Lib.hid hp1
        have HO1 := Lib.hid ho1
        have HB1 := Lib.hid hb1
        clear hp1 ho1 hb1
        by_cases hz1 : E1 = 0
        · subst hz1
          go_upto_region 11 with (go_at_call 61; (with_reducible refine (H2.out _ HB1.out).mono ?_); rintro e9 w2 ⟨v2, N2, rfl, hp2, ho2, hb2⟩)
          have HP2 := Lib.hid hp2
          have HO2 := Lib.hid (ho2)
          have HO3 := Lib.hid (HO1.out.kept hb2)
          have HB2 := Lib.hid (HB1.out.trans (hb2.mono HB1.out.size))
          have HX := Lib.hid hb2
          clear hp2 ho2 hb2
          by_cases hz2 : E2 = 0
          · subst hz2
            have HRR := Lib.hid (HE3.out (by first | rfl | trivial) (by first | rfl | trivial))
            obtain ⟨a3, c3, ev3, h3⟩ := HO3.out.at
            obtain ⟨a4, c4, ev4, h4⟩ := HO2.out.at
            subst ev3 ev4
            have hg1 : ∀ r ∈ N1, rgoodS gs r.k r.cs = 0 := fun r hr => HK1.out (by first | rfl | trivial) r.pr (by rw [← HP1.out]; exact List.mem_map_of_mem hr)
            have hg2 : ∀ r ∈ N2, rgoodS gs r.k r.cs = 0 := fun r hr => HK2.out (by first | rfl | trivial) r.pr (by rw [← HP2.out]; exact List.mem_map_of_mem hr)
            have hN1 : N1.length ≤ 8 * m := by
              have e := congrArg List.length HP1.out
              rw [List.length_map] at e
              have := HF1.out
              omega
            have hN2 : N2.length ≤ 8 * (m - q) := by
              have e := congrArg List.length HP2.out
              rw [List.length_map] at e
              have := HF2.out
              omega
            have hN1b : N1.length ≤ 8 * q := by
              have e := congrArg List.length HP1.out
              rw [List.length_map] at e
              have := HF1.out
              omega
            have hmc := mmerged_c (HG.out.below (HW.out.trans (HB2.out.mono HW.out.size))) HS.out h3 h4 hg1 hg2 (by omega) (by omega) (by omega)
            rw [HP1.out, HP2.out] at hmc
            have HM := Lib.hid hmc
            clear h3 h4 hg1 hg2 hN1 hN2 hN1b hmc
            go_wp2_with (go_at_call 67; (with_reducible refine HM.out.mono ?_); rintro e9 w3 ⟨v3, N3, rfl, hp3, ho3, hb3⟩)
            go_ret2
            exact ⟨_, N3, by rw [HRR.out]; rfl, by rw [HRR.out]; exact hp3, ho3.mono (Nat.le_trans HB1.out.size HX.out.size), HB2.out.trans (hb3.mono HB2.out.size)⟩
          · have HRR := Lib.hid (HE2.out hz2)
            have hz3 := HX2.out hz2
            injection hz3 with hz3 hz4
            subst hz4
            go_wp2
            go_ret2
            exact ⟨_, [], by rw [HRR.out]; rfl, by rw [HRR.out]; rfl, OwnRw.nil _ _ _, HB2.out⟩
        · have HRR := Lib.hid (HE1.out hz1)
          have hz3 := HX1.out hz1
          injection hz3 with hz3 hz4
          subst hz4
          go_wp2
          go_ret2
          exact ⟨_, [], by rw [HRR.out]; rfl, by rw [HRR.out]; rfl, OwnRw.nil _ _ _, HB1.out⟩

set_option maxRecDepth 100000 in
set_option maxHeartbeats 3200000 in
theorem mstate_c {w : World} {x a : Option Addr} {n1 cap m cp : Nat} {gs : List Grp} {L : List Cg} (hg : Grs w x n1 cap gs) (hs : ∀ g ∈ gs, g.1.length ≤ 9223372036854775807) (hl : ChsAt w a m cp L) (hm : m ≤ 100000) :
    Calls Try.prog 33 #[.slice x n1 cap, .slice a m cp] w (StPost (stS gs (L.map Cg.ch)) n1 w) := by
  have HPG := Lib.hid (pgood_c hg hs)
  have HMD := Lib.hid (fun (hp : pgoodS gs = 0) W (h : Below w.heap.size w W) => made_c hg hs hp m W a m cp L (Nat.le_refl _) h (hl.below h) hm)
  have HPL := Lib.hid (fun (h : ¬ pgoodS gs = 0) => st_pol (cs := L.map Cg.ch) h)
  obtain ⟨RV, hRV⟩ : ∃ z, stS gs (L.map Cg.ch) = z := ⟨_, rfl⟩
  rw [hRV] at HPL ⊢
  simp only [hRV] at HMD
  obtain ⟨PG, hPG⟩ : ∃ z, pgoodS gs = z := ⟨_, rfl⟩
  rw [hPG] at HPL HMD HPG
  clear hRV hPG hl hg hs
  go_enter Try.func33, Try.ntmps33
  by_cases h0 : PG = 0
  · subst h0
    go_upto_region 4 with (go_at_call 60; (with_reducible refine HPG.out.mono ?_); rintro e9 w9 ⟨rfl, hb9⟩; have HB9 := Lib.hid hb9; clear hb9)
    have HM := Lib.hid (HMD.out (by first | rfl | trivial) _ HB9.out)
    go_wp2_with (go_at_call 61; (with_reducible refine HM.out.mono ?_); rintro e9 w3 ⟨v3, N3, rfl, hp3, ho3, hb3⟩)
    go_ret2
    exact ⟨_, N3, rfl, hp3, ho3.mono HB9.out.size, HB9.out.trans (hb3.mono HB9.out.size)⟩
  · have HRR := Lib.hid (HPL.out h0)
    go_wp2_with (go_at_call 60; (with_reducible refine HPG.out.mono ?_); rintro e9 w9 ⟨rfl, hb9⟩)
    go_ret2
    exact ⟨_, [], by rw [HRR.out]; rfl, by rw [HRR.out]; rfl, OwnRw.nil _ _ _, hb9⟩
end Go.Proofs.Yteffbibmfpdenaa
end

section
namespace Go.Proofs.Yteffbibmfpdenaa
open Go.RowKit Go Go.Sort
set_option linter.unusedVariables false
set_option maxRecDepth 20000

/-- A sum that is asked about up to 6000. -/
def satM (n k : Nat) : Nat := if n + k ≤ 6000 then n + k else 6001
theorem satM_le (n k : Nat) : satM n k ≤ 6001 := by unfold satM; split <;> omega
theorem satM_fits {n k : Nat} (h : satM n k ≤ 6000) : satM n k = n + k ∧ n + k ≤ 6000 := by unfold satM at h ⊢; split <;> rename_i hh
                                                                                           <;> first
                                                                                             | exact ⟨rfl, hh⟩
                                                                                             | (rw [if_neg hh] at h; omega)
set_option maxHeartbeats 1600000 in
theorem radd6_c (n k : Nat) (hn : n ≤ 6001) (hk : k ≤ 9223372036854775807) (w : World) : Calls Try.prog 29 #[.int .i64 (n : Int), .int .i64 (k : Int), .int .i64 6000] w (fun e w' => e = .returned (.int .i64 ((satM n k : Nat) : Int)) ∧ w = w') := by
  obtain ⟨R, hR⟩ : ∃ R, satM n k = R := ⟨_, rfl⟩
  rw [hR]
  unfold satM at hR
  by_cases h1 : 6000 < n
  · have h1i : (6000 : Int) < (n : Int) := by omega
    obtain rfl : 6001 = R := by rw [← hR, if_neg (by omega)]
    clear hR
    go_enter Try.func29, Try.ntmps29
    go_wp2
    go_ret
    exact ⟨rfl, rfl⟩
  · have h1i : ¬ (6000 : Int) < (n : Int) := by omega
    by_cases h2 : 6000 < k
    · have h2i : (6000 : Int) < (k : Int) := by omega
      obtain rfl : 6001 = R := by rw [← hR, if_neg (by omega)]
      clear hR
      go_enter Try.func29, Try.ntmps29
      go_wp2
      go_ret
      exact ⟨rfl, rfl⟩
    · have h2i : ¬ (6000 : Int) < (k : Int) := by omega
      have hs1 : 6000 - (k : Int) ≤ 9223372036854775807 := by omega
      have hs2 : -9223372036854775808 ≤ 6000 - (k : Int) := by omega
      by_cases h3 : n + k ≤ 6000
      · have h3i : ¬ 6000 - (k : Int) < (n : Int) := by omega
        have HR := Lib.hid (show (n : Int) + (k : Int) = (R : Int) by rw [← hR, if_pos h3]; omega)
        have ha1 : (n : Int) + (k : Int) ≤ 9223372036854775807 := by omega
        clear hR
        go_enter Try.func29, Try.ntmps29
        go_wp2
        go_ret
        exact ⟨by rw [← HR.out]; go_num, rfl⟩
      · have h3i : 6000 - (k : Int) < (n : Int) := by omega
        obtain rfl : 6001 = R := by rw [← hR, if_neg (by omega)]
        clear hR
        go_enter Try.func29, Try.ntmps29
        go_wp2
        go_ret
        exact ⟨rfl, rfl⟩
theorem mem_getDw {l : List Wr} {k : Nat} (h : k < l.length) : l.getD k Wr.zero ∈ l := by
  rw [List.getD_eq_getElem?_getD, List.getElem?_eq_getElem h]; exact List.getElem_mem h
theorem satM_grows {n k lo : Nat} (h : n ≤ 6000 → lo ≤ n) : satM n k ≤ 6000 → lo ≤ satM n k := fun h1 => by
  obtain ⟨e, h2⟩ := satM_fits h1
  have := h (by omega)
  omega
set_option maxRecDepth 100000 in
set_option maxHeartbeats 6400000 in
theorem mlight_c {w : World} {x a : Option Addr} {n1 cap m cp : Nat} {L : List Cg} (hn1 : n1 ≤ 9223372036854775807) (hl : ChsAt w a m cp L) :
    Calls Try.prog 31 #[.slice x n1 cap, .slice a m cp, .slice none 0 0] w (fun e w' => ∃ b : Bool, e = .returned (.bool b) ∧ (b = true → m ≤ 600) ∧ Below w.heap.size w w') := by
  have hle2 := hl.1.le
  have hmax2 := hl.1.max
  have HL := Lib.hid hl
  have HAF := Lib.hid (fun W => show Calls Try.prog 29 #[.int .i64 0, .int .i64 (n1 : Int), .int .i64 6000] W _ from radd6_c 0 n1 (by omega) hn1 W)
  clear hl
  go_enter Try.func31, Try.ntmps31
  go_upto_region 3 with (go_at_call 29; (with_reducible refine (HAF.out _).mono ?_); rintro e9 w9 ⟨rfl, rfl⟩)
  go_loopw [7, 8] (fun v i9 wr => ∃ (i q : Nat), i ≤ m ∧ i9 = .int .i64 (i : Int) ∧ v = .int .i64 (q : Int) ∧ q ≤ 6001 ∧ (q ≤ 6000 → 10 * i ≤ q) ∧ Below w.heap.size w wr) (fun _ i9 _ => m - (intOf i9).toNat)
  case atStart => exact ⟨0, satM 0 n1, by omega, rfl, rfl, satM_le _ _, fun _ => by omega, Below.refl _ _⟩
  case round =>
    clear HAF
    obtain ⟨i, q, hi, rfl, rfl, hq, hlo, hB⟩ := hrel
    have HB := Lib.hid hB
    have HLO := Lib.hid hlo
    clear hB hlo
    by_cases him : i < m
    · have hii : (i : Int) < (m : Int) := by omega
      have hic : (i : Int) < (cp : Int) := by omega
      by_cases hf : 6000 < q
      · have hfi : ¬ (q : Int) ≤ 6000 := by omega
        go_wp2
        go_loopw [7, 69] (fun v9 j9 wz => v9 = .int .i64 (q : Int) ∧ j9 = .int .i64 0 ∧ Below w.heap.size w wz) (fun _ _ _ => 0)
        case atStart => exact ⟨rfl, rfl, HB.out⟩
        case round =>
          obtain ⟨rfl, rfl, hB9⟩ := hrel
          have HB9 := Lib.hid hB9
          clear hB9
          go_wp2
          go_ret
          exact ⟨_, rfl, fun h => by have := of_decide_eq_true h; omega, HB9.out⟩
      · have hfi : (q : Int) ≤ 6000 := by omega
        obtain ⟨bk, off, aw, mw, cw, rfl, hu, hmw, hws, hsh, hat⟩ := HL.out.place him
        have hmwl := hws.le
        have hmwm := hws.max
        have HWS := Lib.hid hws
        have HSH := Lib.hid hsh
        have HMW := Lib.hid hmw
        have HAT0 := Lib.hid (fun W (h : Below w.heap.size w W) => (hat W h).2.2.2.2.2.2)
        have HA0 := Lib.hid (fun W => show Calls Try.prog 29 #[.int .i64 (q : Int), .int .i64 10, .int .i64 6000] W _ from radd6_c q 10 hq (by omega) W)
        have HL1 := Lib.hid (show satM q 10 ≤ 6000 → 10 * (i + 1) ≤ satM q 10 from fun h1 => by
          obtain ⟨e, h2⟩ := satM_fits h1
          have := HLO.out (by omega)
          omega)
        clear hu hws hsh hmw hat
        go_upto_region 7 with (go_at_call 29; (with_reducible refine (HA0.out _).mono ?_); rintro e9 w9 ⟨rfl, rfl⟩)
        go_loopw [7, 9] (fun v j9 wz => ∃ (j q : Nat), j ≤ mw ∧ j9 = .int .i64 (j : Int) ∧ v = .int .i64 (q : Int) ∧ q ≤ 6001 ∧ (q ≤ 6000 → 10 * (i + 1) ≤ q) ∧ Below w.heap.size w wz) (fun _ j9 _ => mw - (intOf j9).toNat)
        case atStart => exact ⟨0, satM q 10, by omega, rfl, rfl, satM_le _ _, HL1.out, HB.out⟩
        case round =>
          clear HA0 HL1 HB HLO hf hfi hq
          obtain ⟨j, q2, hj, rfl, rfl, hq2, hlo, hB⟩ := hrel
          have p6 := HAT0.out _ hB
          have HB := Lib.hid hB
          have HLO := Lib.hid hlo
          clear hB hlo
          by_cases hjm : j < mw
          · have hji : (j : Int) < (mw : Int) := by omega
            have hjc : (j : Int) < (cw : Int) := by omega
            by_cases hf : 6000 < q2
            · have hfi : ¬ (q2 : Int) ≤ 6000 := by omega
              go_wp2
              go_roundw
              case rel => exact ⟨i + 1, q2, by omega, by go_num, rfl, hq2, HLO.out, HB.out⟩
              case measure => simp [intOf]; omega
            · have hfi : (q2 : Int) ≤ 6000 := by omega
              obtain ⟨bw, offw, rfl, hatw⟩ := HWS.out.place hjm
              have hmem := mem_getDw (l := (L.getD i Cg.zero).ws) (k := j) (by rw [← HMW.out]; exact hjm)
              have hcx := HSH.out _ hmem
              obtain ⟨y, hy⟩ : ∃ y, (L.getD i Cg.zero).ws.getD j Wr.zero = y := ⟨_, rfl⟩
              rw [hy] at hatw hcx
              obtain ⟨kx, ix, gx, vx⟩ := y
              simp only at hatw hcx
              have HAT := Lib.hid (fun W (h : Below wr.heap.size wr W) => HAT0.out W (HB.out.trans (h.mono HB.out.size)))
              have HAW := Lib.hid (fun W (h : Below wr.heap.size wr W) => hatw W (HB.out.trans (h.mono HB.out.size)))
              have HSZ := Lib.hid (show ((text kx).size : Int) = (kx.length : Int) by rw [text_size])
              have HSZ2 := Lib.hid (show ((text vx).size : Int) = (vx.length : Int) by rw [text_size])
              have HA0 := Lib.hid (fun W => show Calls Try.prog 29 #[.int .i64 (q2 : Int), .int .i64 10, .int .i64 6000] W _ from radd6_c q2 10 hq2 (by omega) W)
              have HA1 := Lib.hid (fun W => radd6_c (satM q2 10) kx.length (satM_le _ _) hcx.1 W)
              have HA2 := Lib.hid (fun W => radd6_c (satM (satM q2 10) kx.length) vx.length (satM_le _ _) hcx.2 W)
              have HST := Lib.hid (satM_grows (k := vx.length) (satM_grows (k := kx.length) (satM_grows (k := 10) HLO.out)))
              clear hatw hmem hcx hy
              go_upto_region 9 with (fail)
              refine wp_region_flow_tail 23 [none,none,none,none,none,none,none,none,none,none,none,none,none,none,none,none,none,none,none,none,none,none,none,none,none,none,none,none,none,none,none,none,none,none,none,none,none,none,none,none,none,none,none, some 0, some 1, some 2, some 3, some 4, some 5, some 6, some 7, some 8, some 9, some 10, some 11, some 12, some 13, some 14, some 15, some 16, some 17, some 18, some 19, some 20, some 21, some 22, none,none,none,none,none,none,none,none,none,none,none,none,none,none,none,none,none,none,none,none,none,none,none,none,none,none,none,none,none,none,none,none,none,none,none,none,none,none,none,none,none,none,none,none,none,none,none,none,none,none,none,none,none,none,none,none] (fun i => [u43, u44, u45, u46, u47, u48, u49, u50, u51, u52, u53, u54, u55, u56, u57, u58, u59, u60, u61, u62, u63, u64, u65].getD i undef) [(fun v _ => v = .int .i64 (q2 : Int)), (fun v _ => v = .int .i64 ((satM q2 10 : Nat) : Int)), (fun v _ => v = .slice (some ⟨bk, off, none⟩) m cp), (fun v _ => v = .int .i64 (i : Int)), (fun v _ => v = .pointer (some ⟨bk, off + i * 7, none⟩)), (fun v _ => v = .pointer (some ⟨bk, off + i * 7 + 6, none⟩)), (fun v _ => v = .slice (some ⟨bw, offw, none⟩) mw cw), (fun v _ => v = .int .i64 (j : Int)), (fun v _ => v = .pointer (some ⟨bw, offw + j * 4, none⟩)), (fun v _ => v = .pointer (some ⟨bw, offw + j * 4, none⟩)), (fun v _ => v = .string (text kx)), (fun v _ => v = .int .i64 (kx.length : Int)), (fun v _ => v = .int .i64 ((satM (satM q2 10) kx.length : Nat) : Int)), (fun v _ => v = .slice (some ⟨bk, off, none⟩) m cp), (fun v _ => v = .int .i64 (i : Int)), (fun v _ => v = .pointer (some ⟨bk, off + i * 7, none⟩)), (fun v _ => v = .pointer (some ⟨bk, off + i * 7 + 6, none⟩)), (fun v _ => v = .slice (some ⟨bw, offw, none⟩) mw cw), (fun v _ => v = .int .i64 (j : Int)), (fun v _ => v = .pointer (some ⟨bw, offw + j * 4, none⟩)), (fun v _ => v = .pointer (some ⟨bw, offw + j * 4 + 3, none⟩)), (fun v _ => v = .string (text vx)), (fun v _ => v = .int .i64 (vx.length : Int))] (fun _ => False) (by kernel_rfl) (by kernel_rfl) (by kernel_rfl) rfl rfl rfl ?_ ?_ ?_
              · intro g hg v X Y hX hY hv
                simp only [List.mem_cons, List.not_mem_nil, or_false] at hg
                rcases hg with rfl | rfl | rfl | rfl | rfl | rfl | rfl | rfl | rfl | rfl | rfl | rfl | rfl | rfl | rfl | rfl | rfl | rfl | rfl | rfl | rfl | rfl | rfl
                all_goals first
                  | exact hv
                  | exact hv.kept hY
              · simp only [flowOpsF, List.take_succ_cons, List.take_zero, and_true]
                refine ⟨?_,?_,?_,?_,?_,?_,?_,?_,?_,?_,?_,?_,?_,?_,?_,?_,?_,?_,?_,?_,?_,?_,?_⟩
                · intro xs W hW hn
                  simp only [flowAct, zwc, zwn]
                  go_wp2_with (fail)
                  exact ⟨rfl, _, rfl, Below.refl _ _, rfl, fun h => h.elim⟩
                · intro xs W hW hn
                  simp [flowNeeds, Region.binds] at hn
                  simp only [flowAct, zwc, zwn]
                  simp only [hn]
                  go_wp2_with (go_at_call 29; (with_reducible refine (HA0.out _).mono ?_); rintro e9 w9 ⟨rfl, rfl⟩)
                  exact ⟨rfl, _, rfl, Below.refl _ _, rfl, fun h => h.elim⟩
                · intro xs W hW hn
                  simp only [flowAct, zwc, zwn]
                  go_wp2_with (fail)
                  exact ⟨rfl, _, rfl, Below.refl _ _, rfl, fun h => h.elim⟩
                · intro xs W hW hn
                  simp only [flowAct, zwc, zwn]
                  go_wp2_with (fail)
                  exact ⟨rfl, _, rfl, Below.refl _ _, rfl, fun h => h.elim⟩
                · intro xs W hW hn
                  simp [flowNeeds, Region.binds] at hn
                  simp only [flowAct, zwc, zwn]
                  try simp only [hn]
                  go_wp2_with (fail)
                  exact ⟨rfl, _, rfl, Below.refl _ _, rfl, fun h => h.elim⟩
                · intro xs W hW hn
                  simp [flowNeeds, Region.binds] at hn
                  simp only [flowAct, zwc, zwn]
                  try simp only [hn]
                  go_wp2_with (fail)
                  exact ⟨rfl, _, rfl, Below.refl _ _, rfl, fun h => h.elim⟩
                · intro xs W hW hn
                  have p6 := HAT.out W hW
                  simp [flowNeeds, Region.binds] at hn
                  simp only [flowAct, zwc, zwn]
                  try simp only [hn]
                  go_wp2_with (fail)
                  exact ⟨rfl, _, rfl, Below.refl _ _, rfl, fun h => h.elim⟩
                · intro xs W hW hn
                  simp only [flowAct, zwc, zwn]
                  go_wp2_with (fail)
                  exact ⟨rfl, _, rfl, Below.refl _ _, rfl, fun h => h.elim⟩
                · intro xs W hW hn
                  simp [flowNeeds, Region.binds] at hn
                  simp only [flowAct, zwc, zwn]
                  try simp only [hn]
                  go_wp2_with (fail)
                  exact ⟨rfl, _, rfl, Below.refl _ _, rfl, fun h => h.elim⟩
                · intro xs W hW hn
                  simp [flowNeeds, Region.binds] at hn
                  simp only [flowAct, zwc, zwn]
                  try simp only [hn]
                  go_wp2_with (fail)
                  exact ⟨rfl, _, rfl, Below.refl _ _, rfl, fun h => h.elim⟩
                · intro xs W hW hn
                  obtain ⟨q0, q1, q2, q3⟩ := HAW.out W hW
                  simp [flowNeeds, Region.binds] at hn
                  simp only [flowAct, zwc, zwn]
                  try simp only [hn]
                  go_wp2_with (fail)
                  exact ⟨rfl, _, rfl, Below.refl _ _, rfl, fun h => h.elim⟩
                · intro xs W hW hn
                  have hsz := HSZ.out
                  simp [flowNeeds, Region.binds] at hn
                  simp only [flowAct, zwc, zwn]
                  try simp only [hn]
                  go_wp2_with (fail)
                  exact ⟨rfl, _, rfl, Below.refl _ _, rfl, fun h => h.elim⟩
                · intro xs W hW hn
                  simp [flowNeeds, Region.binds] at hn
                  simp only [flowAct, zwc, zwn]
                  simp only [hn]
                  go_wp2_with (go_at_call 29; (with_reducible refine (HA1.out _).mono ?_); rintro e9 w9 ⟨rfl, rfl⟩)
                  exact ⟨rfl, _, rfl, Below.refl _ _, rfl, fun h => h.elim⟩
                · intro xs W hW hn
                  simp only [flowAct, zwc, zwn]
                  go_wp2_with (fail)
                  exact ⟨rfl, _, rfl, Below.refl _ _, rfl, fun h => h.elim⟩
                · intro xs W hW hn
                  simp only [flowAct, zwc, zwn]
                  go_wp2_with (fail)
                  exact ⟨rfl, _, rfl, Below.refl _ _, rfl, fun h => h.elim⟩
                · intro xs W hW hn
                  simp [flowNeeds, Region.binds] at hn
                  simp only [flowAct, zwc, zwn]
                  try simp only [hn]
                  go_wp2_with (fail)
                  exact ⟨rfl, _, rfl, Below.refl _ _, rfl, fun h => h.elim⟩
                · intro xs W hW hn
                  simp [flowNeeds, Region.binds] at hn
                  simp only [flowAct, zwc, zwn]
                  try simp only [hn]
                  go_wp2_with (fail)
                  exact ⟨rfl, _, rfl, Below.refl _ _, rfl, fun h => h.elim⟩
                · intro xs W hW hn
                  have p6 := HAT.out W hW
                  simp [flowNeeds, Region.binds] at hn
                  simp only [flowAct, zwc, zwn]
                  try simp only [hn]
                  go_wp2_with (fail)
                  exact ⟨rfl, _, rfl, Below.refl _ _, rfl, fun h => h.elim⟩
                · intro xs W hW hn
                  simp only [flowAct, zwc, zwn]
                  go_wp2_with (fail)
                  exact ⟨rfl, _, rfl, Below.refl _ _, rfl, fun h => h.elim⟩
                · intro xs W hW hn
                  simp [flowNeeds, Region.binds] at hn
                  simp only [flowAct, zwc, zwn]
                  try simp only [hn]
                  go_wp2_with (fail)
                  exact ⟨rfl, _, rfl, Below.refl _ _, rfl, fun h => h.elim⟩
                · intro xs W hW hn
                  simp [flowNeeds, Region.binds] at hn
                  simp only [flowAct, zwc, zwn]
                  try simp only [hn]
                  go_wp2_with (fail)
                  exact ⟨rfl, _, rfl, Below.refl _ _, rfl, fun h => h.elim⟩
                · intro xs W hW hn
                  obtain ⟨q0, q1, q2, q3⟩ := HAW.out W hW
                  simp [flowNeeds, Region.binds] at hn
                  simp only [flowAct, zwc, zwn]
                  try simp only [hn]
                  go_wp2_with (fail)
                  exact ⟨rfl, _, rfl, Below.refl _ _, rfl, fun h => h.elim⟩
                · intro xs W hW hn
                  have hsz2 := HSZ2.out
                  simp [flowNeeds, Region.binds] at hn
                  simp only [flowAct, zwc, zwn]
                  try simp only [hn]
                  go_wp2_with (fail)
                  exact ⟨rfl, _, rfl, Below.refl _ _, rfl, fun h => h.elim⟩
              · intro xs W hW hall hfr
                clear hfr
                simp only [flowAll, and_true, Nat.zero_add, Nat.reduceAdd] at hall
                obtain ⟨-,-,-,-,-,-,-,-,-,-,-,-, e12, -,-,-,-,-,-,-,-,-, e22⟩ := hall
                simp only [flowAct, zwc, zwn, List.drop_succ_cons, List.drop_zero]
                simp only [e12, e22]
                have HB5 := Lib.hid (HB.out.trans (hW.mono HB.out.size))
                clear hW e12 e22 HA0 HA1 HAT HAW HSZ HSZ2
                go_wp2_with (go_at_call 29; (with_reducible refine (HA2.out _).mono ?_); rintro e9 w9 ⟨rfl, rfl⟩)
                go_roundw
                case rel => exact ⟨j + 1, _, by omega, by go_num, rfl, satM_le _ _, HST.out, HB5.out⟩
                case measure => simp [intOf]; omega
          · obtain rfl : j = mw := by omega
            go_wp2
            go_roundw
            case rel => exact ⟨i + 1, q2, by omega, by go_num, rfl, hq2, HLO.out, HB.out⟩
            case measure => simp [intOf]; omega
    · obtain rfl : i = m := by omega
      by_cases hf : 6000 < q
      · have hfi : ¬ (q : Int) ≤ 6000 := by omega
        go_wp2
        go_loopw [7, 69] (fun v9 j9 wz => v9 = .int .i64 (q : Int) ∧ j9 = .int .i64 0 ∧ Below w.heap.size w wz) (fun _ _ _ => 0)
        case atStart => exact ⟨rfl, rfl, HB.out⟩
        case round =>
          obtain ⟨rfl, rfl, hB9⟩ := hrel
          have HB9 := Lib.hid hB9
          clear hB9
          go_wp2
          go_ret
          exact ⟨_, rfl, fun h => by have := of_decide_eq_true h; omega, HB9.out⟩
      · have hfi : (q : Int) ≤ 6000 := by omega
        have HM := Lib.hid (show i ≤ 600 by have := HLO.out (by omega); omega)
        go_wp2
        go_loopw [7, 69] (fun v9 j9 wz => v9 = .int .i64 (q : Int) ∧ j9 = .int .i64 0 ∧ Below w.heap.size w wz) (fun _ _ _ => 0)
        case atStart => exact ⟨rfl, rfl, HB.out⟩
        case round =>
          obtain ⟨rfl, rfl, hB9⟩ := hrel
          have HB9 := Lib.hid hB9
          clear hB9
          go_wp2
          go_ret
          exact ⟨_, rfl, fun h => HM.out, HB9.out⟩
end Go.Proofs.Yteffbibmfpdenaa
end

