/-
  Merged: K2 KB MA E9 H7 H8 H9.
-/
import Derived.Deep.QuietTactic
import Derived.StillTail
import Derived.Lib.QuietBelow
import Derived.Test.YtfkmfccdhmnllaaDoorRows
import Derived.WalkKit
import Derived.Lib.Hide
import Derived.BigQuiet
import Derived.BigRegion
import Derived.Deep.Cut
import Derived.Deep.MidRow
import Derived.Great.BuildSlice
import Derived.Outline
import Derived.OwnWalk
import Derived.Laws.Rows
import Derived.ChangeKeysEq
import Derived.Laws.StructEq
import Derived.WalkSpells
import Derived.WalkLawsBesides
import Derived.Laws.CopyOwn
import Derived.WalkSmall
import Derived.Lib.LaidTab
import Derived.Deep.RegionWith
import Derived.Lib.MinMax
import Derived.WideShapes
import Derived.ChangeSame
import Derived.OpenShut
import Derived.Deep.Slices
import Derived.Deep.AppendSrc
import Derived.Lib.AppendZerosOnto
import Derived.Lib.SliceRun
import Derived.Lib.Walk
import Derived.Lib.OthersKept
import Derived.Laws.RangeAny
import Derived.Maps.OwnOps
import Derived.Maps.Views
import Derived.ChangeSlices
import Derived.ChangeArms
import Derived.Deep.DeepAppendWide
import Derived.OrdersIn
import Derived.TacticsIn
import Derived.RangeFuncNested
import Derived.RangeFuncBound
import Derived.RangeFuncCalls
import Derived.RangeFuncLeaves
import Derived.Maps.AppendAt
import Derived.Shelf.Abstract
import Derived.OwnWalkIn
import Derived.TacticsInMore
import Derived.LoopNIn
import Derived.LoopIn
import Derived.Stop.LaidErr
import Derived.Test.YtfkmfccdhmnllaaDoorSC5

section
namespace Go.Proofs.YtfkmfccdhmnllaaDoor
open Go.RowKit Go Go.Sort
set_option linter.unusedVariables false
set_option maxRecDepth 20000

def cseenS (p n s a b : Int) (g : Bool) (t : List UInt8) (d e : Int) : List UInt8 × Bool :=
  if (cgoodS p n s a b g t d e && (wroteS n s a b g t && (!g && vcov a b d e))) = true then (t, true) else ([], false)

end Go.Proofs.YtfkmfccdhmnllaaDoor
end

section
namespace Go.Proofs.YtfkmfccdhmnllaaDoor
open Go.RowKit Go Go.Sort
set_option linter.unusedVariables false
set_option maxRecDepth 20000

set_option maxHeartbeats 6400000 in
theorem cseen_c (p n s a b : Int) (g : Bool) (t : List UInt8) (d e : Int) (hmax : t.length ≤ 9223372036854775807) (w : World) :
    Calls Tryd.prog 26 #[.int .i64 p, .agg #[.int .i64 n, .int .i64 s, .int .i64 a, .int .i64 b, .bool g, .string (text t), .int .i64 d, .int .i64 e]] w (Tells (.tuple #[.string (text (cseenS p n s a b g t d e).1), .bool (cseenS p n s a b g t d e).2]) w) := by
  have hp := Cel.new w n s a b g t d e
  have hb := alloc_below w (.cells #[.int .i64 n, .int .i64 s, .int .i64 a, .int .i64 b, .bool g, .string (text t), .int .i64 d, .int .i64 e] 67)
  have HB := Lib.hid hb
  have HV := (show cseenS p n s a b g t d e = if (cgoodS p n s a b g t d e && (wroteS n s a b g t && (!g && vcov a b d e))) = true then (t, true) else ([], false) from rfl)
  obtain ⟨r, hr⟩ : ∃ r, cseenS p n s a b g t d e = r := ⟨_, rfl⟩
  rw [hr] at HV ⊢
  have HG := fun W => cgood_c p n s a b g t d e hmax W
  have HW := fun W => written_c n s a b g t d e W
  have HK := fun W => vcov_c a b d e W
  clear hb hr hmax
  go_enter Tryd.func26, Tryd.ntmps26
  go_upto_region 1 with (fail)
  have HC := Lib.hid (fun W (h : Below (w.alloc (.cells #[.int .i64 n, .int .i64 s, .int .i64 a, .int .i64 b, .bool g, .string (text t), .int .i64 d, .int .i64 e] 67)).heap.size (w.alloc (.cells #[.int .i64 n, .int .i64 s, .int .i64 a, .int .i64 b, .bool g, .string (text t), .int .i64 d, .int .i64 e] 67)) W) => (hp.kept h).cs)
  generalize w.alloc (.cells #[.int .i64 n, .int .i64 s, .int .i64 a, .int .i64 b, .bool g, .string (text t), .int .i64 d, .int .i64 e] 67) = W1 at *
  clear hp
  have hcur := Below.refl W1.heap.size W1
  obtain ⟨c0, c1, c2, c3, c4, c5, c6, c7⟩ := HC.out _ hcur
  cases hg : cgoodS p n s a b g t d e with
  | false =>
    rw [hg] at HG
    rw [hg] at HV
    clear hg
    replace HG := Lib.hid HG
    replace HV := Lib.hid HV
    clear HW HK
    go_wp2_with (first
      | (go_at_call 57; (with_reducible refine (HG.out _).mono ?_); rintro e9 w9 ⟨rfl, hb9⟩; (replace hcur := hcur.trans (hb9.mono hcur.size)); clear hb9; obtain ⟨c0, c1, c2, c3, c4, c5, c6, c7⟩ := HC.out _ hcur))
    go_ret2
    exact ⟨by rw [HV.out]; rfl, HB.out.trans (hcur.mono HB.out.size)⟩
  | true =>
    rw [hg] at HG
    rw [hg] at HV
    clear hg
    cases hw : wroteS n s a b g t with
    | false =>
      rw [hw] at HW
      rw [hw] at HV
      clear hw
      replace HG := Lib.hid HG
      replace HW := Lib.hid HW
      replace HV := Lib.hid HV
      clear HK
      go_wp2_with (first
        | (go_at_call 57; (with_reducible refine (HG.out _).mono ?_); rintro e9 w9 ⟨rfl, hb9⟩; (replace hcur := hcur.trans (hb9.mono hcur.size)); clear hb9; obtain ⟨c0, c1, c2, c3, c4, c5, c6, c7⟩ := HC.out _ hcur)
        | (go_at_call 58; (with_reducible refine (HW.out _).mono ?_); rintro e9 w9 ⟨rfl, hb9⟩; (replace hcur := hcur.trans (hb9.mono hcur.size)); clear hb9; obtain ⟨c0, c1, c2, c3, c4, c5, c6, c7⟩ := HC.out _ hcur))
      go_ret2
      exact ⟨by rw [HV.out]; rfl, HB.out.trans (hcur.mono HB.out.size)⟩
    | true =>
      rw [hw] at HW
      rw [hw] at HV
      clear hw
      cases g with
      | true =>
        replace HG := Lib.hid HG
        replace HW := Lib.hid HW
        replace HV := Lib.hid HV
        clear HK
        go_wp2_with (first
          | (go_at_call 57; (with_reducible refine (HG.out _).mono ?_); rintro e9 w9 ⟨rfl, hb9⟩; (replace hcur := hcur.trans (hb9.mono hcur.size)); clear hb9; obtain ⟨c0, c1, c2, c3, c4, c5, c6, c7⟩ := HC.out _ hcur)
          | (go_at_call 58; (with_reducible refine (HW.out _).mono ?_); rintro e9 w9 ⟨rfl, hb9⟩; (replace hcur := hcur.trans (hb9.mono hcur.size)); clear hb9; obtain ⟨c0, c1, c2, c3, c4, c5, c6, c7⟩ := HC.out _ hcur))
        go_ret2
        exact ⟨by rw [HV.out]; rfl, HB.out.trans (hcur.mono HB.out.size)⟩
      | false =>
        cases hk : vcov a b d e with
        | false =>
          rw [hk] at HK
          rw [hk] at HV
          clear hk
          replace HG := Lib.hid HG
          replace HW := Lib.hid HW
          replace HK := Lib.hid HK
          replace HV := Lib.hid HV
          go_wp2_with (first
            | (go_at_call 57; (with_reducible refine (HG.out _).mono ?_); rintro e9 w9 ⟨rfl, hb9⟩; (replace hcur := hcur.trans (hb9.mono hcur.size)); clear hb9; obtain ⟨c0, c1, c2, c3, c4, c5, c6, c7⟩ := HC.out _ hcur)
            | (go_at_call 58; (with_reducible refine (HW.out _).mono ?_); rintro e9 w9 ⟨rfl, hb9⟩; (replace hcur := hcur.trans (hb9.mono hcur.size)); clear hb9; obtain ⟨c0, c1, c2, c3, c4, c5, c6, c7⟩ := HC.out _ hcur)
            | (go_at_call 59; (with_reducible refine (HK.out _).mono ?_); rintro e9 w9 ⟨rfl, hb9⟩; (replace hcur := hcur.trans (hb9.mono hcur.size)); clear hb9; obtain ⟨c0, c1, c2, c3, c4, c5, c6, c7⟩ := HC.out _ hcur))
          go_ret2
          exact ⟨by rw [HV.out]; rfl, HB.out.trans (hcur.mono HB.out.size)⟩
        | true =>
          rw [hk] at HK
          rw [hk] at HV
          clear hk
          replace HG := Lib.hid HG
          replace HW := Lib.hid HW
          replace HK := Lib.hid HK
          replace HV := Lib.hid HV
          go_wp2_with (first
            | (go_at_call 57; (with_reducible refine (HG.out _).mono ?_); rintro e9 w9 ⟨rfl, hb9⟩; (replace hcur := hcur.trans (hb9.mono hcur.size)); clear hb9; obtain ⟨c0, c1, c2, c3, c4, c5, c6, c7⟩ := HC.out _ hcur)
            | (go_at_call 58; (with_reducible refine (HW.out _).mono ?_); rintro e9 w9 ⟨rfl, hb9⟩; (replace hcur := hcur.trans (hb9.mono hcur.size)); clear hb9; obtain ⟨c0, c1, c2, c3, c4, c5, c6, c7⟩ := HC.out _ hcur)
            | (go_at_call 59; (with_reducible refine (HK.out _).mono ?_); rintro e9 w9 ⟨rfl, hb9⟩; (replace hcur := hcur.trans (hb9.mono hcur.size)); clear hb9; obtain ⟨c0, c1, c2, c3, c4, c5, c6, c7⟩ := HC.out _ hcur))
          go_ret2
          exact ⟨by rw [HV.out]; rfl, HB.out.trans (hcur.mono HB.out.size)⟩

end Go.Proofs.YtfkmfccdhmnllaaDoor
end

section
namespace Go.Proofs.YtfkmfccdhmnllaaDoor
open Go.RowKit Go Go.Sort
set_option linter.unusedVariables false
set_option maxRecDepth 20000

theorem rgood_inv {gs : List Grp} {k : List UInt8} {cs : List Cl} (h : rgoodS gs k cs = 0) : pgoodS gs = 0 ∧ keyS k = 0 ∧ cs.length = gs.length ∧ ∀ j, j < gs.length → cgAt gs cs j = true := by
  unfold rgoodS at h
  by_cases h1 : pgoodS gs = 0
  · rw [if_neg (by simp [h1])] at h
    by_cases h2 : keyS k = 0
    · rw [if_neg (by simp [h2])] at h
      by_cases h3 : cs.length = gs.length
      · rw [if_neg (by simp [h3])] at h
        by_cases h4 : (List.range gs.length).all (cgAt gs cs) = true
        · exact ⟨h1, h2, h3, fun j hj => List.all_eq_true.1 h4 j (List.mem_range.2 hj)⟩
        · rw [if_neg h4] at h; cases h
      · rw [if_pos h3] at h; cases h
    · rw [if_pos h2] at h; exact absurd h h2
  · rw [if_pos h1] at h; exact absurd h h1
end Go.Proofs.YtfkmfccdhmnllaaDoor
end

section
namespace Go.Proofs.YtfkmfccdhmnllaaDoor
open Go.RowKit Go Go.Sort
set_option linter.unusedVariables false
set_option maxRecDepth 20000

/-- A write's place. -/
def Wr.pl (c : Wr) : List UInt8 × Int := (c.k, c.i)
theorem strictW : Strict (lexR Op.bytesLess ltI) := strictT.lex strictI
theorem ahead_lex (a b : Wr) : aheadS a b = lexR Op.bytesLess ltI a.pl b.pl := by
  unfold aheadS lexR ltI Wr.pl
  by_cases h : a.k = b.k
  · rw [if_neg (by simp [h]), if_pos h]
  · rw [if_pos (by simp [h]), if_neg h]
theorem ahead_tr {a b c : Wr} (h1 : aheadS a b = true) (h2 : aheadS b c = true) : aheadS a c = true := by
  rw [ahead_lex] at *; exact strictW.tr _ _ _ h1 h2
theorem ahead_pl {a b : Wr} (h : a.pl = b.pl) : aheadS a b = false := by rw [ahead_lex, h]; exact strictW.irr _
end Go.Proofs.YtfkmfccdhmnllaaDoor
end

section
namespace Go.Proofs.YtfkmfccdhmnllaaDoor
open Go.RowKit Go Go.Sort
set_option linter.unusedVariables false
set_option maxRecDepth 20000

theorem cof_good {p n s a b : Int} {g : Bool} {t : List UInt8} {c : Cl} (h : cofS p n s a b g t = (c, 0)) : c.good p = true ∧ c.t.length ≤ t.length := by
  unfold cofS at h
  by_cases ha : argS p n s a b g t = true
  · rw [if_pos ha] at h
    by_cases hl : 64 < t.length
    · rw [if_pos hl] at h; simp at h
    · rw [if_neg hl] at h
      unfold argS at ha
      simp only [Bool.and_eq_true, Bool.or_eq_true, beq_iff_eq, whenS, decide_eq_true_eq] at ha
      obtain ⟨hp, ⟨hs, hn⟩, hv, hg⟩ := ha
      by_cases h2 : ((p == 2) && g) = true
      · rw [if_pos h2] at h
        simp only [Prod.mk.injEq, and_true] at h
        subst h
        simp only [Bool.and_eq_true, beq_iff_eq] at h2
        refine ⟨?_, Nat.zero_le _⟩
        simp [Cl.good, cgoodS, wroteS, h2.1, hv]
      · rw [if_neg h2] at h
        simp only [Prod.mk.injEq, and_true] at h
        subst h
        refine ⟨?_, Nat.le_refl _⟩
        have hlt : t.length ≤ 64 := by omega
        rcases hp with rfl | rfl
        · cases g <;> simp_all [Cl.good, cgoodS, zeroS]
        · cases g <;> simp_all [Cl.good, cgoodS, zeroS, vgood]
  · rw [if_neg ha] at h; simp at h
theorem set_getD (cs : List Cl) (i j : Nat) (x : Cl) : (cs.set i x).getD j Cl.zero = if i = j ∧ i < cs.length then x else cs.getD j Cl.zero := by
  simp only [List.getD_eq_getElem?_getD, List.getElem?_set]
  by_cases e : i = j
  · subst e
    by_cases h : i < cs.length
    · simp [h]
    · simp [h]
  · simp [e]
theorem cof_ok {p n s a b : Int} {g : Bool} {t : List UInt8} {c : Cl} (h : cofS p n s a b g t = (c, 0)) : (p = 1 ∨ p = 2) ∧ sgood n s = true ∧ 0 < n ∧ vgood a b = true ∧ (g = true → t = []) ∧ t.length ≤ 64 ∧
    ((p = 2 ∧ g = true ∧ c = ⟨0, 0, 0, 0, false, [], a, b⟩) ∨ ((p = 2 → g = false) ∧ c = ⟨n, s, a, b, g, t, 0, 0⟩)) := by
  unfold cofS at h
  by_cases ha : argS p n s a b g t = true
  · rw [if_pos ha] at h
    by_cases hl : 64 < t.length
    · rw [if_pos hl] at h; simp at h
    · rw [if_neg hl] at h
      unfold argS at ha
      simp only [Bool.and_eq_true, Bool.or_eq_true, beq_iff_eq, whenS, decide_eq_true_eq] at ha
      obtain ⟨hp, ⟨hs, hn⟩, hv, hg⟩ := ha
      refine ⟨hp, hs, hn, hv, ?_, by omega, ?_⟩
      · intro hgt; subst hgt; simpa using hg
      · by_cases h2 : ((p == 2) && g) = true
        · rw [if_pos h2] at h
          simp only [Prod.mk.injEq, and_true] at h
          simp only [Bool.and_eq_true, beq_iff_eq] at h2
          exact .inl ⟨h2.1, h2.2, h.symm⟩
        · rw [if_neg h2] at h
          simp only [Prod.mk.injEq, and_true] at h
          refine .inr ⟨fun hp2 => ?_, h.symm⟩
          subst hp2
          simpa using h2
  · rw [if_neg ha] at h; simp at h
theorem seen_one {p n s a b n' s' a' b' d' e' : Int} {g g' : Bool} {t t' : List UInt8} (h : cofS p n s a b g t = (⟨n', s', a', b', g', t', d', e'⟩, 0)) : cseenS p n' s' a' b' g' t' d' e' = if g = true then ([], false) else (t, true) := by
  obtain ⟨hp, hs, hn, hv, hgt, hl, hc⟩ := cof_ok h
  have hn0 : (n != 0) = true := by simp; omega
  obtain ⟨v0, v2, v1, v3⟩ := vgood_bd hv
  rcases hc with ⟨rfl, rfl, hc⟩ | ⟨hpg, hc⟩
  · simp only [Cl.mk.injEq] at hc
    obtain ⟨rfl, rfl, rfl, rfl, rfl, rfl, rfl, rfl⟩ := hc
    simp [cseenS, wroteS]
  · simp only [Cl.mk.injEq] at hc
    obtain ⟨rfl, rfl, rfl, rfl, rfl, rfl, rfl, rfl⟩ := hc
    cases g' with
    | true => simp [cseenS]
    | false =>
      rcases hp with rfl | rfl <;> simp [cseenS, cgoodS, wroteS, hn0, zeroS, hs, hn, hl, vcov, v0, v1, v2, v3, vgood]
theorem rowPut_nil (n1 : Nat) (k : List UInt8) (i : Nat) (x : Cl) : rowPut n1 [] k i x = [(k, (zerosC n1).set i x)] := by simp [rowPut]
theorem rowPut_new {n1 : Nat} {R0 : List (List UInt8 × List Cl)} {kl k : List UInt8} {cs : List Cl} {i : Nat} {x : Cl} (h : kl ≠ k) : rowPut n1 (R0 ++ [(kl, cs)]) k i x = (R0 ++ [(kl, cs)]) ++ [(k, (zerosC n1).set i x)] := by
  unfold rowPut
  rw [if_pos]
  right
  simp [List.getD_eq_getElem?_getD]
  exact h
theorem rowPut_old {n1 : Nat} {R0 : List (List UInt8 × List Cl)} {k : List UInt8} {cs : List Cl} {i : Nat} {x : Cl} : rowPut n1 (R0 ++ [(k, cs)]) k i x = R0 ++ [(k, cs.set i x)] := by
  unfold rowPut
  rw [if_neg]
  · simp [List.getD_eq_getElem?_getD]
  · simp [List.getD_eq_getElem?_getD]
theorem hasN_iff {ws : List Wr} {key : List UInt8} {g : Int} : ∀ {k : Nat}, hasN ws key g k = true ↔ ∃ j, j < k ∧ (ws.getD j Wr.zero).k = key ∧ (ws.getD j Wr.zero).i = g
  | 0 => by simp [hasN]
  | k + 1 => by
    show (hasN ws key g k || plEq _ _ _ _) = true ↔ _
    rw [Bool.or_eq_true, hasN_iff]
    unfold plEq
    simp only [Bool.and_eq_true, decide_eq_true_eq, beq_iff_eq]
    constructor
    · rintro (⟨j, hj, h1, h2⟩ | ⟨h1, h2⟩)
      · exact ⟨j, by omega, h1, h2⟩
      · exact ⟨k, by omega, h1, h2⟩
    · rintro ⟨j, hj, h1, h2⟩
      by_cases e : j = k
      · subst e; exact .inr ⟨h1, h2⟩
      · exact .inl ⟨j, by omega, h1, h2⟩
theorem countP_one (f : Nat → Bool) (i : Nat) (hf : f i = false) : ∀ n, (List.range n).countP (fun g => f g || g == i) = (List.range n).countP f + (if i < n then 1 else 0)
  | 0 => rfl
  | n + 1 => by
    rw [List.range_succ, List.countP_append, List.countP_append, countP_one f i hf n]
    simp only [List.countP_cons, List.countP_nil, Nat.zero_add]
    by_cases e : n = i
    · subst e
      simp [hf]
    · have e2 : (n == i) = false := by simpa using e
      rw [e2, Bool.or_false]
      by_cases h1 : i < n
      · rw [if_pos h1, if_pos (show i < n + 1 by omega)]; omega
      · rw [if_neg h1, if_neg (show ¬ i < n + 1 by omega)]
        generalize (if f n = true then 1 else 0) = z
        omega
section
variable {gs : List Grp} {n s a b : Int} {ws : List Wr}
theorem w_lt (hall : ∀ k, k < ws.length → wAt gs.length ws k = true) : ∀ k, k < ws.length → ∀ j, j < k → aheadS (ws.getD j Wr.zero) (ws.getD k Wr.zero) = true
  | 0, _, j, hj => by omega
  | k + 1, hk, j, hj => by
    have h := hall (k + 1) hk
    unfold wAt at h
    simp only [Bool.and_eq_true, Bool.or_eq_true, decide_eq_true_eq] at h
    have h2 : aheadS (ws.getD k Wr.zero) (ws.getD (k + 1) Wr.zero) = true := by
      rcases h.2 with e | e
      · omega
      · exact e
    by_cases e : j = k
    · subst e; exact h2
    · exact ahead_tr (w_lt hall k (by omega) j (by omega)) h2
theorem ahead_le {x y : Wr} (h : aheadS x y = true) : x.k = y.k ∨ Op.bytesLess x.k y.k = true := by
  unfold aheadS at h
  by_cases e : (x.k == y.k) = false
  · rw [if_pos e] at h; exact .inr h
  · exact .inl (by simpa using e)
def cntR (n1 : Nat) (ws : List Wr) (key : List UInt8) (k : Nat) : Nat := (List.range n1).countP (fun g : Nat => hasN ws key (g : Int) k)
def RowInv (gs : List Grp) (n s a b : Int) (ws : List Wr) (k : Nat) (r : List UInt8 × List Cl) : Prop :=
  rgoodS gs r.1 r.2 = 0 ∧ (∀ g : Nat, g < gs.length → hasN ws r.1 (g : Int) k = false → r.2.getD g Cl.zero = Cl.zero) ∧
  ∀ j, j < k → (ws.getD j Wr.zero).k = r.1 → r.2.getD (ws.getD j Wr.zero).i.toNat Cl.zero = (cofS (gs.getD (ws.getD j Wr.zero).i.toNat ([], 0)).2 n s a b (ws.getD j Wr.zero).g (ws.getD j Wr.zero).v).1
structure RInv (gs : List Grp) (n s a b : Int) (ws : List Wr) (k : Nat) (R : List (List UInt8 × List Cl)) : Prop where
  asc : R.Pairwise (fun r r' => Op.bytesLess r.1 r'.1 = true)
  last : (k = 0 ∧ R = []) ∨ ∃ R0 cs, R = R0 ++ [((ws.getD (k - 1) Wr.zero).k, cs)]
  row : ∀ r ∈ R, RowInv gs n s a b ws k r
  cnt : (R.map (fun r => cntR gs.length ws r.1 k)).sum = k
theorem bl_ne {x y : List UInt8} (h : Op.bytesLess x y = true) : x ≠ y := by
  rintro rfl
  rw [show Op.bytesLess x x = false from strictT.irr x] at h
  cases h
theorem hasN_skip {key : List UInt8} {g : Int} {k : Nat} (h : (ws.getD k Wr.zero).k ≠ key) : hasN ws key g (k + 1) = hasN ws key g k := by
  show (hasN ws key g k || plEq _ _ _ _) = _
  have : plEq (ws.getD k Wr.zero).k (ws.getD k Wr.zero).i key g = false := by
    unfold plEq
    rw [decide_eq_false h]
    rfl
  rw [this, Bool.or_false]
theorem cof_mine (hp : pgoodS gs = 0) (hv : whenS n s = true ∧ vgood a b = true) {w : Wr} (hw : mayS gs.length w = true) : ∃ c, cofS (gs.getD w.i.toNat ([], 0)).2 n s a b w.g w.v = (c, 0) := by
  unfold mayS at hw
  simp only [Bool.and_eq_true, Bool.or_eq_true, decide_eq_true_eq, Bool.not_eq_true', beq_iff_eq] at hw
  obtain ⟨h1, h2, h3, h4, h5⟩ := hw
  have hpol := pgood_pol hp w.i.toNat (by omega)
  unfold cofS
  have ha : argS (gs.getD w.i.toNat ([], 0)).2 n s a b w.g w.v = true := by
    unfold argS
    rw [hv.1, hv.2]
    rcases hpol with e | e <;> rw [e] <;> rcases h5 with e5 | e5 <;> simp [e5]
  rw [if_pos ha, if_neg (by omega)]
  split
  · exact ⟨_, rfl⟩
  · exact ⟨_, rfl⟩
theorem rinv_step (hp : pgoodS gs = 0) (hv : whenS n s = true ∧ vgood a b = true) (hall : ∀ k, k < ws.length → wAt gs.length ws k = true) {k : Nat} (hk : k < ws.length) {R0 : List (List UInt8 × List Cl)} {cs : List Cl}
    (h1 : (R0 ++ [((ws.getD k Wr.zero).k, cs)]).Pairwise (fun r r' => Op.bytesLess r.1 r'.1 = true)) (h2 : ∀ r ∈ R0, RowInv gs n s a b ws k r) (h3 : RowInv gs n s a b ws k ((ws.getD k Wr.zero).k, cs))
    (h4 : (R0.map (fun r => cntR gs.length ws r.1 k)).sum + cntR gs.length ws (ws.getD k Wr.zero).k k = k) :
    RInv gs n s a b ws (k + 1) (R0 ++ [((ws.getD k Wr.zero).k, cs.set (ws.getD k Wr.zero).i.toNat (cofS (gs.getD (ws.getD k Wr.zero).i.toNat ([], 0)).2 n s a b (ws.getD k Wr.zero).g (ws.getD k Wr.zero).v).1)]) := by
  have hmay := w_at (hall k hk)
  obtain ⟨c, hc⟩ := cof_mine hp hv hmay
  have hkey := may_key hmay
  have hlt := w_lt hall k hk
  have hi : 0 ≤ (ws.getD k Wr.zero).i ∧ (ws.getD k Wr.zero).i < (gs.length : Int) := by
    unfold mayS at hmay
    simp only [Bool.and_eq_true, decide_eq_true_eq] at hmay
    exact ⟨hmay.2.1, hmay.2.2.1⟩
  obtain ⟨w, hw⟩ : ∃ w, ws.getD k Wr.zero = w := ⟨_, rfl⟩
  rw [hw] at h1 h3 h4 hc hkey hlt hi ⊢
  rw [hc]
  have hno : hasN ws w.k w.i k = false := by
    cases e : hasN ws w.k w.i k with
    | false => rfl
    | true =>
      obtain ⟨j, hj, e1, e2⟩ := hasN_iff.1 e
      have := hlt j hj
      rw [ahead_pl (show (ws.getD j Wr.zero).pl = w.pl by unfold Wr.pl; rw [e1, e2])] at this
      cases this
  have hne : ∀ r ∈ R0, w.k ≠ r.1 := fun r hr e => by
    have := (List.pairwise_append.1 h1).2.2 r hr _ (List.mem_singleton.2 rfl)
    exact bl_ne this e.symm
  obtain ⟨p1, p2, p3⟩ := h3
  simp only at p1 p2 p3
  obtain ⟨-, -, hcl, hcg⟩ := rgood_inv p1
  have hit : ((w.i.toNat : Nat) : Int) = w.i := Int.toNat_of_nonneg hi.1
  have hil : w.i.toNat < gs.length := by omega
  refine ⟨?_, .inr ⟨R0, _, by rw [Nat.add_sub_cancel, hw]⟩, fun r hr => ?_, ?_⟩
  · rw [List.pairwise_append] at h1 ⊢
    refine ⟨h1.1, by simp, fun r hr r' hr' => ?_⟩
    rw [List.mem_singleton.1 hr']
    exact h1.2.2 r hr (w.k, cs) (List.mem_singleton.2 rfl)
  · rcases List.mem_append.1 hr with h | h
    · obtain ⟨q1, q2, q3⟩ := h2 r h
      refine ⟨q1, fun g hg hh => q2 g hg ?_, fun j hj he => ?_⟩
      · rw [hasN_skip (by rw [hw]; exact hne r h)] at hh; exact hh
      · by_cases e : j = k
        · subst e; rw [hw] at he; exact absurd he (hne r h)
        · exact q3 j (by omega) he
    · rw [List.mem_singleton.1 h]
      refine ⟨rgood_yes hp hkey (by rw [List.length_set]; exact hcl) fun j hj => ?_, fun g hg hh => ?_, fun j hj he => ?_⟩
      · unfold cgAt
        rw [set_getD]
        split
        · rename_i e; rw [← e.1]; exact (cof_good hc).1
        · exact hcg j hj
      · have hs : hasN ws w.k (g : Int) (k + 1) = (hasN ws w.k (g : Int) k || plEq w.k w.i w.k (g : Int)) := by rw [← hw]; rfl
        simp only at hh
        rw [hs, Bool.or_eq_false_iff] at hh
        have hgi : w.i.toNat ≠ g := fun e => by
          have h9 := hh.2
          unfold plEq at h9
          rw [← e, hit] at h9
          simp at h9
        simp only
        rw [set_getD, if_neg (fun e => hgi e.1)]
        exact p2 g hg hh.1
      · simp only at he ⊢
        by_cases e : j = k
        · subst e
          rw [hw, set_getD, if_pos ⟨rfl, by omega⟩, hc]
        · have hj2 : j < k := by omega
          have hmj := w_at (hall j (by omega))
          have hji : 0 ≤ (ws.getD j Wr.zero).i := by
            unfold mayS at hmj
            simp only [Bool.and_eq_true, decide_eq_true_eq] at hmj
            exact hmj.2.1
          have hd : w.i.toNat ≠ (ws.getD j Wr.zero).i.toNat := fun e9 => by
            have := hlt j hj2
            rw [ahead_pl (show (ws.getD j Wr.zero).pl = w.pl by unfold Wr.pl; rw [he]; congr 1; omega)] at this
            cases this
          rw [set_getD, if_neg (fun e => hd e.1)]
          exact p3 j hj2 he
  · rw [List.map_append, List.sum_append]
    have e1 : R0.map (fun r => cntR gs.length ws r.1 (k + 1)) = R0.map (fun r => cntR gs.length ws r.1 k) := by
      apply List.map_congr_left
      intro r hr
      unfold cntR
      congr 1
      funext g
      exact hasN_skip (by rw [hw]; exact hne r hr)
    have e2 : cntR gs.length ws w.k (k + 1) = cntR gs.length ws w.k k + 1 := by
      unfold cntR
      have hf : (fun g : Nat => hasN ws w.k (g : Int) (k + 1)) = (fun g : Nat => hasN ws w.k (g : Int) k || g == w.i.toNat) := by
        funext g
        have hs : hasN ws w.k (g : Int) (k + 1) = (hasN ws w.k (g : Int) k || plEq w.k w.i w.k (g : Int)) := by rw [← hw]; rfl
        rw [hs]
        congr 1
        unfold plEq
        rw [Bool.eq_iff_iff]
        simp
        omega
      rw [hf, countP_one (fun g : Nat => hasN ws w.k (g : Int) k) w.i.toNat (by show hasN ws w.k ((w.i.toNat : Nat) : Int) k = false; rw [hit]; exact hno), if_pos hil]
    rw [e1]
    simp only [List.map_cons, List.map_nil, List.sum_cons, List.sum_nil]
    rw [e2]
    omega
theorem rinv (hp : pgoodS gs = 0) (hv : whenS n s = true ∧ vgood a b = true) (hall : ∀ k, k < ws.length → wAt gs.length ws k = true) : ∀ k, k ≤ ws.length → RInv gs n s a b ws k (wrowN gs n s a b ws k)
  | 0, _ => ⟨List.Pairwise.nil, .inl ⟨rfl, rfl⟩, fun r hr => (by cases hr), rfl⟩
  | k + 1, hk => by
    have ih := rinv hp hv hall k (by omega)
    have hmay := w_at (hall k (by omega))
    have hz : ∀ key : List UInt8, keyS key = 0 → (∀ j, j < k → (ws.getD j Wr.zero).k ≠ key) → RowInv gs n s a b ws k (key, zerosC gs.length) ∧ cntR gs.length ws key k = 0 := fun key h0 hn => by
      have hf : ∀ g : Int, hasN ws key g k = false := fun g => by
        cases e : hasN ws key g k with
        | false => rfl
        | true => obtain ⟨j, hj, e1, -⟩ := hasN_iff.1 e; exact absurd e1 (hn j hj)
      refine ⟨⟨rgood_yes hp h0 (by simp [zerosC]) fun j hj => ?_, fun g hg _ => by simp [zerosC, hg], fun j hj he => absurd he (hn j hj)⟩, ?_⟩
      · unfold cgAt
        rw [show (zerosC gs.length).getD j Cl.zero = Cl.zero by simp [zerosC, hj]]
        exact cg_zero (pgood_pol hp j hj)
      · unfold cntR
        rw [List.countP_eq_zero]
        intro g _
        simp [hf]
    show RInv gs n s a b ws (k + 1) (rowPut gs.length (wrowN gs n s a b ws k) _ _ _)
    rcases ih.last with ⟨rfl, hR⟩ | ⟨R0, cs, hR⟩
    · rw [hR, rowPut_nil]
      obtain ⟨z1, z2⟩ := hz (ws.getD 0 Wr.zero).k (may_key hmay) (fun j hj => by omega)
      exact rinv_step hp hv hall (by omega) (R0 := []) (by simp) (fun r hr => by cases hr) z1 (by rw [z2]; rfl)
    · have hk0 : 0 < k := by
        rcases Nat.eq_zero_or_pos k with e | e
        · subst e
          have : wrowN gs n s a b ws 0 = [] := rfl
          rw [this] at hR
          simp at hR
        · exact e
      have hasc := ih.asc
      have hrow := ih.row
      have hcnt := ih.cnt
      rw [hR] at hasc hrow hcnt ⊢
      by_cases e : (ws.getD (k - 1) Wr.zero).k = (ws.getD k Wr.zero).k
      · rw [e] at hasc hrow hcnt ⊢
        rw [rowPut_old]
        refine rinv_step hp hv hall (by omega) hasc (fun r hr => hrow r (List.mem_append_left _ hr)) (hrow _ (List.mem_append_right _ (List.mem_singleton.2 rfl))) ?_
        rw [List.map_append, List.sum_append] at hcnt
        simpa using hcnt
      · rw [rowPut_new e]
        have hle : ∀ j, j < k → (ws.getD j Wr.zero).k = (ws.getD (k - 1) Wr.zero).k ∨ Op.bytesLess (ws.getD j Wr.zero).k (ws.getD (k - 1) Wr.zero).k = true := fun j hj => by
          by_cases ej : j = k - 1
          · subst ej; exact .inl rfl
          · exact ahead_le (w_lt hall (k - 1) (by omega) j (by omega))
        have hl : Op.bytesLess (ws.getD (k - 1) Wr.zero).k (ws.getD k Wr.zero).k = true := by
          rcases ahead_le (w_lt hall k (by omega) (k - 1) (by omega)) with h | h
          · exact absurd h e
          · exact h
        have hn : ∀ j, j < k → (ws.getD j Wr.zero).k ≠ (ws.getD k Wr.zero).k := fun j hj => by
          rcases hle j hj with h | h
          · rw [h]; exact e
          · exact bl_ne (strictT.tr _ _ _ h hl)
        obtain ⟨z1, z2⟩ := hz (ws.getD k Wr.zero).k (may_key hmay) hn
        refine rinv_step hp hv hall (by omega) ?_ hrow z1 (by rw [z2]; exact hcnt)
        rw [List.pairwise_append]
        refine ⟨hasc, by simp, fun r hr r' hr' => ?_⟩
        rw [List.mem_singleton.1 hr']
        rcases List.mem_append.1 hr with h | h
        · exact strictT.tr _ _ _ ((List.pairwise_append.1 hasc).2.2 r h _ (List.mem_singleton.2 rfl)) hl
        · rw [List.mem_singleton.1 h]; exact hl
end
end Go.Proofs.YtfkmfccdhmnllaaDoor
end

section
namespace Go.Proofs.YtfkmfccdhmnllaaDoor
open Go.RowKit Go Go.Sort
set_option linter.unusedVariables false
set_option maxRecDepth 20000

theorem cof_short (p n s a b : Int) (g : Bool) (t : List UInt8) : (cofS p n s a b g t).1.t.length ≤ t.length := by
  unfold cofS
  split
  · split
    · exact Nat.zero_le _
    · split
      · exact Nat.zero_le _
      · exact Nat.le_refl _
  · exact Nat.zero_le _
/-- All that the walk wants of the rows. -/
structure RFacts (gs : List Grp) (ws : List Wr) (m : Nat) (R : List (List UInt8 × List Cl)) : Prop where
  good : ∀ r ∈ R, rgoodS gs r.1 r.2 = 0 ∧ r.1.length ≤ 32 ∧ r.2.length = gs.length ∧ ∀ c ∈ r.2, c.t.length ≤ 64
  asc : ∀ i, i + 1 < R.length → Op.bytesLess (R.getD i ([], [])).1 (R.getD (i + 1) ([], [])).1 = true
  none : ∀ r ∈ R, ∀ g : Nat, g < gs.length → hasN ws r.1 (g : Int) m = false → r.2.getD g Cl.zero = Cl.zero
  some : ∀ r ∈ R, ∀ g : Nat, g < gs.length → hasN ws r.1 (g : Int) m = true → ∃ (n' s' a' b' : Int) (g' : Bool) (t' : List UInt8) (d' e' : Int) (sv : List UInt8) (so : Bool), r.2.getD g Cl.zero = ⟨n', s', a', b', g', t', d', e'⟩ ∧ t'.length ≤ 64 ∧
    cseenS (gs.getD g ([], 0)).2 n' s' a' b' g' t' d' e' = (sv, so) ∧ ∀ k, k < m → (ws.getD k Wr.zero).k = r.1 → (ws.getD k Wr.zero).i = (g : Int) → sv = (ws.getD k Wr.zero).v ∧ so = !(ws.getD k Wr.zero).g
  cnt : (R.map (fun r => cntR gs.length ws r.1 m)).sum = m
theorem rows_facts {gs : List Grp} {site seq n s a b : Int} {ws : List Wr} (h : chgoodS gs site seq n s a b ws = 0) : RFacts gs ws ws.length (wrowN gs n s a b ws ws.length) := by
  obtain ⟨hp, hh, hall⟩ := ch_inv h
  obtain ⟨h1, h2, h3, h4, h5, h6, -, -, -⟩ := head_ok hh
  have hw : whenS n s = true ∧ vgood a b = true := by
    refine ⟨?_, h6⟩
    unfold sgood at h4
    unfold whenS sgood
    simp only [decide_eq_true_eq] at h4
    have hn : 0 < n := by
      rcases h4 with ⟨-, e⟩ | ⟨e, -⟩
      · rcases h1 with e1 | e1 <;> omega
      · omega
    simp [hn]
    omega
  have hR := rinv hp hw hall ws.length (Nat.le_refl _)
  refine ⟨fun r hr => ?_, fun i hi => ?_, fun r hr g hg hh => (hR.row r hr).2.1 g hg hh, fun r hr g hg hh => ?_, hR.cnt⟩
  · obtain ⟨q1, q2, q3⟩ := hR.row r hr
    obtain ⟨-, k1, k2, -⟩ := rgood_inv q1
    refine ⟨q1, ?_, k2, fun c hc => ?_⟩
    · unfold keyS at k1
      split at k1
      · cases k1
      · split at k1
        · cases k1
        · omega
    · obtain ⟨g, hg, rfl⟩ := List.getElem_of_mem hc
      have e : r.2.getD g Cl.zero = r.2[g] := by rw [List.getD_eq_getElem?_getD, List.getElem?_eq_getElem hg]; rfl
      rw [← e]
      cases hb : hasN ws r.1 (g : Int) ws.length with
      | false => rw [q2 g (by omega) hb]; exact Nat.zero_le _
      | true =>
        obtain ⟨j, hj, e1, e2⟩ := hasN_iff.1 hb
        have h9 := q3 j hj e1
        rw [show (ws.getD j Wr.zero).i.toNat = g by rw [e2]; rfl] at h9
        rw [h9]
        have hm := w_at (hall j hj)
        unfold mayS at hm
        simp only [Bool.and_eq_true, decide_eq_true_eq] at hm
        exact Nat.le_trans (cof_short _ _ _ _ _ _ _) hm.2.2.2.1
  · have hp := List.pairwise_iff_getElem.1 hR.asc i (i + 1) (by omega) hi (by omega)
    rw [List.getD_eq_getElem?_getD, List.getD_eq_getElem?_getD, List.getElem?_eq_getElem (show i < _ by omega), List.getElem?_eq_getElem hi]
    exact hp
  · obtain ⟨q1, q2, q3⟩ := hR.row r hr
    have key : ∀ k, k < ws.length → (ws.getD k Wr.zero).k = r.1 → (ws.getD k Wr.zero).i = (g : Int) → ∀ (n' s' a' b' : Int) (g' : Bool) (t' : List UInt8) (d' e' : Int), r.2.getD g Cl.zero = ⟨n', s', a', b', g', t', d', e'⟩ → t'.length ≤ 64 ∧ cseenS (gs.getD g ([], 0)).2 n' s' a' b' g' t' d' e' = ((ws.getD k Wr.zero).v, !(ws.getD k Wr.zero).g) := by
      intro k hk e1 e2 n' s' a' b' g' t' d' e' hcl
      have h9 := q3 k hk e1
      have hm := w_at (hall k hk)
      obtain ⟨c, hc⟩ := cof_mine (n := n) (s := s) (a := a) (b := b) hp hw hm
      rw [show (ws.getD k Wr.zero).i.toNat = g by rw [e2]; rfl] at h9 hc
      rw [hc] at h9
      simp only at h9
      rw [hcl] at h9
      rw [← h9] at hc
      have hl := cof_short (gs.getD g ([], 0)).2 n s a b (ws.getD k Wr.zero).g (ws.getD k Wr.zero).v
      rw [hc] at hl
      simp only at hl
      unfold mayS at hm
      simp only [Bool.and_eq_true, Bool.or_eq_true, decide_eq_true_eq, Bool.not_eq_true', beq_iff_eq] at hm
      refine ⟨by omega, ?_⟩
      rw [seen_one hc]
      cases eg : (ws.getD k Wr.zero).g with
      | false => simp
      | true =>
        rcases hm.2.2.2.2 with e | e
        · rw [eg] at e; cases e
        · rw [e]; rfl
    obtain ⟨j, hj, e1, e2⟩ := hasN_iff.1 hh
    obtain ⟨⟨n', s', a', b', g', t', d', e'⟩, hcl⟩ : ∃ z, r.2.getD g Cl.zero = z := ⟨_, rfl⟩
    obtain ⟨l1, l2⟩ := key j hj e1 e2 n' s' a' b' g' t' d' e' hcl
    refine ⟨n', s', a', b', g', t', d', e', _, _, hcl, l1, l2, fun k hk f1 f2 => ?_⟩
    have := (key k hk f1 f2 n' s' a' b' g' t' d' e' hcl).2
    rw [l2] at this
    simp only [Prod.mk.injEq] at this
    exact this
/-- How many cells are written ahead of a place. -/
def cntG (n1 : Nat) (ws : List Wr) (m : Nat) (R : List (List UInt8 × List Cl)) (i g : Nat) : Nat := ((R.take i).map (fun r => cntR n1 ws r.1 m)).sum + (List.range g).countP (fun x : Nat => hasN ws (R.getD i ([], [])).1 (x : Int) m)
theorem cntG_step {n1 : Nat} {ws : List Wr} {m : Nat} {R : List (List UInt8 × List Cl)} {i g : Nat} {key : List UInt8} (hk : (R.getD i ([], [])).1 = key) : cntG n1 ws m R i (g + 1) = cntG n1 ws m R i g + (if hasN ws key (g : Int) m = true then 1 else 0) := by
  subst hk
  unfold cntG
  rw [List.range_succ, List.countP_append]
  simp [Nat.add_assoc]
theorem cntG_row {n1 : Nat} {ws : List Wr} {m : Nat} {R : List (List UInt8 × List Cl)} {i : Nat} (hi : i < R.length) : cntG n1 ws m R i n1 = cntG n1 ws m R (i + 1) 0 := by
  unfold cntG
  rw [List.take_succ_eq_append_getElem hi, List.map_append, List.sum_append]
  simp [cntR, List.getD_eq_getElem?_getD, List.getElem?_eq_getElem hi]
theorem cntG_end {gs : List Grp} {ws : List Wr} {m : Nat} {R : List (List UInt8 × List Cl)} (h : RFacts gs ws m R) : cntG gs.length ws m R R.length 0 = m := by
  unfold cntG
  rw [List.take_length]
  simpa using h.cnt
end Go.Proofs.YtfkmfccdhmnllaaDoor
end

section
namespace Go.Proofs.YtfkmfccdhmnllaaDoor
open Go.RowKit Go Go.Sort
set_option linter.unusedVariables false
set_option maxRecDepth 20000

set_option maxRecDepth 100000 in
set_option maxHeartbeats 12800000 in
theorem chrowsl_walk {w : World} {x x2 : Option Addr} {n1 cap m cap2 : Nat} {gs : List Grp} {ws : List Wr} (hg : Grs w x n1 cap gs) (hs : ∀ g ∈ gs, g.1.length ≤ 9223372036854775807)
    (hl : Wrs w x2 m cap2 ws) (hx : WShort ws) (site seq n s a b : Int) (hT : TabW w) :
    Calls Tryd.prog 8 #[.slice x n1 cap, .agg #[.int .i64 site, .int .i64 seq, .int .i64 n, .int .i64 s, .int .i64 a, .int .i64 b, .slice x2 m cap2]] w (Tells (.bool true) w) := by
  have hgl := hg.len
  have hll := hl.len
  have hgle := hg.le
  have hgmx := hg.max
  have hle2 := hl.le
  have hmax2 := hl.max
  have HLv := Lib.hid (fun W (h : Below w.heap.size w W) => chlives_c (hT.below h))
  have hLT := fun W (h : Below w.heap.size w W) => lightw_c (x := x) (n1 := n1) (cap := cap) (by omega) (hl.below h) hx
  have hRW := fun W (h : Below w.heap.size w W) => chrows_c (hg.below h) hs (hl.below h) hx site seq n s a b
  have HRG := Lib.hid (fun W (h : Below w.heap.size w W) (x3 : Option Addr) (m3 c3 : Nat) (cs : List Cl) (hc : Cls W x3 m3 c3 cs) (hcx : ∀ c ∈ cs, c.t.length ≤ 9223372036854775807) (key : List UInt8) (hk : key.length ≤ 9223372036854775807) => rowgood_c (hg.below h) hs hc hcx key hk)
  have HHS := Lib.hid (fun W (h : Below w.heap.size w W) (key : List UInt8) (g : Int) => has_c (hl.below h) site seq n s a b key g)
  have HGR := Lib.hid hg
  have HL := Lib.hid hl
  obtain ⟨L, hL⟩ : ∃ q, decide (lightW n1 ws m ≤ 5000) = q := ⟨_, rfl⟩
  simp only [hL] at hLT
  have HRF := Lib.hid (fun (h : chgoodS gs site seq n s a b ws = 0) => rows_facts h)
  have HRS := Lib.hid (show chrowsS gs site seq n s a b ws = if chgoodS gs site seq n s a b ws = 0 then (wrowN gs n s a b ws ws.length, 0) else ([], chgoodS gs site seq n s a b ws) from rfl)
  have HFW := Lib.hid (fun (h : chgoodS gs site seq n s a b ws = 0) => And.intro (Nat.le_trans (wrow_few gs n s a b ws ws.length) (by obtain ⟨-, hh, -⟩ := ch_inv h; obtain ⟨-, -, -, -, -, -, -, -, h8⟩ := head_ok hh; exact h8)) (pgood_len (ch_inv h).1))
  obtain ⟨⟨Rr, Re⟩, hRS⟩ : ∃ q, chrowsS gs site seq n s a b ws = q := ⟨_, rfl⟩
  simp only [hRS] at hRW
  rw [hRS] at HRS
  have HLT := Lib.hid hLT
  have HRW := Lib.hid hRW
  have hB := alloc_below w (.cells #[.int .i64 site, .int .i64 seq, .int .i64 n, .int .i64 s, .int .i64 a, .int .i64 b, .slice x2 m cap2] 29)
  have hr := heap_alloc_new w (.cells #[.int .i64 site, .int .i64 seq, .int .i64 n, .int .i64 s, .int .i64 a, .int .i64 b, .slice x2 m cap2] 29)
  clear hLT hRW hL hRS hg hs hl hx hT hgle hgmx
  go_enter Tryd.func8, Tryd.ntmps8
  go_upto_region 1 with (fail)
  obtain ⟨B, hBe⟩ : ∃ q, w.heap.size = q := ⟨_, rfl⟩
  have HBe := Lib.hid hBe
  rw [hBe] at hr
  try rw [hBe]
  clear hBe
  generalize w.alloc (.cells #[.int .i64 site, .int .i64 seq, .int .i64 n, .int .i64 s, .int .i64 a, .int .i64 b, .slice x2 m cap2] 29) = W1 at *
  have HB1 := Lib.hid hB
  have HCX := Lib.hid (fun W (h : Below W1.heap.size W1 W) => ch_cells (heap_below hr h))
  clear hB hr
  obtain ⟨r0, r1, r2, r3, r4, r5, r6⟩ := HCX.out W1 (Below.refl _ _)
  have HLC := Lib.hid (HLT.out _ HB1.out)
  clear HLT
  cases L with
  | false =>
    go_wp2_with (first
      | (go_at_call 9; (with_reducible refine HLC.out.mono ?_); rintro e9 w3 ⟨rfl, hb9⟩; have HB3 := Lib.hid (HB1.out.trans (hb9.mono HB1.out.size)); clear hb9)
      | (go_at_call 10; (with_reducible refine (HLv.out _ HB3.out).mono ?_); rintro e9 w8 ⟨rfl, hb9⟩; have HB4 := Lib.hid (HB3.out.trans (hb9.mono HB3.out.size)); clear hb9))
    go_ret
    exact ⟨rfl, HB4.out⟩
  | true =>
    go_upto_region 3 with (go_at_call 9; (with_reducible refine HLC.out.mono ?_); rintro e9 w3 ⟨rfl, hb9⟩; have HB3 := Lib.hid (HB1.out.trans (hb9.mono HB1.out.size)); have HW3 := Lib.hid hb9; clear hb9)
    clear r0 r1 r2 r3 r4 r5 r6
    obtain ⟨r0, r1, r2, r3, r4, r5, r6⟩ := HCX.out _ HW3.out
    go_upto_region 4 with (go_at_call 11; (with_reducible refine (HRW.out _ HB3.out).mono ?_); rintro e9 w5 ⟨va, La, rfl, hoa, hpa, hb9⟩; obtain ⟨aa, ca, rfl, hla⟩ := hoa.at; have HB5 := Lib.hid (HB3.out.trans (hb9.mono HB3.out.size)); have HW5 := Lib.hid (HW3.out.trans (hb9.mono HW3.out.size)); have HPA := Lib.hid hpa; have HLA := Lib.hid hla; clear hb9 hoa hpa hla)
    clear r0 r1 r2 r3 r4 r5 r6 HLC HRW HB3 HW3
    obtain ⟨rl, hrl⟩ : ∃ z, La.length = z := ⟨_, rfl⟩
    rw [hrl] at HLA ⊢
    by_cases h0 : chgoodS gs site seq n s a b ws = 0
    · have hrs := HRS.out
      rw [if_pos h0] at hrs
      injection hrs with hr1 hr2
      subst hr2
      have hrf := HRF.out h0
      obtain ⟨hfw, hp4⟩ := HFW.out h0
      rw [← hr1, hll] at hrf
      rw [← hr1] at hfw
      have hrlR : Rr.length = rl := by
        have h1 := congrArg List.length HPA.out
        rw [List.length_map, hrl] at h1
        exact h1.symm
      have hat : ∀ i, i < rl → Rr.getD i ([], []) = ((La.getD i Rw.zero).k, (La.getD i Rw.zero).cs) := fun i hi => by
        have h1 : (La.map Rw.pr).getD i ([], []) = (La.getD i Rw.zero).pr := prs_at (by omega)
        rw [HPA.out] at h1
        exact h1
      have hmem : ∀ i, i < rl → ((La.getD i Rw.zero).k, (La.getD i Rw.zero).cs) ∈ Rr := fun i hi => by
        rw [← hat i hi, List.getD_eq_getElem?_getD, List.getElem?_eq_getElem (by omega)]
        exact List.getElem_mem _
      have hrl8 : rl ≤ 8 := by omega
      rw [hgl] at hp4
      have hcend := cntG_end hrf
      rw [hgl, hrlR] at hcend
      have HCE := Lib.hid hcend
      have HRF := Lib.hid hrf
      have HAT := Lib.hid hat
      have HMEM := Lib.hid hmem
      have HRL := Lib.hid hrlR
      clear hrf hat hmem hrlR HRS hcend HPA hr1 h0 HFW
      obtain ⟨r0, r1, r2, r3, r4, r5, r6⟩ := HCX.out _ HW5.out
      go_upto_region 8 with (fail)
      clear r0 r1 r2 r3 r4 r5 r6
      go_loopw [7, 37] (fun vn vi wr => ∃ (i c : Nat), i ≤ rl ∧ vi = .int .i64 (i : Int) ∧ vn = .int .i64 (c : Int) ∧ c = cntG n1 ws m Rr i 0 ∧ c ≤ 4 * i ∧ Below w5.heap.size w5 wr) (fun _ vi _ => rl - (intOf vi).toNat)
      case atStart => exact ⟨0, 0, by omega, rfl, rfl, rfl, by omega, Below.refl _ _⟩
      case round =>
        obtain ⟨i, c, hi, rfl, rfl, hc, hc4, hb⟩ := hrel
        have HC := Lib.hid hc
        have HB := Lib.hid hb
        clear hc hb
        by_cases hlt : i < rl
        · have hii : (i : Int) < (rl : Int) := by omega
          have hic : (i : Int) < (ca : Int) := by have := HLA.out.1.le; omega
          obtain ⟨br, offr, ai, ni, ci, rfl, eu, eni, hcl, hat⟩ := HLA.out.place hlt
          obtain ⟨g1, g2, g3, g4⟩ := HRF.out.good _ (HMEM.out i hlt)
          have hAT := HAT.out i hlt
          have hNO := HRF.out.none _ (HMEM.out i hlt)
          have hSO := HRF.out.some _ (HMEM.out i hlt)
          have hprev : ∀ k1, i = k1 + 1 → Op.bytesLess (La.getD k1 Rw.zero).k (La.getD i Rw.zero).k = true := fun k1 e => by
            have := HRF.out.asc k1 (by rw [HRL.out]; omega)
            rw [← e, HAT.out k1 (by omega), hAT] at this
            exact this
          have hatp : ∀ k1, k1 < rl → ∀ W, Below w5.heap.size w5 W → W.cell? ⟨br, offr + k1 * 2, none⟩ = some (.string (text (La.getD k1 Rw.zero).k)) := fun k1 h1 W hb => by
            obtain ⟨b', off', a', n', c', e, -, -, -, h⟩ := HLA.out.place h1
            injection e with e
            injection e with e1 e2
            subst e1 e2
            exact (h W hb).1
          obtain ⟨y, hy⟩ : ∃ y, La.getD i Rw.zero = y := ⟨_, rfl⟩
          rw [hy] at eu eni hcl hat g1 g2 g3 g4 hAT hNO hSO
          simp only [hy] at hprev
          obtain ⟨key, uu, cs⟩ := y
          simp only at eu eni hcl hat g1 g2 g3 g4 hAT hNO hSO hprev
          rw [hgl] at hNO hSO g3
          obtain rfl : ni = n1 := by omega
          have HCL := Lib.hid hcl
          have HRT := Lib.hid hat
          have HGD := Lib.hid (fun W (h : Below w5.heap.size w5 W) => by have h9 := HRG.out W (HB5.out.trans (h.mono HB5.out.size)) ai ni ci cs (hcl.below h) (fun c hc => Nat.le_trans (g4 c hc) (by decide)) key (by omega); rw [g1] at h9; exact h9)
          have HAT1 := Lib.hid hAT
          have HNO := Lib.hid hNO
          have HSO := Lib.hid hSO
          have HPRV := Lib.hid hprev
          have HATP := Lib.hid hatp
          obtain ⟨p0, p1⟩ := hat wr HB.out
          clear eu eni hcl hat g1 g2 g3 g4 hAT hNO hSO hprev hatp
          go_upto_region 10 with (fail)
          clear p0 p1
          have hal := alloc_below wr (.cells #[.string (text key), .slice ai ni ci] 60)
          have hq := heap_alloc_new wr (.cells #[.string (text key), .slice ai ni ci] 60)
          obtain ⟨gr, hgr⟩ : ∃ z, wr.heap.size = z := ⟨_, rfl⟩
          rw [hgr] at hq
          try rw [hgr]
          have HB6 := Lib.hid (HB.out.trans (hal.mono HB.out.size))
          clear hgr hal HB
          generalize wr.alloc (.cells #[.string (text key), .slice ai ni ci] 60) = W6 at *
          have HBX := Lib.hid (fun W (h : Below W6.heap.size W6 W) => pair_cells (heap_below hq h))
          clear hq
          obtain ⟨Z, hZ⟩ : ∃ z, decide (0 < i) = z := ⟨_, rfl⟩
          obtain ⟨k1, hk1⟩ : ∃ k1, i - 1 = k1 := ⟨_, rfl⟩
          obtain ⟨kp, hkp⟩ : ∃ z, (La.getD k1 Rw.zero).k = z := ⟨_, rfl⟩
          have HFZ := Lib.hid (show Z = true → (i : Int) - 1 = (k1 : Int) ∧ (k1 : Int) < (rl : Int) ∧ (k1 : Int) < (ca : Int) ∧ Op.bytesLess (text kp).toList (text key).toList = true from fun e => by
            rw [e] at hZ
            have h0 : 0 < i := of_decide_eq_true hZ
            have hl9 := HPRV.out k1 (by omega)
            rw [hkp] at hl9
            exact ⟨by omega, by omega, by omega, by rw [text_toList, text_toList]; exact hl9⟩)
          have HPK := Lib.hid (show Z = true → ∀ W, Below w5.heap.size w5 W → W.cell? ⟨br, offr + k1 * 2, none⟩ = some (.string (text kp)) from fun e W h => by
            have h9 := HATP.out k1 (by omega) W h
            rw [hkp] at h9
            exact h9)
          have HZ := Lib.hid hZ
          clear hZ hk1 hkp
          refine wp_region_flow [none, none, none, none, none, none, none, none, none, none, none, none, none, none, none, none, none, none, none, none, none, none, none, none, none, none, none, none, none, none, none, none, none, none, none, none, none, none, none, none, none, none, some 0, some 1, some 2, some 3, some 4, some 5, some 6, some 7, some 8, some 9, some 10, some 11, some 12, some 13, some 14, some 15, some 16, some 17, some 18, none, none, none, none, none, none, none, none, none, none, none, none, none, none, none, none, none, none, none, none, none, none, none, none, none, none, none, none, none, none, none, none, none, none, none, none, none, none, none, none, none, none, none, none, none, none, none, none, none, none, none, none, none, none, none, none, none, none, none, none, none, none, none, none, none, none, none, none, none, none, none, none, none, none, none, none] (fun i => [u42, u43, u44, u45, u46, u47, u48, u49, u50, u51, u52, u53, u54, u55, u56, u57, u58, u59, u60].getD i undef) [(fun v _ => v = .slice x ni cap), (fun v _ => v = .agg #[.string (text key), .slice ai ni ci]), (fun v _ => v = .int .i64 0), (fun v _ => v = .bool false), (fun v _ => v = .bool false), (fun v _ => v = .int .i64 (i : Int)), (fun v _ => v = .bool Z), (fun v _ => v = .bool Z), (fun v _ => v = vIf Z true (.slice (some ⟨br, offr, none⟩) rl ca)), (fun v _ => v = vIf Z true (.int .i64 (i : Int))), (fun v _ => v = vIf Z true (.int .i64 (k1 : Int))), (fun v _ => v = vIf Z true (.pointer (some ⟨br, offr + k1 * 2, none⟩))), (fun v _ => v = vIf Z true (.pointer (some ⟨br, offr + k1 * 2, none⟩))), (fun v _ => v = vIf Z true (.string (text kp))), (fun v _ => v = vIf Z true (.pointer (some ⟨gr, 0, none⟩))), (fun v _ => v = vIf Z true (.string (text key))), (fun v _ => v = vIf Z true (.bool false)), (fun v _ => v = .bool false), (fun v _ => v = .bool false)] (by kernel_rfl) (by kernel_rfl) rfl rfl rfl ?_ ?_ ?_
          · intro g hg v X Y hX hY hv
            simp only [List.mem_cons, List.not_mem_nil, or_false] at hg
            rcases hg with rfl | rfl | rfl | rfl | rfl | rfl | rfl | rfl | rfl | rfl | rfl | rfl | rfl | rfl | rfl | rfl | rfl | rfl | rfl
            all_goals first
              | exact hv
              | exact hv.kept hY
          · simp only [flowOps, and_true]
            refine ⟨?_, ?_, ?_, ?_, ?_, ?_, ?_, ?_, ?_, ?_, ?_, ?_, ?_, ?_, ?_, ?_, ?_, ?_, ?_⟩
            · intro xs W hW hn
              simp only [flowAct, List.zipWith_cons_cons, List.zipWith_nil_left]
              go_wp2_with (fail)
              exact ⟨rfl, _, rfl, Below.refl _ _, rfl⟩
            · intro xs W hW hn
              obtain ⟨b0, b1⟩ := HBX.out W hW
              simp only [flowAct, List.zipWith_cons_cons, List.zipWith_nil_left]
              go_wp2_with (fail)
              exact ⟨rfl, _, rfl, Below.refl _ _, rfl⟩
            · intro xs W hW hn
              simp [flowNeeds, Region.binds] at hn
              simp only [flowAct, List.zipWith_cons_cons, List.zipWith_nil_left]
              simp only [hn]
              go_wp2_with (go_at_call 25; (with_reducible refine (HGD.out _ (HB6.out.trans (hW.mono HB6.out.size))).mono ?_); rintro e9 w9 ⟨rfl, hb9⟩)
              exact ⟨rfl, _, rfl, hb9, rfl⟩
            · intro xs W hW hn
              simp [flowNeeds, Region.binds] at hn
              simp only [flowAct, List.zipWith_cons_cons, List.zipWith_nil_left]
              try simp only [hn]
              go_wp2_with (fail)
              exact ⟨rfl, _, rfl, Below.refl _ _, rfl⟩
            · intro xs W hW hn
              simp [flowNeeds, Region.binds] at hn
              simp only [flowAct, List.zipWith_cons_cons, List.zipWith_nil_left]
              try simp only [hn]
              go_wp2_with (fail)
              exact ⟨rfl, _, rfl, Below.refl _ _, rfl⟩
            · intro xs W hW hn
              simp [flowNeeds, Region.binds] at hn
              simp only [flowAct, List.zipWith_cons_cons, List.zipWith_nil_left]
              try simp only [hn]
              go_wp2_with (fail)
              exact ⟨rfl, _, rfl, Below.refl _ _, rfl⟩
            · intro xs W hW hn
              simp [flowNeeds, Region.binds] at hn
              simp only [flowAct, List.zipWith_cons_cons, List.zipWith_nil_left]
              simp only [hn]
              go_wp2_with (fail)
              exact ⟨rfl, _, rfl, Below.refl _ _, (show Value.bool _ = Value.bool _ from by rw [HZ.out])⟩
            · intro xs W hW hn
              simp [flowNeeds, Region.binds] at hn
              simp only [flowAct, List.zipWith_cons_cons, List.zipWith_nil_left]
              try simp only [hn]
              go_wp2_with (fail)
              exact ⟨rfl, _, rfl, Below.refl _ _, rfl⟩
            · intro xs W hW hn
              simp [flowNeeds, Region.binds] at hn
              simp only [flowAct, List.zipWith_cons_cons, List.zipWith_nil_left]
              cases Z with
              | false =>
                repeat rw [vIf_ft] at hn
                try simp only [hn]
                go_wp2_with (fail)
                exact ⟨rfl, _, rfl, Below.refl _ _, by first | rfl | simp [vIf]⟩
              | true =>
                repeat rw [vIf_tt] at hn
                try simp only [hn]
                go_wp2_with (fail)
                exact ⟨rfl, _, rfl, Below.refl _ _, by first | rfl | simp [vIf] | (show Value.int .i64 _ = vIf true true (.int .i64 _); rw [vIf_tt]; go_num)⟩
            · intro xs W hW hn
              simp [flowNeeds, Region.binds] at hn
              simp only [flowAct, List.zipWith_cons_cons, List.zipWith_nil_left]
              cases Z with
              | false =>
                repeat rw [vIf_ft] at hn
                try simp only [hn]
                go_wp2_with (fail)
                exact ⟨rfl, _, rfl, Below.refl _ _, by first | rfl | simp [vIf]⟩
              | true =>
                repeat rw [vIf_tt] at hn
                try simp only [hn]
                go_wp2_with (fail)
                exact ⟨rfl, _, rfl, Below.refl _ _, by first | rfl | simp [vIf] | (show Value.int .i64 _ = vIf true true (.int .i64 _); rw [vIf_tt]; go_num)⟩
            · intro xs W hW hn
              simp [flowNeeds, Region.binds] at hn
              simp only [flowAct, List.zipWith_cons_cons, List.zipWith_nil_left]
              cases Z with
              | false =>
                repeat rw [vIf_ft] at hn
                try simp only [hn]
                go_wp2_with (fail)
                exact ⟨rfl, _, rfl, Below.refl _ _, by first | rfl | simp [vIf]⟩
              | true =>
                repeat rw [vIf_tt] at hn
                obtain ⟨hf1, hf2, hf3, hf4⟩ := HFZ.out (by first | rfl | trivial)
                try simp only [hn]
                go_wp2_with (fail)
                exact ⟨rfl, _, rfl, Below.refl _ _, by first | rfl | simp [vIf] | (show Value.int .i64 _ = vIf true true (.int .i64 _); rw [vIf_tt]; go_num)⟩
            · intro xs W hW hn
              simp [flowNeeds, Region.binds] at hn
              simp only [flowAct, List.zipWith_cons_cons, List.zipWith_nil_left]
              cases Z with
              | false =>
                repeat rw [vIf_ft] at hn
                try simp only [hn]
                go_wp2_with (fail)
                exact ⟨rfl, _, rfl, Below.refl _ _, by first | rfl | simp [vIf]⟩
              | true =>
                repeat rw [vIf_tt] at hn
                obtain ⟨hf1, hf2, hf3, hf4⟩ := HFZ.out (by first | rfl | trivial)
                try simp only [hn]
                go_wp2_with (fail)
                exact ⟨rfl, _, rfl, Below.refl _ _, by first | rfl | simp [vIf] | (show Value.int .i64 _ = vIf true true (.int .i64 _); rw [vIf_tt]; go_num)⟩
            · intro xs W hW hn
              simp [flowNeeds, Region.binds] at hn
              simp only [flowAct, List.zipWith_cons_cons, List.zipWith_nil_left]
              cases Z with
              | false =>
                repeat rw [vIf_ft] at hn
                try simp only [hn]
                go_wp2_with (fail)
                exact ⟨rfl, _, rfl, Below.refl _ _, by first | rfl | simp [vIf]⟩
              | true =>
                repeat rw [vIf_tt] at hn
                try simp only [hn]
                go_wp2_with (fail)
                exact ⟨rfl, _, rfl, Below.refl _ _, by first | rfl | simp [vIf] | (show Value.int .i64 _ = vIf true true (.int .i64 _); rw [vIf_tt]; go_num)⟩
            · intro xs W hW hn
              simp [flowNeeds, Region.binds] at hn
              simp only [flowAct, List.zipWith_cons_cons, List.zipWith_nil_left]
              cases Z with
              | false =>
                repeat rw [vIf_ft] at hn
                try simp only [hn]
                go_wp2_with (fail)
                exact ⟨rfl, _, rfl, Below.refl _ _, by first | rfl | simp [vIf]⟩
              | true =>
                repeat rw [vIf_tt] at hn
                have pk := HPK.out (by first | rfl | trivial) W (HB6.out.trans (hW.mono HB6.out.size))
                try simp only [hn]
                go_wp2_with (fail)
                exact ⟨rfl, _, rfl, Below.refl _ _, by first | rfl | simp [vIf] | (show Value.int .i64 _ = vIf true true (.int .i64 _); rw [vIf_tt]; go_num)⟩
            · intro xs W hW hn
              simp [flowNeeds, Region.binds] at hn
              simp only [flowAct, List.zipWith_cons_cons, List.zipWith_nil_left]
              cases Z with
              | false =>
                repeat rw [vIf_ft] at hn
                try simp only [hn]
                go_wp2_with (fail)
                exact ⟨rfl, _, rfl, Below.refl _ _, by first | rfl | simp [vIf]⟩
              | true =>
                repeat rw [vIf_tt] at hn
                try simp only [hn]
                go_wp2_with (fail)
                exact ⟨rfl, _, rfl, Below.refl _ _, by first | rfl | simp [vIf] | (show Value.int .i64 _ = vIf true true (.int .i64 _); rw [vIf_tt]; go_num)⟩
            · intro xs W hW hn
              simp [flowNeeds, Region.binds] at hn
              simp only [flowAct, List.zipWith_cons_cons, List.zipWith_nil_left]
              cases Z with
              | false =>
                repeat rw [vIf_ft] at hn
                try simp only [hn]
                go_wp2_with (fail)
                exact ⟨rfl, _, rfl, Below.refl _ _, by first | rfl | simp [vIf]⟩
              | true =>
                repeat rw [vIf_tt] at hn
                obtain ⟨b0, b1⟩ := HBX.out W hW
                try simp only [hn]
                go_wp2_with (fail)
                exact ⟨rfl, _, rfl, Below.refl _ _, by first | rfl | simp [vIf] | (show Value.int .i64 _ = vIf true true (.int .i64 _); rw [vIf_tt]; go_num)⟩
            · intro xs W hW hn
              simp [flowNeeds, Region.binds] at hn
              simp only [flowAct, List.zipWith_cons_cons, List.zipWith_nil_left]
              cases Z with
              | false =>
                repeat rw [vIf_ft] at hn
                try simp only [hn]
                go_wp2_with (fail)
                exact ⟨rfl, _, rfl, Below.refl _ _, by first | rfl | simp [vIf]⟩
              | true =>
                repeat rw [vIf_tt] at hn
                obtain ⟨hf1, hf2, hf3, hf4⟩ := HFZ.out (by first | rfl | trivial)
                try simp only [hn]
                go_wp2_with (fail)
                exact ⟨rfl, _, rfl, Below.refl _ _, by first | rfl | simp [vIf] | (show Value.int .i64 _ = vIf true true (.int .i64 _); rw [vIf_tt]; go_num)⟩
            · intro xs W hW hn
              simp [flowNeeds, Region.binds] at hn
              simp only [flowAct, List.zipWith_cons_cons, List.zipWith_nil_left]
              cases Z with
              | false =>
                repeat rw [vIf_ft] at hn
                try simp only [hn]
                go_wp2_with (fail)
                exact ⟨rfl, _, rfl, Below.refl _ _, by first | rfl | simp [vIf]⟩
              | true =>
                repeat rw [vIf_tt] at hn
                try simp only [hn]
                go_wp2_with (fail)
                exact ⟨rfl, _, rfl, Below.refl _ _, by first | rfl | simp [vIf] | (show Value.int .i64 _ = vIf true true (.int .i64 _); rw [vIf_tt]; go_num)⟩
            · intro xs W hW hn
              simp [flowNeeds, Region.binds] at hn
              simp only [flowAct, List.zipWith_cons_cons, List.zipWith_nil_left]
              try simp only [hn]
              go_wp2_with (fail)
              exact ⟨rfl, _, rfl, Below.refl _ _, rfl⟩
          · intro xs W hW hall
            simp only [flowAll, and_true, Nat.zero_add, Nat.reduceAdd] at hall
            obtain ⟨-, -, -, -, -, -, -, -, -, -, -, -, -, -, -, -, -, -, e18⟩ := hall
            simp only [flowAct, List.zipWith_cons_cons, List.zipWith_nil_left]
            simp only [e18]
            have HB7 := Lib.hid (HB6.out.trans (hW.mono HB6.out.size))
            have HW8 := Lib.hid hW
            clear e18 hW HB6
            rename_i W7i
            obtain ⟨W7, hW7⟩ : ∃ X, W = X := ⟨_, rfl⟩
            rw [hW7] at HB7 HW8 ⊢
            clear hW7
            obtain ⟨b0, b1⟩ := HBX.out W7 HW8.out
            go_upto_region 13 with (fail)
            clear b0 b1
            go_loopw [7, 64] (fun vn vg wr => ∃ (g c : Nat), g ≤ ni ∧ vg = .int .i64 (g : Int) ∧ vn = .int .i64 (c : Int) ∧ c = cntG ni ws m Rr i g ∧ c ≤ 4 * i + g ∧ Below W7.heap.size W7 wr) (fun _ vg _ => ni - (intOf vg).toNat)
            case atStart => exact ⟨0, c, by omega, rfl, rfl, HC.out, by omega, Below.refl _ _⟩
            case round =>
              clear HC hc4
              obtain ⟨g, c, hgn, rfl, rfl, hc, hc4, hb⟩ := hrel
              have HC := Lib.hid hc
              have HBq := Lib.hid hb
              clear hc hb
              by_cases hgl2 : g < ni
              · have hgi : (g : Int) < (ni : Int) := by omega
                have hgc : (g : Int) < (cap : Int) := by have := HGR.out.le; omega
                have hgcc : (g : Int) < (ci : Int) := by have := HCL.out.le; omega
                obtain ⟨bg, og, rfl, hgat⟩ := HGR.out.at hgl2
                obtain ⟨bc, oc, rfl, hcat⟩ := HCL.out.at hgl2
                obtain ⟨⟨gn, pk⟩, hgp⟩ : ∃ z, gs.getD g ([], 0) = z := ⟨_, rfl⟩
                rw [hgp] at hgat
                have hst := cntG_step (n1 := ni) (ws := ws) (m := m) (R := Rr) (i := i) (g := g) (key := key) (by rw [HAT1.out])
                rw [← HC.out] at hst
                have hno := HNO.out g hgl2
                have hso := HSO.out g hgl2
                rw [hgp] at hso
                obtain ⟨H, hH⟩ : ∃ z, hasN ws key (g : Int) m = z := ⟨_, rfl⟩
                rw [hH] at hst hno hso
                have HHC := Lib.hid (fun W (h : Below w.heap.size w W) => by have h9 := HHS.out W h key (g : Int); rw [hH] at h9; exact h9)
                have HST := Lib.hid hst
                have HNO2 := Lib.hid hno
                have HSO2 := Lib.hid hso
                have HGP := Lib.hid (fun W (h : Below w5.heap.size w5 W) => hgat W (HB5.out.trans (h.mono HB5.out.size)))
                have hcl0 : ∃ (n8 s8 a8 b8 : Int) (g8 : Bool) (t8 : List UInt8) (d8 e8 : Int) (sv : List UInt8) (so : Bool), cs.getD g Cl.zero = ⟨n8, s8, a8, b8, g8, t8, d8, e8⟩ ∧ t8.length ≤ 9223372036854775807 ∧ cseenS pk n8 s8 a8 b8 g8 t8 d8 e8 = (sv, so) ∧ (H = true → ∀ k, k < m → (ws.getD k Wr.zero).k = key → (ws.getD k Wr.zero).i = (g : Int) → sv = (ws.getD k Wr.zero).v ∧ so = !(ws.getD k Wr.zero).g) := by
                  cases H with
                  | true =>
                    obtain ⟨n8, s8, a8, b8, g8, t8, d8, e8, sv, so, q1, q2, q3, q4⟩ := HSO2.out rfl
                    exact ⟨n8, s8, a8, b8, g8, t8, d8, e8, sv, so, q1, Nat.le_trans q2 (by decide), q3, fun _ => q4⟩
                  | false => exact ⟨0, 0, 0, 0, false, [], 0, 0, _, _, HNO2.out rfl, Nat.zero_le _, rfl, fun e => (by cases e)⟩
                obtain ⟨n8, s8, a8, b8, g8, t8, d8, e8, sv, so, hcv, ht8, hsv, hall9⟩ := hcl0
                rw [hcv] at hcat hno
                have hsn := fun W => cseen_c pk n8 s8 a8 b8 g8 t8 d8 e8 ht8 W
                rw [hsv] at hsn
                have HSN := Lib.hid hsn
                have HALL9 := Lib.hid hall9
                have HNO3 := Lib.hid hno
                have HCC := Lib.hid (fun W (h : Below w5.heap.size w5 W) => hcat W h)
                clear hgat hcat hst hno hso hsn hall9 hcv ht8 hsv hgp hH HNO2 HSO2
                have HB8 := Lib.hid (HW8.out.trans (HBq.out.mono HW8.out.size))
                have HB7 := Lib.hid (HB7.out.trans (HBq.out.mono HB7.out.size))
                go_upto_region 15 with (fail)
                refine wp_region_flow [none, none, none, none, none, none, none, none, none, none, none, some 14, some 15, none, none, none, none, none, none, none, none, none, none, none, none, none, none, none, none, none, none, none, none, none, none, none, none, none, none, none, none, none, none, none, none, none, none, none, none, none, none, none, none, none, none, none, none, none, none, none, none, none, none, none, none, none, none, some 11, some 0, some 1, some 2, some 3, some 4, some 5, some 6, some 7, some 8, some 9, some 10, some 12, some 13, none, none, none, none, none, none, none, none, none, none, none, none, none, none, none, none, none, none, none, none, none, none, none, none, none, none, none, none, none, none, none, none, none, none, none, none, none, none, none, none, none, none, none, none, none, none, none, none, none, none, none, none, none, none, none, none] (fun i => [u68, u69, u70, u71, u72, u73, u74, u75, u76, u77, u78, u67, u79, u80, u11, u12].getD i undef) [(fun v _ => v = .slice (some ⟨bg, og, none⟩) ni cap), (fun v _ => v = .int .i64 (g : Int)), (fun v _ => v = .pointer (some ⟨bg, og + g * 2, none⟩)), (fun v _ => v = .pointer (some ⟨bg, og + g * 2 + 1, none⟩)), (fun v _ => v = .int .i64 pk), (fun v _ => v = .pointer (some ⟨gr, 1, none⟩)), (fun v _ => v = .slice (some ⟨bc, oc, none⟩) ni ci), (fun v _ => v = .int .i64 (g : Int)), (fun v _ => v = .pointer (some ⟨bc, oc + g * 8, none⟩)), (fun v _ => v = .agg #[.int .i64 n8, .int .i64 s8, .int .i64 a8, .int .i64 b8, .bool g8, .string (text t8), .int .i64 d8, .int .i64 e8]), (fun v _ => v = .tuple #[.string (text sv), .bool so]), (fun v _ => v = .tuple #[.string (text sv), .bool so]), (fun v _ => v = .string (text sv)), (fun v _ => v = .bool so), (fun v _ => v = .string (text sv)), (fun v _ => v = .bool so)] (by kernel_rfl) (by kernel_rfl) rfl rfl rfl ?_ ?_ ?_
                · intro g hg v X Y hX hY hv
                  simp only [List.mem_cons, List.not_mem_nil, or_false] at hg
                  rcases hg with rfl | rfl | rfl | rfl | rfl | rfl | rfl | rfl | rfl | rfl | rfl | rfl | rfl | rfl | rfl | rfl
                  all_goals first
                    | exact hv
                    | exact hv.kept hY
                · simp only [flowOps, and_true]
                  refine ⟨?_, ?_, ?_, ?_, ?_, ?_, ?_, ?_, ?_, ?_, ?_, ?_, ?_, ?_, ?_, ?_⟩
                  · intro xs W hW hn
                    simp only [flowAct, List.zipWith_cons_cons, List.zipWith_nil_left]
                    go_wp2_with (fail)
                    exact ⟨rfl, _, rfl, Below.refl _ _, rfl⟩
                  · intro xs W hW hn
                    simp only [flowAct, List.zipWith_cons_cons, List.zipWith_nil_left]
                    go_wp2_with (fail)
                    exact ⟨rfl, _, rfl, Below.refl _ _, rfl⟩
                  · intro xs W hW hn
                    simp [flowNeeds, Region.binds] at hn
                    simp only [flowAct, List.zipWith_cons_cons, List.zipWith_nil_left]
                    try simp only [hn]
                    go_wp2_with (fail)
                    exact ⟨rfl, _, rfl, Below.refl _ _, rfl⟩
                  · intro xs W hW hn
                    simp [flowNeeds, Region.binds] at hn
                    simp only [flowAct, List.zipWith_cons_cons, List.zipWith_nil_left]
                    try simp only [hn]
                    go_wp2_with (fail)
                    exact ⟨rfl, _, rfl, Below.refl _ _, rfl⟩
                  · intro xs W hW hn
                    obtain ⟨-, l1⟩ := HGP.out W (HB7.out.trans (hW.mono HB7.out.size))
                    simp [flowNeeds, Region.binds] at hn
                    simp only [flowAct, List.zipWith_cons_cons, List.zipWith_nil_left]
                    try simp only [hn]
                    go_wp2_with (fail)
                    exact ⟨rfl, _, rfl, Below.refl _ _, rfl⟩
                  · intro xs W hW hn
                    simp only [flowAct, List.zipWith_cons_cons, List.zipWith_nil_left]
                    go_wp2_with (fail)
                    exact ⟨rfl, _, rfl, Below.refl _ _, rfl⟩
                  · intro xs W hW hn
                    obtain ⟨b0, b1⟩ := HBX.out W (HB8.out.trans (hW.mono HB8.out.size))
                    simp [flowNeeds, Region.binds] at hn
                    simp only [flowAct, List.zipWith_cons_cons, List.zipWith_nil_left]
                    try simp only [hn]
                    go_wp2_with (fail)
                    exact ⟨rfl, _, rfl, Below.refl _ _, rfl⟩
                  · intro xs W hW hn
                    simp only [flowAct, List.zipWith_cons_cons, List.zipWith_nil_left]
                    go_wp2_with (fail)
                    exact ⟨rfl, _, rfl, Below.refl _ _, rfl⟩
                  · intro xs W hW hn
                    simp [flowNeeds, Region.binds] at hn
                    simp only [flowAct, List.zipWith_cons_cons, List.zipWith_nil_left]
                    try simp only [hn]
                    go_wp2_with (fail)
                    exact ⟨rfl, _, rfl, Below.refl _ _, rfl⟩
                  · intro xs W hW hn
                    obtain ⟨z0, z1, z2, z3, z4, z5, z6, z7⟩ := HCC.out W (HB7.out.trans (hW.mono HB7.out.size))
                    simp [flowNeeds, Region.binds] at hn
                    simp only [flowAct, List.zipWith_cons_cons, List.zipWith_nil_left]
                    try simp only [hn]
                    go_wp2_with (fail)
                    exact ⟨rfl, _, rfl, Below.refl _ _, rfl⟩
                  · intro xs W hW hn
                    simp [flowNeeds, Region.binds] at hn
                    simp only [flowAct, List.zipWith_cons_cons, List.zipWith_nil_left]
                    simp only [hn]
                    go_wp2_with (go_at_call 26; (with_reducible refine (HSN.out _).mono ?_); rintro e9 w9 ⟨rfl, hb9⟩)
                    exact ⟨rfl, _, rfl, hb9, rfl⟩
                  · intro xs W hW hn
                    simp [flowNeeds, Region.binds] at hn
                    simp only [flowAct, List.zipWith_cons_cons, List.zipWith_nil_left]
                    try simp only [hn]
                    go_wp2_with (fail)
                    exact ⟨rfl, _, rfl, Below.refl _ _, rfl⟩
                  · intro xs W hW hn
                    simp [flowNeeds, Region.binds] at hn
                    simp only [flowAct, List.zipWith_cons_cons, List.zipWith_nil_left]
                    try simp only [hn]
                    go_wp2_with (fail)
                    exact ⟨rfl, _, rfl, Below.refl _ _, rfl⟩
                  · intro xs W hW hn
                    simp [flowNeeds, Region.binds] at hn
                    simp only [flowAct, List.zipWith_cons_cons, List.zipWith_nil_left]
                    try simp only [hn]
                    go_wp2_with (fail)
                    exact ⟨rfl, _, rfl, Below.refl _ _, rfl⟩
                  · intro xs W hW hn
                    simp [flowNeeds, Region.binds] at hn
                    simp only [flowAct, List.zipWith_cons_cons, List.zipWith_nil_left]
                    try simp only [hn]
                    go_wp2_with (fail)
                    exact ⟨rfl, _, rfl, Below.refl _ _, rfl⟩
                  · intro xs W hW hn
                    simp [flowNeeds, Region.binds] at hn
                    simp only [flowAct, List.zipWith_cons_cons, List.zipWith_nil_left]
                    try simp only [hn]
                    go_wp2_with (fail)
                    exact ⟨rfl, _, rfl, Below.refl _ _, rfl⟩
                · intro xs W hW hall
                  simp only [flowAll, and_true, Nat.zero_add, Nat.reduceAdd] at hall
                  obtain ⟨-, -, -, -, -, -, -, -, -, -, -, -, -, -, e14, e15⟩ := hall
                  simp only [flowAct, List.zipWith_cons_cons, List.zipWith_nil_left]
                  simp only [e14, e15]
                  have HB9 := Lib.hid (HB7.out.trans (hW.mono HB7.out.size))
                  have HX9 := Lib.hid (HB8.out.trans (hW.mono HB8.out.size))
                  have HQ9 := Lib.hid (HBq.out.trans (hW.mono HBq.out.size))
                  clear e14 e15 hW HB7 HB8
                  rename_i W9i
                  obtain ⟨W9, hW9⟩ : ∃ X, W = X := ⟨_, rfl⟩
                  rw [hW9] at HB9 HX9 HQ9 ⊢
                  clear hW9 HBq
                  obtain ⟨b0, b1⟩ := HBX.out W9 HX9.out
                  obtain ⟨r0, r1, r2, r3, r4, r5, r6⟩ := HCX.out _ (HW5.out.trans (HB9.out.mono HW5.out.size))
                  have HHD := Lib.hid (HHC.out W9 (HB5.out.trans (HB9.out.mono HB5.out.size)))
                  cases H with
                  | false =>
                    have hcz := HNO3.out rfl
                    simp only [Cl.zero, Cl.mk.injEq] at hcz
                    obtain ⟨rfl, rfl, rfl, rfl, rfl, rfl, rfl, rfl⟩ := hcz
                    have HNX := Lib.hid (show cntG ni ws m Rr i (g + 1) = c from HST.out)
                    have hcne := cell_neb 0 0 0 0 false [] 0 0 0 0 0 0 false [] 0 0 true (cellEq_self ..)
                    have hcng := cell_eqg .neq
                    have htn : text [] = ⟨#[]⟩ := rfl
                    rw [htn] at hcne
                    have HCNE := Lib.hid hcne
                    have HCNG := Lib.hid hcng
                    clear hcne hcng
                    go_upto_region 17 with (go_at_call 16; (with_reducible refine HHD.out.mono ?_); rintro e9 w10 ⟨rfl, hb9⟩; have HBa := Lib.hid (HB9.out.trans (hb9.mono HB9.out.size)); have HXa := Lib.hid (HX9.out.trans (hb9.mono HX9.out.size)); have HQa := Lib.hid (HQ9.out.trans (hb9.mono HQ9.out.size)); clear hb9)
                    clear b0 b1 r0 r1 r2 r3 r4 r5 r6
                    obtain ⟨b0, b1⟩ := HBX.out _ HXa.out
                    obtain ⟨z0, z1, z2, z3, z4, z5, z6, z7⟩ := HCC.out _ HBa.out
                    rw [htn] at z5
                    have hcne := HCNE.out
                    have hcng := HCNG.out
                    clear htn
                    go_wp2
                    go_roundw
                    case rel => exact ⟨g + 1, c, by omega, by go_num, rfl, HNX.out.symm, by omega, HQa.out⟩
                    case measure => simp [intOf]; omega
                  | true =>
                    have HNX := Lib.hid (show cntG ni ws m Rr i (g + 1) = c + 1 from HST.out)
                    have HAL := Lib.hid (HALL9.out (by first | rfl | trivial))
                    go_upto_region 19 with (go_at_call 16; (with_reducible refine HHD.out.mono ?_); rintro e9 w10 ⟨rfl, hb9⟩; have HBa := Lib.hid (HB9.out.trans (hb9.mono HB9.out.size)); have HXa := Lib.hid (HX9.out.trans (hb9.mono HX9.out.size)); have HQa := Lib.hid (HQ9.out.trans (hb9.mono HQ9.out.size)); clear hb9)
                    clear b0 b1 r0 r1 r2 r3 r4 r5 r6
                    obtain ⟨r0, r1, r2, r3, r4, r5, r6⟩ := HCX.out _ (HW5.out.trans (HBa.out.mono HW5.out.size))
                    go_upto_region 21 with (fail)
                    clear r0 r1 r2 r3 r4 r5 r6
                    go_loopw [99] (fun vk wr => ∃ k : Nat, k ≤ m ∧ vk = .int .i64 (k : Int) ∧ Below w10.heap.size w10 wr) (fun vk _ => m - (intOf vk).toNat)
                    case atStart => exact ⟨0, by omega, rfl, Below.refl _ _⟩
                    case round =>
                      obtain ⟨k, hk, rfl, hb⟩ := hrel
                      have HBk := Lib.hid hb
                      clear hb
                      by_cases hkm : k < m
                      · have hki : (k : Int) < (m : Int) := by omega
                        have hkc : (k : Int) < (cap2 : Int) := by omega
                        obtain ⟨bk, off, rfl, hwat⟩ := HL.out.place hkm
                        have hfa := HAL.out k hkm
                        obtain ⟨y, hy⟩ : ∃ y, ws.getD k Wr.zero = y := ⟨_, rfl⟩
                        rw [hy] at hwat hfa
                        obtain ⟨kx, ix, gx, vx⟩ := y
                        simp only at hwat hfa
                        obtain ⟨p0, p1, p2, p3⟩ := hwat wr (HB5.out.trans ((HBa.out.trans (HBk.out.mono HBa.out.size)).mono HB5.out.size))
                        have HFA := Lib.hid hfa
                        clear hwat hfa hy
                        go_upto_region 23 with (fail)
                        clear p0 p1 p2 p3
                        have hal := alloc_below wr (.cells #[.string (text kx), .int .i64 ix, .bool gx, .string (text vx)] 31)
                        have hq := heap_alloc_new wr (.cells #[.string (text kx), .int .i64 ix, .bool gx, .string (text vx)] 31)
                        obtain ⟨gw, hgw⟩ : ∃ z, wr.heap.size = z := ⟨_, rfl⟩
                        rw [hgw] at hq
                        try rw [hgw]
                        have HBl := Lib.hid (HBk.out.trans (hal.mono HBk.out.size))
                        clear hgw hal HBk
                        generalize wr.alloc (.cells #[.string (text kx), .int .i64 ix, .bool gx, .string (text vx)] 31) = Wk at *
                        obtain ⟨p0, p1, p2, p3⟩ := wr_cells hq
                        obtain ⟨b0, b1⟩ := HBX.out Wk (HXa.out.trans (HBl.out.mono HXa.out.size))
                        have hte := text_eqb kx key
                        obtain ⟨Q1, hQ1⟩ : ∃ z, (kx == key) = z := ⟨_, rfl⟩
                        obtain ⟨Q2, hQ2⟩ : ∃ z, (ix == (g : Int)) = z := ⟨_, rfl⟩
                        rw [hQ1] at hte
                        clear hq
                        cases Q1 with
                        | false =>
                          clear hQ1
                          go_wp2
                          go_roundw
                          case rel => exact ⟨k + 1, by omega, by go_num, HBl.out⟩
                          case measure => simp [intOf]; omega
                        | true =>
                          cases Q2 with
                          | false =>
                            clear hQ1
                            go_wp2
                            go_roundw
                            case rel => exact ⟨k + 1, by omega, by go_num, HBl.out⟩
                            case measure => simp [intOf]; omega
                          | true =>
                            obtain ⟨rfl, rfl⟩ := HFA.out (by simpa using hQ1) (by simpa using hQ2)
                            have hvb : ((text sv).toList == (text sv).toList) = true := by simp
                            have hvn : ((text sv).toList != (text sv).toList) = false := by simp
                            have hgb : ((!gx) == gx) = false := by cases gx <;> rfl
                            clear hQ1
                            go_wp2
                            go_roundw
                            case rel => exact ⟨k + 1, by omega, by go_num, HBl.out⟩
                            case measure => simp [intOf]; omega
                      · obtain rfl : k = m := by omega
                        have HQb := Lib.hid (HQa.out.trans (HBk.out.mono HQa.out.size))
                        go_wp2
                        go_roundw
                        case rel => exact ⟨g + 1, c + 1, by omega, by go_num, by go_num, HNX.out.symm, by omega, HQb.out⟩
                        case measure => simp [intOf]; omega

              · obtain rfl : ni = g := by omega
                have HB9 := Lib.hid (HB7.out.trans (HBq.out.mono HB7.out.size))
                have hce := cntG_row (n1 := ni) (ws := ws) (m := m) (R := Rr) (i := i) (by rw [HRL.out]; omega)
                have HCN := Lib.hid (HC.out.trans hce)
                clear hce
                go_wp2
                go_roundw
                case rel => exact ⟨i + 1, c, by omega, by go_num, rfl, HCN.out, by omega, HB9.out⟩
                case measure => simp [intOf]; omega

        · obtain rfl : rl = i := by omega
          have hcm : c = m := HC.out.trans HCE.out
          subst hcm
          have HB6 := Lib.hid (HB5.out.trans (HB.out.mono HB5.out.size))
          obtain ⟨r0, r1, r2, r3, r4, r5, r6⟩ := HCX.out _ (HW5.out.trans (HB.out.mono HW5.out.size))
          go_wp2_with (go_at_call 10; (with_reducible refine (HLv.out _ HB6.out).mono ?_); rintro e9 w8 ⟨rfl, hb9⟩; have HB7 := Lib.hid (HB6.out.trans (hb9.mono HB6.out.size)); clear hb9)
          go_ret
          exact ⟨rfl, HB7.out⟩
    · have hrs := HRS.out
      rw [if_neg h0] at hrs
      injection hrs with hr1 hr2
      have hz : rl = 0 := by
        have h1 := congrArg List.length HPA.out
        rw [List.length_map, hrl, hr1] at h1
        exact h1
      subst hz
      have hre : (Re != 0) = true := by rw [hr2]; simpa using h0
      clear h0 hr2 hr1 HRS HPA
      go_wp2_with (go_at_call 10; (with_reducible refine (HLv.out _ HB5.out).mono ?_); rintro e9 w8 ⟨rfl, hb9⟩; have HB7 := Lib.hid (HB5.out.trans (hb9.mono HB5.out.size)); clear hb9)
      go_ret
      exact ⟨rfl, HB7.out⟩
end Go.Proofs.YtfkmfccdhmnllaaDoor
end

