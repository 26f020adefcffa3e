/-
  Merged: BM TW WT1 WT3 WT2.
-/
import Derived.WalkKit
import Derived.Laws.CopyOwn
import Derived.WalkSmall
import Derived.Deep.QuietTactic
import Derived.StillTail
import Derived.Lib.QuietBelow
import Derived.Test.YtioeimkaljmffaaGreatDoorRows
import Derived.Lib.Hide
import Derived.BigQuiet
import Derived.BigRegion
import Derived.Deep.Cut
import Derived.Deep.MidRow
import Derived.Great.BuildSlice
import Derived.Outline
import Derived.OwnWalk
import Derived.Laws.Rows
import Derived.ChangeKeysEq
import Derived.Laws.StructEq
import Derived.Deep.DeepAppendWide
import Derived.Deep.AppendSrc
import Derived.Maps.RangeWalk
import Derived.Maps.OwnSet
import Derived.Maps.OwnOps
import Derived.Lib.MinMax
import Derived.Deep.RegionWith
import Derived.Maps.AppendAt
import Derived.Shelf.Abstract
import Derived.Lib.ConvBytes
import Derived.Lib.SlBytesConst
import Derived.WalkSpells
import Derived.WalkLawsBesides
import Derived.Lib.LaidTab
import Derived.Stop.LaidErr
import Derived.Lib.ItoaNum
import Derived.Shelf.Strings.Builder1
import Derived.Shelf.Strings.Builder2
import Derived.Shelf.Strings.BuilderF
import Derived.Shelf.Strconv.Atoi
import Derived.Shelf.Strconv.Itoa0
import Derived.Shelf.Strconv.Itoa1
import Derived.Shelf.LaysM
import Derived.Shelf.Strconv.Itoa2
import Derived.Shelf.Strconv.Itoa3
import Derived.Shelf.Strconv.AtoiErrFast
import Derived.Shelf.Strconv.ParseIntEmpty
import Derived.Shelf.Strconv.AtoiFail
import Derived.Shelf.Strconv.Clone
import Derived.Shelf.Strconv.SyntaxError
import Derived.Shelf.LaysC
import Derived.Shelf.Strconv.ToError
import Derived.Shelf.Strconv.Lower
import Derived.Shelf.Strconv.ParseUint10
import Derived.Shelf.Strconv.ParseUint10Empty
import Derived.Shelf.Strconv.ParseUint10Any
import Derived.Shelf.Strconv.ParseInt10
import Derived.Shelf.Strconv.AtoiLong
import Derived.Shelf.Strconv.AtoiInnerAll
import Derived.Shelf.Strconv.RangeError
import Derived.Shelf.Strconv.ToErrorRange
import Derived.Shelf.Strconv.AtoiAll
import Derived.Shelf.Strconv.ErrVarAll
import Derived.Shelf.Strings.Prefix
import Derived.Shelf.Bits.Mul64
import Derived.Shelf.Strings.Repeat
import Derived.Test.YtioeimkaljmffaaGreatDoorProg
import Derived.Lib.AtoiTie
import Derived.Lib.AtoiAll
import Derived.Lib.ItoaMem
import Derived.Lib.ItoaLen
import Derived.Lib.AtoiErrMem
import Derived.Lib.AtoiAllCases
import Derived.WideShapes
import Derived.OpenShut
import Derived.ChangeSlices
import Derived.Deep.RegionLaw
import Derived.Deep.RegionHeld3
import Derived.Shelf.Sort.Plain
import Derived.Shelf.Slices.In.SortNone
import Derived.Sort.OwnSorted
import Derived.Sort.KeysCollected
import Derived.Deep.Slices
import Derived.RangeFuncNested
import Derived.RangeFuncBound
import Derived.RangeFuncCalls
import Derived.RangeFuncLeaves
import Derived.OwnWalkIn
import Derived.TacticsInMore
import Derived.LoopNIn
import Derived.LoopIn
import Derived.Shelf.Small.Bits
import Derived.Ground.Names2Prog
import Derived.Shelf.Slices.Delete
import Derived.Shelf.Slices.Cells
import Derived.Shelf.Slices.Empties
import Derived.Deep.Matrix
import Derived.Test.YtioeimkaljmffaaGreatDoorSC4

section
namespace Go.Proofs.YtioeimkaljmffaaGreatDoor
open Go.RowKit
set_option linter.unusedVariables false

theorem valS_div (a : Int) (r : List UInt8) (c : Nat) (hl : c ≤ r.length) : ∀ j, j ≤ c → valS a r c / 256 ^ j = valS a r (c - j) := by
  intro j
  induction j with
  | zero => intro _; simp
  | succ j ih =>
    intro hj
    rw [Int.pow_succ, ← Int.ediv_ediv_of_nonneg (Int.pow_nonneg (by omega)), ih (by omega)]
    have e : c - j = (c - (j + 1)) + 1 := by omega
    rw [e, valS_succ _ _ _ (by omega)]
    have h8 := by8_bd r (c - (j + 1))
    omega

theorem byt8_eq {l m : List UInt8} (hl : l.length = m.length) (h : ∀ i, i < l.length → byt8 l i = byt8 m i) : l = m := by
  apply List.ext_getElem hl
  intro i h1 h2
  have := h i h1
  unfold byt8 at this
  simpa [List.getD, h1, h2] using this

/-- What is got is put as the bytes that it was got from. -/
theorem getS_form (l : List UInt8) (q : Nat) (h : (getS l).2.2 = 0) (hq : (getS l).2.1 = (q : Int)) : numB (getS l).1 = l.take q := by
  cases l with
  | nil => simp [getS] at h
  | cons b r =>
    simp only [getS] at h hq ⊢
    have hb := b.toNat_lt
    by_cases hc : r.length + 1 < 2 ^ (b.toNat / 64)
    · rw [if_pos hc] at h; simp at h
    rw [if_neg hc] at h hq ⊢
    generalize hv : valS ((b.toNat : Int) % 64) r (2 ^ (b.toNat / 64) - 1) = v at *
    by_cases hs : sizeS v = ((2 ^ (b.toNat / 64) : Nat) : Int)
    · rw [outS_yes hs] at hq ⊢
      simp only at hq ⊢
      obtain ⟨k, hk⟩ : ∃ k, k = 2 ^ (b.toNat / 64) := ⟨_, rfl⟩
      rw [← hk] at hs hv hc hq
      obtain rfl : q = k := by omega
      have hkk : q = 1 ∨ q = 2 ∨ q = 4 ∨ q = 8 := by
        rcases (by omega : b.toNat / 64 = 0 ∨ b.toNat / 64 = 1 ∨ b.toNat / 64 = 2 ∨ b.toNat / 64 = 3) with e | e | e | e <;> rw [e] at hk <;> omega
      have hm : markS q = 64 * (b.toNat / 64) := by
        rcases (by omega : b.toNat / 64 = 0 ∨ b.toNat / 64 = 1 ∨ b.toNat / 64 = 2 ∨ b.toNat / 64 = 3) with e | e | e | e <;> rw [e] at hk ⊢ <;> subst hk <;> rfl
      have hbd := valS_bd ((b.toNat : Int) % 64) r (q - 1) (by omega) (by omega) (by omega)
      rw [hv] at hbd
      have h0 : 0 ≤ v := hbd.1
      have hnb : numB v = numK v q := by unfold numB; rw [hs]; rfl
      have hdiv := fun j (hj : j ≤ q - 1) => valS_div ((b.toNat : Int) % 64) r (q - 1) (by omega) j hj
      rw [hv] at hdiv
      rw [hnb]
      apply byt8_eq
      · rw [numK_length, List.length_take]; simp; omega
      · rw [numK_length]
        intro i hi
        have htk : byt8 ((b :: r).take q) i = byt8 (b :: r) i := by unfold byt8; simp [List.getD, hi]
        rw [htk]
        have htop : v.toNat / 256 ^ (q - 1) = b.toNat % 64 := by
          have := hdiv (q - 1) (Nat.le_refl _)
          rw [Nat.sub_self, valS_zero] at this
          obtain ⟨m, rfl⟩ := Int.eq_ofNat_of_zero_le h0
          rw [show ((m : Int) / 256 ^ (q - 1)) = ((m / 256 ^ (q - 1) : Nat) : Int) by simp] at this
          rw [Int.toNat_natCast]
          omega
        by_cases hi0 : i = 0
        · subst hi0
          rw [numK_cons v q (by omega)]
          show UInt8.ofNat _ = b
          rw [htop, hm, show b.toNat % 64 % 256 + 64 * (b.toNat / 64) = b.toNat by omega]
          simp
        · have hraw : byt8 (numK v q) i = rawAt v (q - 1 - i) := by
            rw [← rawB_get v q i hi]
            unfold byt8 numK
            simp [List.getD, show ¬ 0 = i by omega]
          rw [hraw]
          apply UInt8.toNat_inj.1
          have e1 := rawAt_val v h0 (q - 1 - i)
          rw [show (2 : Int) ^ (8 * (q - 1 - i)) = 256 ^ (q - 1 - i) by rw [Int.pow_mul]; rfl, hdiv (q - 1 - i) (by omega),
            show q - 1 - (q - 1 - i) = (i - 1) + 1 by omega, valS_succ _ _ _ (by omega)] at e1
          have h8 := by8_bd r (i - 1)
          have e2 : by8 r (i - 1) = ((byt8 (b :: r) i).toNat : Int) := by
            obtain ⟨j, rfl⟩ : ∃ j, i = j + 1 := ⟨i - 1, by omega⟩
            rw [Nat.add_sub_cancel]; rfl
          omega
    · rw [outS_no hs] at h; simp at h
end Go.Proofs.YtioeimkaljmffaaGreatDoor
end

section
namespace Go.Proofs.YtioeimkaljmffaaGreatDoor
open Go.RowKit Go
set_option linter.unusedVariables false

theorem framesS_take (bs : List (List UInt8)) (k : Nat) (h : k < bs.length) : framesS (bs.take (k + 1)) = framesS (bs.take k) ++ wrapS (bs.getD k []) := by
  rw [List.take_succ_eq_append_getElem h, framesS_snoc]; simp [List.getD, h]
/-- Two rows of unlike elements lie apart. -/
theorem rows_apart {W : World} {B B' e e' s s' k k' : Nat} {v v' : Value} {xs xs' : List Value} (h : W.ownsRow B e s v k xs) (h' : W.ownsRow B' e' s' v' k' xs') (he : e ≠ e') : v.ownBlock = none ∨ v.ownBlock ≠ v'.ownBlock := by
  rcases h.2 with ⟨rfl, _⟩ | ⟨g, cap, cur, rfl, _, hg, _⟩
  · exact .inl rfl
  · right
    rcases h'.2 with ⟨rfl, _⟩ | ⟨g', cap', cur', rfl, _, hg', _⟩
    · simp [Value.ownBlock]
    · intro hgg
      obtain rfl : g = g' := by simpa [Value.ownBlock] using hgg
      rw [hg] at hg'
      cases hg'
      exact he rfl

def endsV (bs : List (List UInt8)) (k : Nat) : List Value := (List.range (k + 1)).map fun j => Value.int .i64 (endS bs j : Int)
theorem endsV_zero (bs : List (List UInt8)) : endsV bs 0 = [Value.int .i64 0] := by simp [endsV, endS_zero]
theorem endsV_succ (bs : List (List UInt8)) (k : Nat) : endsV bs (k + 1) = endsV bs k ++ [Value.int .i64 (endS bs (k + 1) : Int)] := by
  unfold endsV; rw [List.range_succ, List.map_append]; rfl
theorem Tryz.info3 : (Tryz.prog.info? 3).map (fun i => (i.zero, i.size, i.bytes)) = some (some (.int .i64 0), 1, 8) := by kernel_rfl

end Go.Proofs.YtioeimkaljmffaaGreatDoor
end

section
namespace Go.Proofs.YtioeimkaljmffaaGreatDoor
open Go.RowKit Go Go.Sort
set_option linter.unusedVariables false

theorem open_form {l m : List UInt8} {k : Nat} (h : openS l = (m, (k : Int), 0)) : m.length ≤ 1048576 ∧ l.take k = wrapS m ∧ k ≤ l.length ∧ m.length + 6 ≤ k := by
  have bad : ∀ e, findS l = (0, 0, e) → ¬ e = 0 → False := fun e h1 h2 => by
    rw [openS_bad h1 h2] at h
    injection h with _ h
    injection h with _ h
    exact h2 h
  rcases Nat.eq_zero_or_pos l.length with h0 | h0
  · obtain rfl := List.eq_nil_of_length_eq_zero h0
    exact (bad 10 findS_nil (by decide)).elim
  by_cases hm : byt8 l 0 = 181
  · rcases getS_cases (l.drop 1) with ⟨ge, hg, he⟩ | ⟨gn, gk, hg, h1, h2, h3⟩
    · exact (bad ge (findS_get h0 hm hg he) he).elim
    · by_cases hl : 1048576 < gn
      · exact (bad 3 (findS_long h0 hm hg (by omega)) (by decide)).elim
      · by_cases hc : 1 + gk + gn + 4 ≤ l.length
        · cases hr : rightS (l.take (1 + gk + gn + 4)) with
          | false => exact (bad 31 (findS_sum h0 hm hg hl hc hr) (by decide)).elim
          | true =>
            have ho := openS_good (findS_good h0 hm hg hl hc hr)
            rw [h] at ho
            injection ho with e1 e2
            injection e2 with e2 _
            have ek : k = 1 + gk + gn + 4 := by omega
            have em : m = (l.drop (1 + gk)).take gn := by rw [e1]; congr 1; omega
            have hml : m.length = gn := by rw [em, List.length_take, List.length_drop]; omega
            subst ek
            refine ⟨by omega, ?_, hc, by omega⟩
            have hx := rightS_iff (l.take (1 + gk + gn + 4)) (by rw [List.length_take]; omega)
            rw [hr] at hx
            have hx := (of_decide_eq_true hx.symm)
            rw [List.length_take, Nat.min_eq_left hc, List.take_take, show min (1 + gk + gn + 4 - 4) (1 + gk + gn + 4) = 1 + gk + gn by omega] at hx
            rw [← hx, wrapS_short (by omega)]
            congr 1
            have hf := getS_form (l.drop 1) gk (by rw [hg]) (by rw [hg])
            rw [hg] at hf
            simp only at hf
            rw [hml, hf, em]
            have hh : l.take 1 = [181] := by
              cases l with
              | nil => simp at h0
              | cons a r =>
                have : a = 181 := by simpa [byt8] using hm
                subst this; rfl
            rw [← hh]
            have a1 : l.take 1 ++ (l.drop 1).take gk = l.take (1 + gk) := by rw [List.take_add]
            rw [a1, ← List.take_add]
        · exact (bad 10 (findS_cut h0 hm hg (by omega) (by omega)) (by decide)).elim
  · exact (bad 30 (findS_mark h0 hm) (by decide)).elim
theorem rowsF_form {l : List UInt8} : ∀ (f a : Nat) (acc bs : List (List UInt8)) (n : Nat) (er : Int), a ≤ l.length → l.length < f + a → framesS acc = l.take a → (∀ b ∈ acc, b.length + 6 ≤ l.length) → rowsF f l a acc = (bs, n, er) →
    framesS bs = l.take n ∧ n ≤ l.length ∧ (er = 0 → n = l.length) ∧ ∀ b ∈ bs, b.length + 6 ≤ l.length
  | 0, a, acc, bs, n, er, ha, hf, _, _, _ => by omega
  | f + 1, a, acc, bs, n, er, ha, hf, hacc, hsh, h => by
    by_cases hal : l.length ≤ a
    · rw [rowsF_end hal] at h
      injection h with h1 h2
      injection h2 with h2 h3
      subst h1 h2 h3
      exact ⟨hacc, ha, fun _ => by omega, hsh⟩
    · rcases openS_cases (l.drop a) with ⟨e, ho, he⟩ | ⟨m, k, ho, hk, hkl, hmk⟩
      · rw [rowsF_stop (by omega) ho he] at h
        injection h with h1 h2
        injection h2 with h2 h3
        subst h1 h2 h3
        exact ⟨hacc, ha, fun h0 => absurd h0 he, hsh⟩
      · obtain ⟨f1, f2, f3, f4⟩ := open_form ho
        rw [rowsF_next (by omega) ho, Int.toNat_natCast] at h
        rw [List.length_drop] at hkl
        refine rowsF_form f (a + k) (acc ++ [m]) bs n er (by omega) (by omega) ?_ ?_ h
        · rw [framesS_snoc, hacc, ← f2, ← List.take_add]
        · intro b hb
          rcases List.mem_append.1 hb with hb | hb
          · exact hsh b hb
          · rw [List.mem_singleton] at hb; subst hb; omega
theorem rows_form {l : List UInt8} {bs : List (List UInt8)} {n : Nat} {er : Int} (h : rowsS l = (bs, n, er)) : framesS bs = l.take n ∧ n ≤ l.length ∧ (er = 0 → n = l.length) ∧ ∀ b ∈ bs, b.length + 6 ≤ l.length :=
  rowsF_form (l.length + 1) 0 [] bs n er (Nat.zero_le _) (by omega) (by simp [framesS]) (fun b hb => by cases hb) h
section
variable {st : Ds} {g : Lg} {S : List Sg} {b : Int} {rl : List (List UInt8)} {su : Nat}
theorem Wk.appN (h : Wk st g S b rl su) (hpl : st.plan = false) {l : List UInt8} (hs : (framesS (recsOf S ++ rl)).length + (wrapS l).length ≤ 1000000) (hl : l.length ≤ 100000) (hn : g.next + 1 ≤ 100000000) (hseg : 0 < rl.length → g.most < g.size + ((wrapS l).length : Int) → S.length + 1 < 64) :
    (appL st g l).1 = (g.next, 0) ∧ (appL st g l).2.2.next = g.next + 1 ∧ (appL st g l).2.1.plan = false ∧ ∃ (S' : List Sg) (b' : Int) (rl' : List (List UInt8)) (su' : Nat), Wk (appL st g l).2.1 (appL st g l).2.2 S' b' rl' su' ∧ recsOf S' ++ rl' = recsOf S ++ rl ++ [l] ∧ S'.length ≤ S.length + 1 ∧ (framesS rl').length ≤ (framesS rl).length + (wrapS l).length ∧ (appL st g l).2.2.most = g.most := by
  have hnx := h.nx
  have hb1 := h.b1
  have nf : ∀ s : Ds, s.plan = st.plan → ¬ Fires s := fun s e hf => by have := hf.1; rw [e, hpl] at this; cases this
  unfold appL
  rw [if_neg (by rw [h.fl.1, h.fl.2]; simp), if_neg (by omega)]
  by_cases ht : g.lastN < g.next ∧ g.most < g.size + ((wrapS l).length : Int)
  · have hr : 0 < rl.length := by rw [h.last] at ht; omega
    have hsg := hseg hr ht.2
    have ea : appT st g (wrapS l).length = turnL st g := if_pos ht
    rw [ea]
    obtain ⟨e1, w1, e2, e3, e4, e5, e6, e7⟩ := h.synced (nf st rfl)
    have et : turnL st g = beginL (syncL st g).2.1 (syncL st g).2.2 := if_pos e1
    rw [et]
    generalize syncL st g = p at *
    obtain ⟨r1, st1, g1⟩ := p
    simp only at e1 w1 e2 e3 e4 e5 e6 e7 ⊢
    obtain ⟨b1', w2, b2, b3, b4, b5, b6⟩ := w1.begun hr (nf st1 e6) hsg
    rw [if_neg (by rw [b1']; decide)]
    generalize beginL st1 g1 = q at *
    obtain ⟨r2, st2, g2⟩ := q
    simp only at b1' w2 b2 b3 b4 b5 b6 ⊢
    have hfu := h.full
    have hs2 : (framesS (recsOf (S ++ [(b, rl)]) ++ [])).length + (wrapS l).length ≤ 1000000 := by rw [hfu]; exact hs
    obtain ⟨p1, w3, p2, p3, p4, p5⟩ := w2.put hs2 hl (by omega) (nf st2 (b5.trans e6))
    unfold putR
    rw [if_pos p1]
    refine ⟨by simp only; rw [p2, b3, e5]; simp, by simp only; rw [p2, b3, e5], by simp only; rw [p4, b5, e6, hpl], _, _, _, _, w3, ?_, by simp, ?_, by simp only; rw [p3, b2, e3]⟩
    · rw [← List.append_assoc, hfu]
    · simp only [List.nil_append]
      have e9 : (framesS [l]).length = (wrapS l).length := by simp [framesS]
      omega
  · have ea : appT st g (wrapS l).length = (0, st, g) := if_neg ht
    rw [ea, if_neg (by simp)]
    simp only
    obtain ⟨p1, w3, p2, p3, p4, p5⟩ := h.put hs hl hn (nf st rfl)
    unfold putR
    rw [if_pos p1]
    refine ⟨by simp only; rw [p2]; simp, p2, by simp only; rw [p4, hpl], _, _, _, _, w3, by rw [List.append_assoc], by omega, ?_, p3⟩
    rw [framesS_snoc, List.length_append]
    exact Nat.le_refl _
end
/-- The disk of the law: one file. -/
def s7 (l : List UInt8) : Ds := ⟨1048576, [⟨nameW 119 7, l, 0⟩], true, 2, 0, false, 0, 0⟩
theorem fz7 (l : List UInt8) : Fz (s7 l) [] 7 l 0 := ⟨rfl, rfl, rfl, trivial, by omega, by omega, fun s hs => by cases hs⟩
/-- The log behind its opening. -/
theorem wk7 {l : List UInt8} {bs : List (List UInt8)} {n : Nat} {er : Int} (hr : rowsS l = (bs, n, er)) (hl : l.length ≤ 90000) {size : Int} {st : Ds} {g : Lg} {rs : List (List UInt8)} (h : Opd (s7 l) [] 7 l bs n size (0, st, g, rs)) : Wk st g [] 7 bs n ∧ st.plan = false ∧ g.most = size ∧ g.next = 7 + (bs.length : Int) := by
  obtain ⟨f1, f2, f3, f4⟩ := rows_form hr
  have hlen : (framesS bs).length = n := by rw [f1, List.length_take]; omega
  have hcnt : 6 * bs.length ≤ (framesS bs).length := by
    have key : ∀ cs : List (List UInt8), (∀ b ∈ cs, b.length ≤ 1048576) → 6 * cs.length ≤ (framesS cs).length := by
      intro cs
      induction cs with
      | nil => intro _; simp
      | cons c r ih =>
        intro hc
        have h1 := ih (fun b hb => hc b (by simp [hb]))
        have h2 := wrapS_length (l := c) (hc c (by simp))
        obtain ⟨q, -, e2, e3, -⟩ := headS_size c.length (hc c (by simp))
        rw [framesS_cons, List.length_append, List.length_cons]
        omega
    exact key bs (fun b hb => by have := f4 b hb; omega)
  have hnx := h.next
  have hB := h.B
  have hfi := h.files
  have hsz := h.sz
  simp only at hnx hB hfi hsz
  refine ⟨⟨?_, h.on, h.room, trivial, by omega, hB, hnx, by omega, by rw [hsz, hlen], ⟨h.fails.1, h.fails.2⟩, by omega, ⟨bs.length, Nat.le_refl _, ?_, ?_⟩, ?_⟩, h.plan, h.most, hnx⟩
  · rw [hfi, ← f1]; rfl
  · unfold endS; rw [List.take_length]; omega
  · have := h.sure; simp only at this; omega
  · intro r hr2
    have := f4 r (by simpa [recsOf] using hr2)
    omega
end Go.Proofs.YtioeimkaljmffaaGreatDoor
end

section
namespace Go.Proofs.YtioeimkaljmffaaGreatDoor
open Go.RowKit Go Go.Sort
set_option linter.unusedVariables false
set_option maxRecDepth 20000

theorem bys_lt {w : World} {a : Option Addr} {n cap : Nat} {l : List UInt8} (h : Bys w a n cap l) (hn : 0 < n) {b off : Nat} (e : a = some ⟨b, off, none⟩) : b < w.heap.size := by
  have := h.le
  rcases h.adr with h4 | ⟨b', off', e', hc⟩
  · omega
  · rw [e] at e'
    injection e' with e'
    injection e' with e1 e2
    subst e1
    exact World.block_lt_of_cell? w _ (hc 0 hn)
theorem make7 : (Ds.new 1048576).make (nameW 119 7) = (0, ⟨1048576, [⟨nameW 119 7, [], 0⟩], true, 1, 0, false, 0, 0⟩) := by kernel_rfl
theorem append7 {l : List UInt8} (h : l.length ≤ 90000) : (⟨1048576, [⟨nameW 119 7, [], 0⟩], true, 1, 0, false, 0, 0⟩ : Ds).append (nameW 119 7) l = (0, s7 l) := by
  have e : (⟨1048576, [⟨nameW 119 7, [], 0⟩], true, 1, 0, false, 0, 0⟩ : Ds).append (nameW 119 7) l = if 1048576 < 0 + l.length then (3, (⟨1048576, [⟨nameW 119 7, [], 0⟩], true, 1, 0, false, 0, 0⟩ : Ds)) else if (1048576 : Int) < ((0 : Nat) : Int) + l.length then (151, (⟨1048576, [⟨nameW 119 7, [], 0⟩], true, 1, 0, false, 0, 0⟩ : Ds)) else (0, s7 l) := by kernel_rfl
  rw [e, if_neg (by omega), if_neg (by omega)]
theorem on_bys (w : World) (m : Nat × Nat) : Bys (w.alloc (.cells #[.int .u8 111, .int .u8 110] 5 m)) (some ⟨w.heap.size, 0, none⟩) 2 2 [111, 110] := by
  refine ⟨rfl, Nat.le_refl _, by omega, .inr ⟨w.heap.size, 0, rfl, fun i hi => ?_⟩⟩
  have h : (w.alloc (.cells #[.int .u8 111, .int .u8 110] 5 m)).heap[w.heap.size]? = some (.cells #[.int .u8 111, .int .u8 110] 5 m) := by
    show (w.heap.push _)[w.heap.size]? = _
    simp
  unfold World.cell?
  rw [h]
  rcases (by omega : i = 0 ∨ i = 1) with rfl | rfl <;> rfl
theorem on_wrap : (wrapS [111, 110]).length = 8 := by kernel_rfl
section
variable {w0 W : World} {q p : Nat} {st : Ds} {g : Lg} {S : List Sg} {b : Int} {rl : List (List UInt8)} {su : Nat}
theorem tapp_new {bs : List (List UInt8)} {n c : Nat} (h : Wg w0 q p st g W) (hw : Wk st g [] 7 bs n) (hp : st.plan = false) (hmo : g.most = 1000) (hfl : (framesS bs).length ≤ 20000) (hcn : bs.length ≤ 90000) (hT : TabE w0) {m : Nat × Nat} {C : Array Value} (hC : C = #[.int .u8 111, .int .u8 110]) (hb : W.heap.size = c) :
    Calls Tryz.prog 17 #[.pointer (some ⟨p, 0, none⟩), .slice (some ⟨c, 0, none⟩) 2 2] (W.alloc (.cells C 5 m)) (fun e W' => e = .returned (.tuple #[.int .i64 (7 + (bs.length : Int)), .int .i64 0]) ∧ ∃ st' g' S' b' rl' su', Wg w0 q p st' g' W' ∧ Wk st' g' S' b' rl' su' ∧ st'.plan = false ∧ recsOf S' ++ rl' = bs ++ [[111, 110]] ∧ S'.length ≤ 1 ∧ (framesS rl').length ≤ 20100 ∧ g'.most = 1000) := by
  subst hb
  subst hC
  have hnx := hw.nx
  have hgk : GOk g 10 := hw.gok (by simp) (by omega) (by rw [hmo]; omega)
  have e0 : framesS (recsOf [] ++ bs) = framesS bs := rfl
  obtain ⟨e1, e2, e3, S', b', rl', su', w1, e4, e5, e6, e7⟩ := hw.appN hp (l := [111, 110]) (by rw [e0, on_wrap]; omega) (by simp) (by omega) (fun _ _ => by simp)
  refine (lappend_c (h.below (alloc_below W _)) hgk (by omega) hT (on_bys W m) (by omega)).mono fun e W' ⟨he, hwg⟩ => ⟨?_, _, _, S', b', rl', su', hwg, w1, e3, e4, by simpa using e5, by rw [on_wrap] at e6; omega, by rw [e7, hmo]⟩
  rw [he, e1, hnx]
theorem tsync (h : Wg w0 q p st g W) (hw : Wk st g S b rl su) (hp : st.plan = false) (hS : S.length ≤ 100) (hfl : (framesS rl).length ≤ 30000) (hm : 0 ≤ g.most ∧ g.most ≤ 1048576) (hT : TabE w0) :
    Calls Tryz.prog 18 #[.pointer (some ⟨p, 0, none⟩)] W (fun e W' => e = .returned (.int .i64 0) ∧ ∃ st' g', Wg w0 q p st' g' W' ∧ Wk st' g' S b rl (framesS rl).length ∧ st'.plan = false) := by
  have hgk : GOk g 100 := hw.gok hS (by omega) hm
  have hnf : ¬ Fires st := fun hf => by have := hf.1; rw [hp] at this; cases this
  obtain ⟨s1, w2, s3, s4, s5, s6, s7, s8⟩ := hw.synced hnf
  have esy : snyL st g = syncL st g := if_neg (by rw [hw.fl.1, hw.fl.2]; simp)
  refine (lsync_c h hgk hT).mono fun e W' ⟨he, hwg⟩ => ?_
  rw [esy] at he hwg
  exact ⟨by rw [he, s1], _, _, hwg, w2, s7.trans hp⟩
theorem topen (h : Wg w0 q p st g W) (hw : Wk st g S b rl su) (hp : st.plan = false) (htot : (framesS (recsOf S ++ rl)).length ≤ 99999) (hT : TabE w0) {size : Int} (h1 : 1 ≤ size) (h2 : size ≤ 1048576) :
    Calls Tryz.prog 14 #[.pointer (some ⟨q, 0, none⟩), .int .i64 size] W (fun e W' => ∃ p2 v st2 g2, e = .returned (.tuple #[.pointer (some ⟨p2, 0, none⟩), v, .int .i64 0]) ∧ Wg w0 q p2 st2 g2 W' ∧ OwnRows W' w0.heap.size v (recsOf S ++ rl)) := by
  have hshort : ∀ x ∈ rl, x.length ≤ 1048576 := fun x hx => by have := hw.short x (List.mem_append.2 (.inr hx)); omega
  obtain ⟨F, hd, hF, hb⟩ := wg_dk h
  exact (dk_open hd hF hb hT (hw.fz hp) (files_small hw.files htot) (rows_full rl hshort) (Nat.le_refl _) (fun _ => rfl) h1 h2).mono fun e W' ⟨p2, v, st2, g2, a1, a2, a3, _⟩ => ⟨p2, v, st2, g2, a1, a2, a3⟩
/-- The torn log is opened. -/
theorem topen7 {bb : List UInt8} (h : Lv w0 W q (s7 bb)) {bs : List (List UInt8)} {n : Nat} {er : Int} (hr : rowsS bb = (bs, n, er)) (hl : bb.length ≤ 90000) (hT : TabE w0) :
    Calls Tryz.prog 14 #[.pointer (some ⟨q, 0, none⟩), .int .i64 1000] W (fun e W' => ∃ p2 v st2 g2, e = .returned (.tuple #[.pointer (some ⟨p2, 0, none⟩), v, .int .i64 0]) ∧ Wg w0 q p2 st2 g2 W' ∧ OwnRows W' w0.heap.size v bs ∧ Wk st2 g2 [] 7 bs n ∧ st2.plan = false ∧ g2.most = 1000 ∧ g2.B = [7] ∧ g2.next = 7 + (bs.length : Int) ∧ st2.read (nameW 119 7) = (some (bb.take n), 0)) := by
  obtain ⟨F, hd, hF, hb⟩ := h
  obtain ⟨f1, f2, f3, f4⟩ := rows_form hr
  refine (dk_open hd hF hb hT (fz7 bb) (fun f hf => by rw [show (s7 bb).F = [⟨nameW 119 7, bb, 0⟩] from rfl, List.mem_singleton] at hf; subst hf; show bb.length ≤ 99999; omega) hr f2 f3 (size := 1000) (by omega) (by omega)).mono fun e W' ⟨p2, v, st2, g2, a1, a2, a3, a4⟩ => ?_
  obtain ⟨k1, k2, k3, k4⟩ := wk7 hr hl a4
  refine ⟨p2, v, st2, g2, a1, a2, a3, k1, k2, k3, a4.B, k4, ?_⟩
  have hz := a4.fz (fz7 bb)
  exact hz.read (f := ⟨nameW 119 7, bb.take n, n⟩) (by rw [hz.files]; simp)
theorem tread (h : Wg w0 q p st g W) {nm l : List UInt8} (hn : nm.length ≤ 9223372036854775807) (hr : st.read nm = (some l, 0)) :
    Calls Tryz.prog 32 #[.pointer (some ⟨q, 0, none⟩), .string (text nm)] W (fun e W' => ∃ a c, e = .returned (.tuple #[.slice a l.length c, .int .i64 0]) ∧ Bys W' a l.length c l ∧ Below W.heap.size W W') := by
  obtain ⟨F, hd, hF, hb⟩ := wg_dk h
  have := lread_file hd nm hn
  rw [hr] at this
  exact this
end
end Go.Proofs.YtioeimkaljmffaaGreatDoor
end

section
namespace Go.Proofs.YtioeimkaljmffaaGreatDoor
open Go.RowKit Go Go.Sort
set_option linter.unusedVariables false
set_option maxRecDepth 20000

theorem umodT (z : Int) (T : Nat) (hT : T ≤ 1000000) : ∃ q : Nat, q ≤ T ∧ wrap64 ((IntKind.u64.wrap z).tmod ((T : Int) + 1)) = (q : Int) := by
  obtain ⟨q, h1, h2, h3⟩ := umodW z ((T : Int) + 1) (by omega) (by omega)
  exact ⟨q.toNat, by omega, by rw [h1]; omega⟩
set_option maxRecDepth 100000 in
set_option maxHeartbeats 12800000 in
theorem wtorn_walk {w : World} {a : Option Addr} {n cap : Nat} {bs : List (List UInt8)} (ha : Rws w a n cap bs) (cut : Int) {at9 : Option Addr} {mt ct : Nat} {tl : List UInt8} (htl : Bys w at9 mt ct tl) (hT : TabE w) :
    Calls Tryz.prog 6 #[.slice a n cap, .int .i64 cut, .slice at9 mt ct] w (Tells (.bool true) w) := by
  have hlen := ha.len
  have hle := ha.le
  have hmax := ha.max
  have HLEN := Lib.hid hlen
  have HTE := Lib.hid hT
  have HTL := Lib.hid htl
  have HLV := Lib.hid (fun W (hb : Below w.heap.size w W) => wlives_c (hT.grown hb))
  clear hlen hT htl
  obtain ⟨i0, hi, hz0, hz1, hz2⟩ := info_parts Tryz.info5
  obtain ⟨i3, gi, gz0, gz1, gz2⟩ := info_parts Tryz.info3
  have hal : Below w.heap.size w (w.alloc (.cells #[.int .i64 0] 3)) := (Below.refl _ _).alloc (Nat.le_refl _) _
  have hends0 : (w.alloc (.cells #[.int .i64 0] 3)).ownsRow w.heap.size 3 1 (.slice (some ⟨w.heap.size, 0, none⟩) 1 1) 1 (endsV bs 0) := by
    rw [endsV_zero]
    exact ⟨by simp, .inr ⟨w.heap.size, 1, #[.int .i64 0], rfl, Nat.le_refl _, heap_alloc_new w _, Nat.le_refl _, by unfold maxLen; omega, rfl, rfl⟩⟩
  go_enter Tryz.func6, Tryz.ntmps6
  go_upto_region 4 with (fail)
  go_loopw [7, 8, 30] (fun va ve i wr => ∃ j : Nat, j ≤ n ∧ i = .int .i64 j ∧ OwnB wr w.heap.size 5 va (framesS (bs.take j)) ∧ wr.ownsRow w.heap.size 3 1 ve (j + 1) (endsV bs j) ∧ (framesS (bs.take j)).length ≤ 10100 ∧ (0 < j → n ≤ 60) ∧ (∀ x ∈ bs.take j, x.length ≤ 5000) ∧ Below w.heap.size w wr) (fun _ _ i _ => n - (intOf i).toNat)
  case atStart => exact ⟨0, by omega, rfl, OwnB.nil _ _ _, hends0, by simp [framesS], fun h => by omega, fun x hx => by simp at hx, hal⟩
  case round =>
    obtain ⟨j, hj, rfl, hoa, hoe, hjl, h60, h50, hbel⟩ := hrel
    have H60 := Lib.hid h60
    have H50 := Lib.hid h50
    clear hends0 hal h60 h50
    by_cases hlt : j < n
    · obtain ⟨ba, oa, rfl, hca⟩ : ∃ b off, a = some ⟨b, off, none⟩ ∧ ∀ i, i < n → ∃ ai ni ci, w.cell? ⟨b, off + i, none⟩ = some (.slice ai ni ci) ∧ Bys w ai ni ci (bs.getD i []) := by
        rcases ha.adr with h | h
        · omega
        · exact h
      obtain ⟨ai, ni, ci, h1, h2⟩ := hca j hlt
      have hc1 : wr.cell? ⟨ba, oa + j, none⟩ = some (.slice ai ni ci) := by rw [hbel.cell (World.block_lt_of_cell? w _ h1)]; exact h1
      have hki : (j : Int) < (n : Int) := by omega
      have hkc : (j : Int) < (cap : Int) := by omega
      have hb2 := h2.below hbel
      have HFT := Lib.hid (framesS_take bs j (by rw [HLEN.out]; exact hlt))
      have htk := take_snoc (d := []) (l := bs) (i := j) (by rw [HLEN.out]; exact hlt)
      obtain ⟨x, hx⟩ : ∃ x, bs.getD j [] = x := ⟨_, rfl⟩
      rw [hx] at hb2 HFT htk
      have HTK := Lib.hid htk
      obtain ⟨fj, hfj⟩ : ∃ fj, framesS (bs.take j) = fj := ⟨_, rfl⟩
      rw [hfj] at hoa hjl HFT
      have hxl : x.length = ni := hb2.len
      have hnm := hb2.max
      have hnc := hb2.le
      obtain ⟨aa, ca, eva, hba0⟩ := hoa.bys
      subst eva
      clear hca h1 h2 hx hfj htk hba0
      by_cases g1 : 60 < n
      · have g1i : (60 : Int) < (n : Int) := by omega
        go_wp2_with (go_at_call 10; (with_reducible refine (HLV.out _ hbel).mono ?_); rintro e20 w20 ⟨rfl, hb20⟩)
        go_ret
        exact ⟨rfl, hbel.trans (hb20.mono hbel.size)⟩
      · have g1i : ¬ (60 : Int) < (n : Int) := by omega
        by_cases g2 : 5000 < ni
        · have g2i : (5000 : Int) < (ni : Int) := by omega
          go_wp2_with (go_at_call 10; (with_reducible refine (HLV.out _ hbel).mono ?_); rintro e20 w20 ⟨rfl, hb20⟩)
          go_ret
          exact ⟨rfl, hbel.trans (hb20.mono hbel.size)⟩
        · have g2i : ¬ (5000 : Int) < (ni : Int) := by omega
          by_cases g3 : 5000 < fj.length
          · have g3i : (5000 : Int) < (fj.length : Int) := by omega
            go_wp2_with (go_at_call 10; (with_reducible refine (HLV.out _ hbel).mono ?_); rintro e20 w20 ⟨rfl, hb20⟩)
            go_ret
            exact ⟨rfl, hbel.trans (hb20.mono hbel.size)⟩
          · have g3i : ¬ (5000 : Int) < (fj.length : Int) := by omega
            have hwx : (wrapS x).length ≤ 5013 := by
              have h4 := wrapS_length (l := x) (by omega)
              obtain ⟨q, _, hl, q1, q8⟩ := headS_size x.length (by omega)
              omega
            have HF : Hid ((fj ++ wrapS x).length = endS bs (j + 1)) := Lib.hid (by rw [← HFT.out]; rfl)
            have HEL := Lib.hid (show endS bs (j + 1) ≤ 10100 by rw [← HF.out, List.length_append]; omega)
            have hel := HEL.out
            go_wp2_with (first
              | (go_at_call 27; refine (rwrap_c hb2 (by omega)).mono ?_; rintro e w1 ⟨v1, rfl, ho1, hbv1⟩; obtain ⟨a1, c1, hv1, hb1⟩ := ho1.bys; subst hv1; have hoa1 := hoa.kept hbv1; have hoe1 := ownsRow_below hoe hbv1; have hbw1 := hbel.trans (hbv1.mono hbel.size))
              | (at_builtin; refine wpList_append_bys rfl (.tmp 48) (.tmp 50) 34 rfl Tryz.underlying34 hi hz0 hz1 hz2 rfl rfl hoa1 rfl hb1 (by omega) hbw1.size ?_; intro v2 w2 ho2 hg2; obtain ⟨a2, c2, hv2, hb3⟩ := ho2.bys; rw [HF.out] at hv2 hb3; subst hv2; have hoe2 := hoe1.kept hg2 (rows_apart hoe1 hoa1 (by decide)); have hbw2 := hbw1.grown hg2 hbw1.size (fun q hq => (hoa1.lt q hq).1))
              | (at_builtin; refine wpList_append_own _ rfl _ _ 54 rfl w.heap.size 3 i3 (.int .i64 0) 1 8 Tryz.underlying54 gi gz0 gz1 gz2 rfl (by decide) _ _ _ rfl (hoe2.alloc _) ⟨w2.heap.size, 0, none⟩ 1 1 [.int .i64 (endS bs (j + 1) : Int)] rfl rfl (cell_one_new _ _ _) (by simp [Value.oneCell']) (by unfold maxLen; omega) (by omega) (by have := hbw2.size; simp; omega) ?_; intro v3 w3 hown3 hg3 _))
            go_roundw
            case rel =>
              have ho2' : OwnB (w2.alloc (.cells #[.int .i64 (endS bs (j + 1) : Int)] 3)) w.heap.size 5 _ _ := World.ownsRow.alloc ho2 _
              refine ⟨j + 1, by omega, by go_num, ?_, ?_, by rw [HFT.out, HF.out]; exact HEL.out, fun _ => by omega, fun y hy => by
                rw [HTK.out] at hy
                rcases List.mem_append.1 hy with hy | hy
                · exact H50.out y hy
                · rw [List.mem_singleton] at hy; subst hy; omega, (hbw2.alloc hbw2.size _).grown hg3 (by have := hbw2.size; simp; omega) (fun q hq => (World.ownsRow.lt hoe2 q hq).1)⟩
              · rw [HFT.out]
                have h5 := World.ownsRow.kept ho2' hg3 (rows_apart ho2' (hoe2.alloc _) (by decide))
                exact h5
              · rw [endsV_succ]; exact hown3
            case measure => simp [intOf]; omega
    · obtain rfl : j = n := by omega
      have hall : bs.take j = bs := List.take_of_length_le (by rw [HLEN.out]; exact Nat.le_refl _)
      rw [hall] at hoa hjl
      have H50A := Lib.hid (show ∀ x ∈ bs, x.length ≤ 5000 from by have := H50.out; rwa [hall] at this)
      obtain ⟨av, cv, hva, hba⟩ := hoa.bys
      subst hva
      obtain ⟨FB, hFB⟩ : ∃ z, framesS bs = z := ⟨_, rfl⟩
      rw [hFB] at hba hoa hjl ⊢
      clear hFB
      obtain ⟨T, hTl⟩ : ∃ T, FB.length = T := ⟨_, rfl⟩
      rw [hTl] at hba hjl ⊢
      obtain ⟨q, hqm, hqe⟩ := umodT cut T (by omega)
      have hcv : T ≤ cv ∧ cv ≤ 9223372036854775807 := ⟨hba.le, hba.max⟩
      have hqc : (q : Int) ≤ (cv : Int) ∧ q ≤ cv := by omega
      have hnn : ¬ (j : Int) < (j : Int) := by omega
      have hmt := HTL.out.max
      have hmt2 := HTL.out.le
      have hbtl := HTL.out.below hbel
      by_cases ht : 1000 < mt
      · have hti : (1000 : Int) < (mt : Int) := by omega
        go_wp2_with (go_at_call 10; (with_reducible refine (HLV.out _ hbel).mono ?_); rintro e20 w20 ⟨rfl, hb20⟩)
        go_ret
        exact ⟨rfl, hbel.trans (hb20.mono hbel.size)⟩
      · have hti : ¬ (1000 : Int) < (mt : Int) := by omega
        go_upto_region 14 with (fail)
        rw [hqe]
        have hown0 : OwnB (wr.alloc (.cells #[] 5)) wr.heap.size 5 (.slice (some ⟨wr.heap.size, 0, none⟩) 0 0) [] := ⟨rfl, .inr ⟨wr.heap.size, 0, #[], rfl, Nat.le_refl _, heap_alloc_new wr _, Nat.le_refl _, by unfold maxLen; omega, rfl, rfl⟩⟩
        have hbw0 := alloc_below wr (.cells #[] 5)
        have hbq := (hba.take hqm).below hbw0
        have hbt0 := hbtl.below hbw0
        have htn := HTL.out.len
        have hfq : (FB.take q).length = q := by rw [List.length_take]; omega
        obtain ⟨BB, hBB⟩ : ∃ z, FB.take q ++ tl = z := ⟨_, rfl⟩
        have hBl : BB.length ≤ 12000 := by rw [← hBB, List.length_append]; omega
        obtain ⟨nb, hnb⟩ : ∃ z, BB.length = z := ⟨_, rfl⟩
        rw [hnb] at hBl
        have HBBE := Lib.hid hBB
        have HNB := Lib.hid hnb
        clear hBB hnb hoe hqe
        go_upto_region 15 with (first
          | (at_builtin; (refine wpList_append_bys rfl (.tmp 70) (.tmp 73) 34 rfl Tryz.underlying34 hi hz0 hz1 hz2 rfl rfl hown0 rfl hbq (by simp; omega) hbw0.size ?_; intro v4 w4 ho4 hg4; rw [List.nil_append] at ho4; obtain ⟨a4, c4, hv4, hb4⟩ := ho4.bys; rw [hfq] at hv4; subst hv4; have hbw4 := hbw0.grown hg4 hbw0.size (fun z e => (hown0.lt z e).1); have hbt4 := hbtl.below hbw4))
          | (at_builtin; refine wpList_append_bys rfl (.tmp 74) (.tmp 75) 34 rfl Tryz.underlying34 hi hz0 hz1 hz2 rfl rfl ho4 rfl hbt4 (by omega) hbw4.size ?_; intro v5 w5 ho5 hg5; rw [HBBE.out] at ho5; obtain ⟨a5, c5, hv5, hb5⟩ := ho5.bys; rw [HNB.out] at hv5 hb5; subst hv5; have hbw5 := hbw4.grown hg5 hbw4.size (fun z e => (ho4.lt z e).1)))
        have HB5 := Lib.hid (hbel.trans (hbw5.mono hbel.size))
        have HBY := Lib.hid hb5
        clear ho5 hg5 ho4 hg4 hb4 hbt4 hbw4 hbw5 hown0 hbw0 hbq hbt0 htn hfq hb5 hba hoa
        obtain ⟨⟨bs2, n2, er⟩, hrs⟩ : ∃ z, rowsS BB = z := ⟨_, rfl⟩
        have hrc := rrows_c HBY.out (by omega)
        have HRC := Lib.hid hrc
        have HRS := Lib.hid hrs
        clear hrc hrs
        go_upto_region 16 with (go_at_call 28; (with_reducible refine HRC.out.mono ?_); rintro e6 w6 hp6; unfold RowsPost at hp6; rw [HRS.out] at hp6; obtain ⟨vw, rfl, how, hb6⟩ := hp6; have HOW := Lib.hid how; have HB6 := Lib.hid (HB5.out.trans (hb6.mono HB5.out.size)); have HBY6 := Lib.hid (HBY.out.below hb6); clear how hb6)
        obtain ⟨aw, cw, evw, hrww⟩ := HOW.out.rws
        subst evw
        obtain ⟨nl, hnl⟩ : ∃ z, bs2.length = z := ⟨_, rfl⟩
        rw [hnl] at hrww ⊢
        have HNL := Lib.hid hnl
        have HRWW := Lib.hid hrww
        clear hrww hnl
        obtain ⟨f1, f2, f3, f4⟩ := rows_form HRS.out
        have hfl : (framesS bs2).length = n2 := by rw [f1, List.length_take]; omega
        have HN2 := Lib.hid (show n2 ≤ 12000 ∧ (framesS bs2).length = n2 by have := HNB.out; omega)
        have hnl2 : nl ≤ 12001 := by
          have h1 := rowsS_count BB
          rw [HRS.out, HNL.out, HNB.out] at h1
          omega
        have HNLB := Lib.hid hnl2
        have HBBL := Lib.hid (show BB.length ≤ 90000 by have := HNB.out; omega)
        clear f1 f2 f3 f4 hfl HOW HRC HBY
        have HT6 := Lib.hid (HTE.out.grown HB6.out)
        have HLV6 := Lib.hid (fun W (hb : Below w6.heap.size w6 W) => HLV.out W (HB6.out.trans (hb.mono HB6.out.size)))
        clear HLV HB5 hbel
        go_upto_region 17 with (go_at_call 7; (with_reducible refine (lv_new 1048576 _ (by omega) (by omega)).mono ?_); rintro e7 w7 ⟨dq, rfl, hl7⟩; have HL7 := Lib.hid hl7; clear hl7)
        have HNM := Lib.hid (fun (W : World) (hb : Below w6.heap.size w6 W) => (wname_c 7 (by omega) (by omega) (HT6.out.grown hb).i : Calls Tryz.prog 29 #[.int .i64 7] W _))
        go_upto_region 18 with (go_at_call 29; (with_reducible refine (HNM.out _ HL7.out.b).mono ?_); rintro e8 w8 ⟨rfl, hb8⟩; have HL8 := Lib.hid (HL7.out.keep hb8); clear hb8)
        obtain ⟨tn, htn⟩ : ∃ z, text (nameW 119 7) = z := ⟨_, rfl⟩
        rw [htn]
        have HTN := Lib.hid htn.symm
        clear htn HL7 HNM
        have hln : (nameW 119 7).length ≤ 9223372036854775807 := by have := nameW_len 119 7; omega
        have HLN := Lib.hid hln
        clear hln
        have HMK := Lib.hid (lv_make HL8.out HTN.out HLN.out make7)
        have HAP := Lib.hid (fun (W : World) (h : Lv w6 W dq ⟨1048576, [⟨nameW 119 7, [], 0⟩], true, 1, 0, false, 0, 0⟩) => lv_append h HTN.out HLN.out (HBY6.out.below h.b) (by have := HBBL.out; omega) (fun F hk hlo hp b off e hFb => by have h1 := hlo b hFb; have h2 := bys_lt HBY6.out hp e; omega) (append7 HBBL.out))
        go_upto_region 20 with (first
          | (go_at_call 30; (with_reducible refine HMK.out.mono ?_); rintro e9 w9 ⟨rfl, hl9⟩; have HL9 := Lib.hid hl9; clear hl9)
          | (go_at_call 31; (with_reducible refine (HAP.out _ HL9.out).mono ?_); rintro e10 w10 ⟨rfl, hl10⟩; have HL10 := Lib.hid hl10; clear hl10))
        clear HMK HAP HL9 HL8
        have HOP := Lib.hid (topen7 HL10.out HRS.out HBBL.out HT6.out)
        go_upto_region 21 with (go_at_call 14; (with_reducible refine HOP.out.mono ?_); rintro e11 w11 ⟨p2, v2, st2, g2, rfl, hw11, hov, hwk, hpl, hmo, hB2, hn2, hrd⟩; have HW11 := Lib.hid hw11; have HOV := Lib.hid hov; have HWK := Lib.hid hwk; have HPL := Lib.hid hpl; have HMO := Lib.hid hmo; have HB2 := Lib.hid hB2; have HNX := Lib.hid hn2; have HRD := Lib.hid hrd; clear hw11 hov hwk hpl hmo hB2 hn2 hrd)
        obtain ⟨a2, c2, ev2, hrw2⟩ := HOV.out.rws
        subst ev2
        rw [HNL.out] at hrw2 ⊢
        have HRW2 := Lib.hid hrw2
        clear hrw2 HOP HL10
        have HRE := Lib.hid (tread HW11.out HLN.out HRD.out)
        rw [HTN.out.symm] at HRE
        have hbl : (BB.take n2).length = n2 := by rw [List.length_take]; have := HN2.out; have := HNB.out; have := rows_form HRS.out; omega
        rw [hbl] at HRE
        clear hbl
        go_upto_region 22 with (go_at_call 32; (with_reducible refine HRE.out.mono ?_); rintro e12 w12 ⟨a12, c12, rfl, hb12, hbw12⟩; have HW12 := Lib.hid (HW11.out.below hbw12); have HRW3 := Lib.hid (HRW2.out.below hbw12); clear hb12 hbw12)
        have HSM := Lib.hid (show Calls Tryz.prog 22 #[.slice a2 nl c2, .slice aw nl cw] w12 (BoolPost true w12) from by
          have h9 := same_c HRW3.out (HRWW.out.below HW12.out.b)
          rw [decide_eq_true rfl] at h9
          exact h9)
        have HFI := Lib.hid (fun (W : World) (hw : Wg w6 dq p2 st2 g2 W) => wg_first hw HB2.out)
        have HNE := Lib.hid (fun (W : World) (hw : Wg w6 dq p2 st2 g2 W) => (show Calls Tryz.prog 23 #[.pointer (some ⟨p2, 0, none⟩)] W (Tells (.int .i64 (7 + (nl : Int))) W) from by
          have := wg_next hw
          rw [HNX.out, HNL.out] at this
          exact this))
        have hwr : IntKind.i64.wrap (7 + (nl : Int)) = 7 + (nl : Int) := by rw [IntKind.wrap_i64]; omega
        go_upto_region 24 with (first
          | (go_at_call 22; (with_reducible refine HSM.out.mono ?_); rintro e13 w13 ⟨rfl, hb13⟩; have HW13 := Lib.hid (HW12.out.below hb13); clear hb13)
          | (go_at_call 26; (with_reducible refine (HFI.out _ HW13.out).mono ?_); rintro e14 w14 ⟨rfl, hb14⟩; have HW14 := Lib.hid (HW13.out.below hb14); clear hb14)
          | (go_at_call 23; (with_reducible refine (HNE.out _ HW14.out).mono ?_); rintro e15 w15 ⟨rfl, hb15⟩; have HW15 := Lib.hid (HW14.out.below hb15); clear hb15))
        clear HSM HFI HNE HRE HRD HNX HB2 HRW2 HRW3 HW12 HW13 HW14 HOV HRS HBBE
        have kc := fun (w : World) (C : Array Value) (n c : Nat) => Lib.run_convert_bytes_const (P := Tryz.prog) w 34 5 C n c Tryz.underlying34 Tryz.underlying5
        have HAN := Lib.hid (fun (C : Array Value) (m : Nat × Nat) (c : Nat) (hC : C = #[.int .u8 111, .int .u8 110]) (hc : w15.heap.size = c) => (show Calls Tryz.prog 17 #[.pointer (some ⟨p2, 0, none⟩), .slice (some ⟨c, 0, none⟩) 2 2] (w15.alloc (.cells C 5 m)) (fun e W' => e = .returned (.tuple #[.int .i64 (7 + (nl : Int)), .int .i64 0]) ∧ ∃ st' g' S' b' rl' su', Wg w6 dq p2 st' g' W' ∧ Wk st' g' S' b' rl' su' ∧ st'.plan = false ∧ recsOf S' ++ rl' = bs2 ++ [[111, 110]] ∧ S'.length ≤ 1 ∧ (framesS rl').length ≤ 20100 ∧ g'.most = 1000) from by
          have h9 := tapp_new HW15.out HWK.out HPL.out HMO.out (by have := HN2.out; omega) (by rw [HNL.out]; have := HNLB.out; omega) HT6.out hC hc (m := m)
          rw [HNL.out] at h9
          exact h9))
        go_upto_region 25 with (go_at_call 17; (with_reducible refine (HAN.out _ _ _ rfl rfl).mono ?_); rintro e16 w16 ⟨rfl, st', g', S', b', rl', su', hw16, hk16, hp16, hr16, hs16, hf16, hm16⟩; have HW16 := Lib.hid hw16; have HK16 := Lib.hid hk16; have HP16 := Lib.hid hp16; have HR16 := Lib.hid hr16; have HS16 := Lib.hid hs16; have HF16 := Lib.hid hf16; have HM16 := Lib.hid hm16; clear hw16 hk16 hp16 hr16 hs16 hf16 hm16)
        clear HAN kc HW15 HWK HPL HMO
        have HSY := Lib.hid (tsync HW16.out HK16.out HP16.out (by have := HS16.out; omega) (by have := HF16.out; omega) (by rw [HM16.out]; omega) HT6.out)
        go_upto_region 27 with (go_at_call 18; (with_reducible refine HSY.out.mono ?_); rintro e17 w17 ⟨rfl, st3, g3, hw17, hk17, hp17⟩; have HW17 := Lib.hid hw17; have HK17 := Lib.hid hk17; have HP17 := Lib.hid hp17; clear hw17 hk17 hp17)
        clear HSY HW16 HK16 HP16
        have htot : (framesS (recsOf S' ++ rl')).length ≤ 99999 := by
          rw [HR16.out, framesS_snoc, List.length_append, on_wrap]
          have := HN2.out
          omega
        have HO2 := Lib.hid (topen HW17.out HK17.out HP17.out htot HT6.out (size := 1000) (by omega) (by omega))
        clear htot
        go_upto_region 28 with (go_at_call 14; (with_reducible refine HO2.out.mono ?_); rintro e18 w18 ⟨p3, v3, st4, g4, rfl, hw18, hov3⟩; have HW18 := Lib.hid hw18; have HOV3 := Lib.hid hov3; clear hw18 hov3)
        have hov3 := HOV3.out
        rw [HR16.out] at hov3
        obtain ⟨a3, c3, ev3, hrw3⟩ := hov3.rws
        obtain ⟨nk, hnk⟩ : ∃ z, (bs2 ++ [[111, 110]] : List (List UInt8)).length = z := ⟨_, rfl⟩
        have hnk2 : nk = nl + 1 := by rw [← hnk, List.length_append, HNL.out]; rfl
        rw [hnk] at ev3 hrw3
        subst ev3
        obtain ⟨b9, off9, x9, m9, c9, rfl, hy9, hat9⟩ := hrw3.place (k := nl) (by omega)
        have hgd : (bs2 ++ [[111, 110]] : List (List UInt8)).getD nl [] = [111, 110] := by
          rw [← HNL.out]; simp [List.getD]
        rw [hgd] at hy9
        obtain rfl : m9 = 2 := hy9.len.symm
        have hcv9 : (convert 34 9 (.slice x9 2 c9)).run Tryz.prog w18 = .ok (.string ⟨#[111, 110]⟩) w18 := conv_bys hy9 Tryz.underlying34 Tryz.underlying5 Tryz.underlying9
        have c19 := hat9 w18 (Below.refl _ _)
        have hnki : (nk : Int) = (nl : Int) + 1 := by omega
        have hnb9 : (nl : Int) < (nk : Int) ∧ (0 : Int) ≤ (nl : Int) ∧ nl < nk := by omega
        have hw1 : IntKind.i64.wrap ((nl : Int) + 1) = (nl : Int) + 1 := by have := HNLB.out; rw [IntKind.wrap_i64]; omega
        clear hy9 hat9 hrw3 hov3 HOV3
        go_wp2_with (go_at_call 10; (with_reducible refine (HLV6.out _ HW18.out.b).mono ?_); rintro e20 w20 ⟨rfl, hb20⟩)
        go_ret
        exact ⟨rfl, HB6.out.trans ((HW18.out.b.trans (hb20.mono HW18.out.b.size)).mono HB6.out.size)⟩
end Go.Proofs.YtioeimkaljmffaaGreatDoor
end

