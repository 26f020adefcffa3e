/-
  num.All and the reference's All: bytes as numbers one behind the other; the slice that each makes holds the plain mathematics' numbers.
-/
import Derived.Test.YtmegchcocjnbbaaNG
import Derived.Test.YtmegchcocjnbbaaNR
import Derived.Test.YtmegchcocjnbbaaRd
namespace Go.Proofs.Ytmegchcocjnbbaa
open Go.RowKit
set_option linter.unusedVariables false

theorem sizeS_pos {v : Int} {k : Int} (h : sizeS v = k) (hk : 0 < k) : 0 ≤ v ∧ v ≤ 4611686018427387903 := by
  by_cases hv : v < 0 ∨ 4611686018427387903 < v
  · rw [sizeS_neg hv] at h; omega
  · omega

theorem getS_ok (l : List UInt8) (h : (getS l).2.2 = 0) : ∃ q : Nat, (getS l).2.1 = (q : Int) ∧ 1 ≤ q ∧ q ≤ l.length ∧ 0 ≤ (getS l).1 ∧ (getS l).1 ≤ 4611686018427387903 := by
  cases l with
  | nil => simp [getS] at h
  | cons b r =>
    simp only [getS] at h ⊢
    have hp : 1 ≤ 2 ^ (b.toNat / 64) := Nat.one_le_two_pow
    by_cases hc : r.length + 1 < 2 ^ (b.toNat / 64)
    · rw [if_pos hc] at h; simp at h
    · rw [if_neg hc] at h ⊢
      generalize hv : valS ((b.toNat : Int) % 64) r (2 ^ (b.toNat / 64) - 1) = v at *
      by_cases hs : sizeS v = ((2 ^ (b.toNat / 64) : Nat) : Int)
      · rw [outS_yes hs] at h ⊢
        exact ⟨2 ^ (b.toNat / 64), rfl, hp, by simp; omega, sizeS_pos hs (by omega)⟩
      · rw [outS_no hs] at h; simp at h

/-- The numbers of which l is made, behind acc; or none, and the error. -/
def allS : Nat → List Int → List UInt8 → List Int × Int
  | 0, acc, _ => (acc, 0)
  | f + 1, acc, l => if l = [] then (acc, 0) else if (getS l).2.2 = 0 then allS f (acc ++ [(getS l).1]) (l.drop (getS l).2.1.toNat) else ([], (getS l).2.2)

theorem allS_nil (f : Nat) (acc : List Int) : allS f acc [] = (acc, 0) := by cases f <;> simp [allS]
theorem allS_bad {f : Nat} {acc : List Int} {l : List UInt8} (hf : l.length ≤ f) (hl : 0 < l.length) (h : ¬ (getS l).2.2 = 0) : allS f acc l = ([], (getS l).2.2) := by
  cases f with
  | zero => omega
  | succ f => rw [allS, if_neg (by intro h0; rw [h0] at hl; simp at hl), if_neg h]
theorem allS_good {f : Nat} {acc : List Int} {l : List UInt8} (hf : l.length ≤ f) (hl : 0 < l.length) (h : (getS l).2.2 = 0) {q : Nat} (hq : (getS l).2.1 = (q : Int)) (h1 : 1 ≤ q) :
    ∃ f', (l.drop q).length ≤ f' ∧ allS f acc l = allS f' (acc ++ [(getS l).1]) (l.drop q) := by
  cases f with
  | zero => omega
  | succ f =>
    refine ⟨f, by simp; omega, ?_⟩
    rw [allS, if_neg (by intro h0; rw [h0] at hl; simp at hl), if_pos h, hq, Int.toNat_natCast]

/-- A slice of ints that the call made reads as its numbers. -/
theorem nums_of_owns {w : World} {B : Nat} {v : Value} {zs : List Int} (h : w.ownsRow B 3 1 v zs.length (zs.map (Value.int .i64))) :
    ∃ a cap, v = .slice a zs.length cap ∧ zs.length ≤ cap ∧ cap ≤ 9223372036854775807 ∧ (cap = 0 ∨ ∃ g, a = some ⟨g, 0, none⟩ ∧ B ≤ g ∧ g < w.heap.size ∧ ∀ i, i < zs.length → w.cell? ⟨g, i, none⟩ = some (.int .i64 (zs.getD i 0))) := by
  obtain ⟨h1, h2⟩ := h
  rcases h2 with ⟨rfl, hn⟩ | ⟨g, cap, cur, rfl, hb, hg, hnc, hcm, hcs, htake⟩
  · exact ⟨none, 0, by rw [hn], by omega, by omega, .inl rfl⟩
  · refine ⟨_, cap, rfl, hnc, by unfold maxLen at hcm; omega, .inr ⟨g, rfl, hb, (Array.getElem?_eq_some_iff.1 hg).1, fun i hi => ?_⟩⟩
    rw [cell_of_row w g i cur 3 (0, 0) hg]
    have h3 : (cur.toList.take (zs.length * 1))[i]? = (zs.map (Value.int .i64))[i]? := by rw [htake]
    rw [List.getElem?_take, if_pos (by omega)] at h3
    simp at h3
    rw [h3]
    simp [List.getD, hi]

/-- The numbers of which l is made, or none, and the error. -/
def allR (l : List UInt8) : List Int × Int := allS l.length [] l

/-- What All tells: a slice of its own with the numbers, and the error. -/
def AllPost (l : List UInt8) (w : World) (e : Ending) (w' : World) : Prop :=
  ∃ v, e = .returned (.tuple #[v, .int .i64 (allR l).2]) ∧ w'.ownsRow w.heap.size 3 1 v (allR l).1.length ((allR l).1.map (Value.int .i64)) ∧ Below w.heap.size w w'

theorem AllPost.mk {l : List UInt8} {w w' : World} {v : Value} {x : Int} {zs : List Int} (h : allS l.length [] l = (zs, x)) (ho : w'.ownsRow w.heap.size 3 1 v zs.length (zs.map (Value.int .i64))) (hb : Below w.heap.size w w') :
    AllPost l w (.returned (.tuple #[v, .int .i64 x])) w' := by
  unfold AllPost allR; rw [h]; exact ⟨v, rfl, ho, hb⟩

/-- Where All's loop stands. -/
def AllAt (l : List UInt8) (w : World) (b v : Value) (wr : World) : Prop :=
  ∃ a' m c' l2 acc f, b = .slice a' m c' ∧ Bys w a' m c' l2 ∧ l2.length ≤ f ∧ allS f acc l2 = allS l.length [] l ∧ acc.length + l2.length ≤ l.length ∧
    wr.ownsRow w.heap.size 3 1 v acc.length (acc.map (Value.int .i64)) ∧ Below w.heap.size w wr

theorem AllAt.next {l l2 : List UInt8} {w wr w1 : World} {v v' : Value} {b' : Option Addr} {m c' q f' : Nat} {acc : List Int} {x : Int}
    (hl2 : l2.length = m) (hq1 : 1 ≤ q) (hqm : q ≤ m) (hf : (l2.drop q).length ≤ f') (hall : allS l.length [] l = allS f' (acc ++ [x]) (l2.drop q)) (hlen : acc.length + l2.length ≤ l.length)
    (hdr : Bys w b' (m - q) (c' - q) (l2.drop q))
    (hown : w1.ownsRow w.heap.size 3 1 v' (acc.length + 1) (acc.map (Value.int .i64) ++ [Value.int .i64 x]))
    (hbel : Below w.heap.size w wr) (hgr : (wr.alloc (.cells #[.int .i64 x] 3)).grownBy w1 v.ownBlock) (hv : wr.ownsRow w.heap.size 3 1 v acc.length (acc.map (Value.int .i64))) :
    AllAt l w (.slice b' (m - q) (c' - q)) v' w1 := by
  refine ⟨b', m - q, c' - q, l2.drop q, acc ++ [x], f', rfl, hdr, hf, hall.symm, by simp; omega, ?_, ?_⟩
  · rw [List.length_append, List.map_append]; exact hown
  · exact (hbel.alloc hbel.size _).grown hgr (by have := hbel.size; simp; omega) (fun k hk => (hv.lt k hk).1)

def lenOf : Value → Nat | .slice _ n _ => n | _ => 0

theorem Try.info3 : (Try.prog.info? 3).map (fun i => (i.zero, i.size, i.bytes)) = some (some (.int .i64 0), 1, 8) := by kernel_rfl

set_option maxHeartbeats 1600000 in
theorem all_c {w : World} {a : Option Addr} {n cap : Nat} {l : List UInt8} (hb : Bys w a n cap l) (hn : n ≤ 5000) : Calls Try.prog 13 #[.slice a n cap] w (AllPost l w) := by
  obtain ⟨i0, hi, hz0, hz1, hz2⟩ := info_parts Try.info3
  go_enter Try.func13, Try.ntmps13
  go_wp2
  go_step3
  go_wp2
  go_step3
  go_wp2
  go_loopw [0, 4, 5] (fun b v e wr => AllAt l w b v wr ∧ e = .int .i64 0) (fun b _ _ _ => lenOf b)
  case atStart => exact ⟨⟨a, n, cap, l, [], l.length, rfl, hb, Nat.le_refl _, rfl, by simp, World.ownsRow_nil _ _ _ _, Below.refl _ _⟩, rfl⟩
  case round =>
    obtain ⟨⟨a', m, c', l2, acc, f, rfl, hb2, hf, hall, hlen, hown, hbel⟩, rfl⟩ := hrel
    have hm2 : m ≤ c' ∧ c' ≤ 9223372036854775807 := ⟨hb2.le, hb2.max⟩
    have hm5 : l2.length = m ∧ acc.length + m ≤ 5000 := by have := hb2.len; have := hb.len; omega
    have hbr := hb2.below hbel
    by_cases hm : m = 0
    · subst hm
      have HA := Lib.hid (show allS l.length [] l = (acc, 0) by rw [← hall, List.eq_nil_of_length_eq_zero hm5.1, allS_nil])
      clear hall
      go_wp2
      try rw [Exit.noGoto_ret]
      go_ret2
      exact AllPost.mk HA.out hown hbel
    have hmp : (0 : Int) < (m : Int) := by omega
    by_cases he : (getS l2).2.2 = 0
    · obtain ⟨q, hq, hq1, hq2, hv0, hv1⟩ := getS_ok l2 he
      obtain ⟨f', hf', hall'⟩ := allS_good hf (by omega) he hq hq1
      have hqm : q ≤ m := by omega
      rw [hall] at hall'
      have hbe : ((getS l2).2.2 == 0) = true := by rw [he]; rfl
      have hqi : (getS l2).2.1 = (q : Int) := hq
      have HA := Lib.hid hall'
      have HF := Lib.hid hf'
      clear hall hall' hf hf' he hq
      by_cases hcq : c' = q
      · have hdr := hb2.dropEnd hqm hcq
        obtain rfl : m = q := by omega
        subst hcq
        go_wp2_with (first
          | (at_builtin; refine wpList_append_own _ rfl _ _ 30 rfl w.heap.size 3 i0 (.int .i64 0) 1 8 Try.underlying30 hi hz0 hz1 hz2 rfl (by decide) _ _ _ rfl (hown.alloc _) ⟨wr.heap.size, 0, none⟩ 1 1 [.int .i64 (getS l2).1] rfl rfl ?c1 ?c2 ?c3 ?c4 ?c5 ?_)
          | (go_at_call 10; refine (get_c hbr).mono ?_; rintro e w' ⟨rfl, rfl⟩))
        case c1 =>
          intro j u hj
          match j, hj with
          | 0, hj => simp at hj; subst hj; simp [Addr.add]
        case c2 => intro u hu; simp at hu; subst hu; rfl
        case c3 => unfold maxLen; omega
        case c4 => omega
        case c5 => have := hbel.size; simp; omega
        · intro v' w1 hown' hgrow _
          have R := Lib.hid (AllAt.next (l := l) hm5.1 hq1 hqm HF.out HA.out hlen hdr hown' hbel hgrow hown)
          clear hown' hgrow hown
          go_wp2
          go_roundw
          case rel => exact ⟨by simpa using R.out, rfl⟩
          case measure => simp [lenOf]; omega
      · have hdr := hb2.drop hqm
        go_wp2_with (first
          | (at_builtin; refine wpList_append_own _ rfl _ _ 30 rfl w.heap.size 3 i0 (.int .i64 0) 1 8 Try.underlying30 hi hz0 hz1 hz2 rfl (by decide) _ _ _ rfl (hown.alloc _) ⟨wr.heap.size, 0, none⟩ 1 1 [.int .i64 (getS l2).1] rfl rfl ?c1 ?c2 ?c3 ?c4 ?c5 ?_)
          | (go_at_call 10; refine (get_c hbr).mono ?_; rintro e w' ⟨rfl, rfl⟩))
        case c1 =>
          intro j u hj
          match j, hj with
          | 0, hj => simp at hj; subst hj; simp [Addr.add]
        case c2 => intro u hu; simp at hu; subst hu; rfl
        case c3 => unfold maxLen; omega
        case c4 => omega
        case c5 => have := hbel.size; simp; omega
        · intro v' w1 hown' hgrow _
          have R := Lib.hid (AllAt.next (l := l) hm5.1 hq1 hqm HF.out HA.out hlen hdr hown' hbel hgrow hown)
          clear hown' hgrow hown
          go_wp2
          go_roundw
          case rel => exact ⟨by simpa using R.out, rfl⟩
          case measure => simp [lenOf]; omega
    · have hbe : ((getS l2).2.2 == 0) = false := by simpa using he
      have HA := Lib.hid (show allS l.length [] l = ([], (getS l2).2.2) by rw [← hall, allS_bad hf (by omega) he])
      clear hall he
      go_wp2_with (go_at_call 10; refine (get_c hbr).mono ?_; rintro e w' ⟨rfl, rfl⟩)
      try rw [Exit.noGoto_ret]
      go_ret2
      exact AllPost.mk HA.out (World.ownsRow_nil _ _ _ _) hbel
set_option maxHeartbeats 1600000 in
theorem rall_c {w : World} {a : Option Addr} {n cap : Nat} {l : List UInt8} (hb : Bys w a n cap l) (hn : n ≤ 5000) : Calls Try.prog 14 #[.slice a n cap] w (AllPost l w) := by
  obtain ⟨i0, hi, hz0, hz1, hz2⟩ := info_parts Try.info3
  go_enter Try.func14, Try.ntmps14
  go_wp2
  go_loopw [0, 4] (fun b v wr => AllAt l w b v wr) (fun b _ _ => lenOf b)
  case atStart => exact ⟨a, n, cap, l, [], l.length, rfl, hb, Nat.le_refl _, rfl, by simp, World.ownsRow_nil _ _ _ _, Below.refl _ _⟩
  case round =>
    obtain ⟨a', m, c', l2, acc, f, rfl, hb2, hf, hall, hlen, hown, hbel⟩ := hrel
    have hm2 : m ≤ c' ∧ c' ≤ 9223372036854775807 := ⟨hb2.le, hb2.max⟩
    have hm5 : l2.length = m ∧ acc.length + m ≤ 5000 := by have := hb2.len; have := hb.len; omega
    have hbr := hb2.below hbel
    by_cases hm : m = 0
    · subst hm
      have HA := Lib.hid (show allS l.length [] l = (acc, 0) by rw [← hall, List.eq_nil_of_length_eq_zero hm5.1, allS_nil])
      clear hall
      go_wp2
      go_ret2
      exact AllPost.mk HA.out hown hbel
    have hmp : (0 : Int) < (m : Int) := by omega
    by_cases he : (getS l2).2.2 = 0
    · obtain ⟨q, hq, hq1, hq2, hv0, hv1⟩ := getS_ok l2 he
      obtain ⟨f', hf', hall'⟩ := allS_good hf (by omega) he hq hq1
      have hqm : q ≤ m := by omega
      rw [hall] at hall'
      have hbe : ((getS l2).2.2 != 0) = false := by rw [he]; rfl
      have hqi : (getS l2).2.1 = (q : Int) := hq
      have HA := Lib.hid hall'
      have HF := Lib.hid hf'
      clear hall hall' hf hf' he hq
      by_cases hcq : c' = q
      · have hdr := hb2.dropEnd hqm hcq
        obtain rfl : m = q := by omega
        subst hcq
        go_wp2_with (first
          | (at_builtin; refine wpList_append_own _ rfl _ _ 30 rfl w.heap.size 3 i0 (.int .i64 0) 1 8 Try.underlying30 hi hz0 hz1 hz2 rfl (by decide) _ _ _ rfl (hown.alloc _) ⟨wr.heap.size, 0, none⟩ 1 1 [.int .i64 (getS l2).1] rfl rfl ?c1 ?c2 ?c3 ?c4 ?c5 ?_)
          | (go_at_call 11; refine (rget_c hbr).mono ?_; rintro e w' ⟨rfl, rfl⟩))
        case c1 =>
          intro j u hj
          match j, hj with
          | 0, hj => simp at hj; subst hj; simp [Addr.add]
        case c2 => intro u hu; simp at hu; subst hu; rfl
        case c3 => unfold maxLen; omega
        case c4 => omega
        case c5 => have := hbel.size; simp; omega
        · intro v' w1 hown' hgrow _
          have R := Lib.hid (AllAt.next (l := l) hm5.1 hq1 hqm HF.out HA.out hlen hdr hown' hbel hgrow hown)
          clear hown' hgrow hown
          go_wp2
          go_roundw
          case rel => exact (by simpa using R.out)
          case measure => simp [lenOf]; omega
      · have hdr := hb2.drop hqm
        go_wp2_with (first
          | (at_builtin; refine wpList_append_own _ rfl _ _ 30 rfl w.heap.size 3 i0 (.int .i64 0) 1 8 Try.underlying30 hi hz0 hz1 hz2 rfl (by decide) _ _ _ rfl (hown.alloc _) ⟨wr.heap.size, 0, none⟩ 1 1 [.int .i64 (getS l2).1] rfl rfl ?c1 ?c2 ?c3 ?c4 ?c5 ?_)
          | (go_at_call 11; refine (rget_c hbr).mono ?_; rintro e w' ⟨rfl, rfl⟩))
        case c1 =>
          intro j u hj
          match j, hj with
          | 0, hj => simp at hj; subst hj; simp [Addr.add]
        case c2 => intro u hu; simp at hu; subst hu; rfl
        case c3 => unfold maxLen; omega
        case c4 => omega
        case c5 => have := hbel.size; simp; omega
        · intro v' w1 hown' hgrow _
          have R := Lib.hid (AllAt.next (l := l) hm5.1 hq1 hqm HF.out HA.out hlen hdr hown' hbel hgrow hown)
          clear hown' hgrow hown
          go_wp2
          go_roundw
          case rel => exact (by simpa using R.out)
          case measure => simp [lenOf]; omega
    · have hbe : ((getS l2).2.2 != 0) = true := by simpa using he
      have HA := Lib.hid (show allS l.length [] l = ([], (getS l2).2.2) by rw [← hall, allS_bad hf (by omega) he])
      clear hall he
      go_wp2_with (go_at_call 11; refine (rget_c hbr).mono ?_; rintro e w' ⟨rfl, rfl⟩)
      go_ret2
      exact AllPost.mk HA.out (World.ownsRow_nil _ _ _ _) hbel
end Go.Proofs.Ytmegchcocjnbbaa
