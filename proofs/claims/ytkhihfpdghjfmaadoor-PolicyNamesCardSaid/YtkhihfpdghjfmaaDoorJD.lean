/-
  Policy, the program: get.
-/
import Derived.Test.YtkhihfpdghjfmaaDoorJC
import Derived.Test.YtkhihfpdghjfmaaDoorCS
namespace Go.Proofs.YtkhihfpdghjfmaaDoor
open Go.RowKit Go Go.Sort
set_option linter.unusedVariables false
set_option maxRecDepth 20000

/-- A group off the head of bytes. -/
def pgetS (b : List UInt8) : Grp × Int × Int := if ¬ (textS b 12).2.2 = 0 then (([], 0), 0, (textS b 12).2.2) else
  if ¬ (getS (b.drop (textS b 12).2.1.toNat)).2.2 = 0 then (([], 0), 0, (getS (b.drop (textS b 12).2.1.toNat)).2.2)
  else (((textS b 12).1, (getS (b.drop (textS b 12).2.1.toNat)).1), (textS b 12).2.1 + (getS (b.drop (textS b 12).2.1.toNat)).2.1, 0)
theorem pget_err1 {b t : List UInt8} {k f : Int} (h1 : textS b 12 = (t, k, f)) (h : ¬ f = 0) : pgetS b = (([], 0), 0, f) := by unfold pgetS; rw [h1]; simp [h]
theorem pget_err2 {b t : List UInt8} {q : Nat} {p k f : Int} (h1 : textS b 12 = (t, (q : Int), 0)) (h2 : getS (b.drop q) = (p, k, f)) (h : ¬ f = 0) : pgetS b = (([], 0), 0, f) := by
  unfold pgetS; rw [h1]; simp only [Int.toNat_natCast, not_true_eq_false, if_false]; rw [h2]; simp [h]
theorem pget_ok {b t : List UInt8} {q : Nat} {p k : Int} (h1 : textS b 12 = (t, (q : Int), 0)) (h2 : getS (b.drop q) = (p, k, 0)) : pgetS b = ((t, p), (q : Int) + k, 0) := by
  unfold pgetS; rw [h1]; simp only [Int.toNat_natCast, not_true_eq_false, if_false]; rw [h2]; simp
theorem sizeG (s : ByteArray) (p : Int) : (Tryd.prog.info? 54).map (·.size) = some (#[Value.string s, Value.int .i64 p] : Array Value).size := by kernel_rfl

/-- A group, how many bytes, an error. -/
def GetPost (t : Grp × Int × Int) (w : World) (e : Ending) (w' : World) : Prop := e = .returned (.tuple #[.agg #[.string (text t.1.1), .int .i64 t.1.2], .int .i64 t.2.1, .int .i64 t.2.2]) ∧ Below w.heap.size w w'

set_option maxHeartbeats 3200000 in
theorem pget_c {w : World} {a : Option Addr} {n cap : Nat} {l : List UInt8} (hl : Bys w a n cap l) : Calls Tryd.prog 49 #[.slice a n cap] w (GetPost (pgetS l) w) := by
  have hlen := hl.len
  have hmx : n ≤ 9223372036854775807 := Nat.le_trans hl.le hl.max
  have hal := alloc_below w (.cells #[.string (text []), .int .i64 0] 54)
  have hl1 := hl.below hal
  have HB := Lib.hid hal
  have HGT := Lib.hid (gettext_c hl1 12 (by omega) (by omega))
  have hokt := textS_ok l 12
  have e1 := @pget_err1 l
  have e2 := @pget_err2 l
  have e3 := @pget_ok l
  have hnil : text ([] : List UInt8) = ⟨#[]⟩ := rfl
  obtain ⟨⟨t, kt, ft⟩, ht⟩ : ∃ z, textS l 12 = z := ⟨_, rfl⟩
  rw [ht] at HGT hokt e1 e2 e3
  simp only at HGT hokt
  rw [hnil] at HGT hl1 HB
  clear ht hal hnil
  by_cases hft : ft = 0
  · subst hft
    obtain ⟨q, rfl, hq, htl⟩ := hokt rfl
    rw [hlen] at hq
    obtain ⟨a1, hs1, hs2, hy1⟩ := bys_from hl1 (q := q) hq
    have hok2 := getS_ok (l.drop q)
    have HG := Lib.hid (get_c hy1)
    have hd : (l.drop q).length = n - q := by rw [List.length_drop, hlen]
    rw [hd] at hok2
    obtain ⟨⟨p, k2, f2⟩, hg⟩ : ∃ z, getS (l.drop q) = z := ⟨_, rfl⟩
    rw [hg] at HG hok2
    simp only at HG hok2
    by_cases hf : f2 = 0
    · subst hf
      obtain ⟨q2, rfl, -, hq2, -, -⟩ := hok2 rfl
      have HR := Lib.hid (e3 rfl hg)
      have hqi : (q : Int) + (q2 : Int) ≤ 9223372036854775807 := by omega
      clear e1 e2 e3 hok2 hokt hd hg hq2 htl hl hl1 hy1
      go_enter Tryd.func49, Tryd.ntmps49
      go_wp2_with (first
        | (go_at_call 82; (with_reducible refine (HGT.out).mono ?_); rintro e w1 ⟨rfl, rfl⟩)
        | (go_at_call 48; (with_reducible refine (HG.out).mono ?_); rintro e w2 ⟨rfl, rfl⟩))
      refine bodyPost_ret (res_cell_tmp2 rfl _ _ w.heap.size 54 _ (0, 0) _ _ _ rfl rfl rfl (heap_alloc_new w _) Tryd.underlying54 rfl (sizeG _ _)) rfl ⟨?_, (alloc_below w _)⟩
      rw [HR.out]
      rfl
    · have hne : (f2 != 0) = true := by simpa using hf
      have HR := Lib.hid (e2 rfl hg hf)
      clear e1 e2 e3 hok2 hokt hd hg htl hl hl1 hy1 hf
      go_enter Tryd.func49, Tryd.ntmps49
      go_wp2_with (first
        | (go_at_call 82; (with_reducible refine (HGT.out).mono ?_); rintro e w1 ⟨rfl, rfl⟩)
        | (go_at_call 48; (with_reducible refine (HG.out).mono ?_); rintro e w2 ⟨rfl, rfl⟩))
      refine bodyPost_ret (res_cell_tmp2 rfl _ _ w.heap.size 54 _ (0, 0) _ _ _ rfl rfl rfl (heap_alloc_new w _) Tryd.underlying54 rfl (sizeG _ _)) rfl ⟨?_, (alloc_below w _)⟩
      rw [HR.out]
      rfl
  · have hne : (ft != 0) = true := by simpa using hft
    have HR := Lib.hid (e1 rfl hft)
    clear e1 e2 e3 hokt hl hl1 hft
    go_enter Tryd.func49, Tryd.ntmps49
    go_wp2_with (go_at_call 82; (with_reducible refine (HGT.out).mono ?_); rintro e w1 ⟨rfl, rfl⟩)
    refine bodyPost_ret (res_cell_tmp2 rfl _ _ w.heap.size 54 _ (0, 0) _ _ _ rfl rfl rfl (heap_alloc_new w _) Tryd.underlying54 rfl (sizeG _ _)) rfl ⟨?_, (alloc_below w _)⟩
    rw [HR.out]
    rfl
end Go.Proofs.YtkhihfpdghjfmaaDoor
