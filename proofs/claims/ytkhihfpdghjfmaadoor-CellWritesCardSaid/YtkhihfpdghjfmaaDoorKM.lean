/-
  Cell: the walk of CellWrites.
-/
import Derived.Test.YtkhihfpdghjfmaaDoorKI
namespace Go.Proofs.YtkhihfpdghjfmaaDoor
open Go.RowKit Go Go.Sort
set_option linter.unusedVariables false
set_option maxRecDepth 20000

/-- A write that came in. -/
def AskAt (W : World) (q : Nat) (n s a b : Int) (g : Bool) (t : List UInt8) : Prop := W.heap[q]? = some (.cells #[.int .i64 n, .int .i64 s, .int .i64 a, .int .i64 b, .bool g, .string (text t)] 67 (0, 0))
theorem AskAt.lt {W : World} {q : Nat} {n s a b : Int} {g : Bool} {t : List UInt8} (h : AskAt W q n s a b g t) : q < W.heap.size := (Array.getElem?_eq_some_iff.1 h).1
theorem AskAt.kept {W W' : World} {q : Nat} {n s a b : Int} {g : Bool} {t : List UInt8} (h : AskAt W q n s a b g t) (hb : Below W.heap.size W W') : AskAt W' q n s a b g t := (hb.block q h.lt).trans h
theorem AskAt.new (W : World) (n s a b : Int) (g : Bool) (t : List UInt8) : AskAt (W.alloc (.cells #[.int .i64 n, .int .i64 s, .int .i64 a, .int .i64 b, .bool g, .string (text t)] 67)) W.heap.size n s a b g t := heap_alloc_new W _
theorem AskAt.cs {W : World} {q : Nat} {n s a b : Int} {g : Bool} {t : List UInt8} (h : AskAt W q n s a b g t) :
    W.cell? ⟨q, 0, none⟩ = some (.int .i64 n) ∧ W.cell? ⟨q, 1, none⟩ = some (.int .i64 s) ∧ W.cell? ⟨q, 2, none⟩ = some (.int .i64 a) ∧ W.cell? ⟨q, 3, none⟩ = some (.int .i64 b) ∧
    W.cell? ⟨q, 4, none⟩ = some (.bool g) ∧ W.cell? ⟨q, 5, none⟩ = some (.string (text t)) := by
  unfold AskAt at h
  refine ⟨?_, ?_, ?_, ?_, ?_, ?_⟩ <;> simp [World.cell?, h]
theorem cof_good {p n s a b : Int} {g : Bool} {t : List UInt8} {c : Cl} (h : cofS p n s a b g t = (c, 0)) : c.good p = true ∧ c.t.length ≤ t.length := by
  unfold cofS at h
  by_cases ha : argS p n s a b g t = true
  · rw [if_pos ha] at h
    by_cases hl : 64 < t.length
    · rw [if_pos hl] at h; simp at h
    · rw [if_neg hl] at h
      unfold argS at ha
      simp only [Bool.and_eq_true, Bool.or_eq_true, beq_iff_eq, whenS, decide_eq_true_eq] at ha
      obtain ⟨hp, ⟨hs, hn⟩, hv, hg⟩ := ha
      by_cases h2 : ((p == 2) && g) = true
      · rw [if_pos h2] at h
        simp only [Prod.mk.injEq, and_true] at h
        subst h
        simp only [Bool.and_eq_true, beq_iff_eq] at h2
        refine ⟨?_, Nat.zero_le _⟩
        simp [Cl.good, cgoodS, wroteS, h2.1, hv]
      · rw [if_neg h2] at h
        simp only [Prod.mk.injEq, and_true] at h
        subst h
        refine ⟨?_, Nat.le_refl _⟩
        have hlt : t.length ≤ 64 := by omega
        rcases hp with rfl | rfl
        · cases g <;> simp_all [Cl.good, cgoodS, zeroS]
        · cases g <;> simp_all [Cl.good, cgoodS, zeroS, vgood]
  · rw [if_neg ha] at h; simp at h
theorem cof_len (p n s a b : Int) (g : Bool) (t : List UInt8) : (cofS p n s a b g t).1.t.length ≤ t.length := by
  unfold cofS
  split
  · split
    · exact Nat.zero_le _
    · split
      · exact Nat.zero_le _
      · exact Nat.le_refl _
  · exact Nat.zero_le _

set_option maxRecDepth 100000 in
set_option maxHeartbeats 6400000 in
theorem cwrites_walk {w : World} (p n s a b : Int) (g : Bool) (t : List UInt8) (hmax : t.length ≤ 9223372036854775807) (hT : TabW w) :
    Calls Tryd.prog 9 #[.int .i64 p, .agg #[.int .i64 n, .int .i64 s, .int .i64 a, .int .i64 b, .bool g, .string (text t)]] w (Tells (.bool true) w) := by
  have hp := AskAt.new w n s a b g t
  have hb := alloc_below w (.cells #[.int .i64 n, .int .i64 s, .int .i64 a, .int .i64 b, .bool g, .string (text t)] 67)
  have HB := Lib.hid hb
  have HLv := Lib.hid (fun W (h : Below w.heap.size w W) => clives_c (hT.below h))
  have hO := fun W => cof_c p n s a b g t hmax W
  have hRO := fun W => rcof_c p n s a b g t hmax W
  have hgd := @cof_good p n s a b g t
  have hln := cof_len p n s a b g t
  obtain ⟨⟨⟨n', s', a', b', g', t', d', e'⟩, f⟩, hx⟩ : ∃ q, cofS p n s a b g t = q := ⟨_, rfl⟩
  rw [hx] at hO hRO hgd hln
  have hO : ∀ W, Calls Tryd.prog 36 #[.int .i64 p, .agg #[.int .i64 n, .int .i64 s], .agg #[.int .i64 a, .int .i64 b], .bool g, .string (text t)] W (Tells (.tuple #[.agg #[.int .i64 n', .int .i64 s', .int .i64 a', .int .i64 b', .bool g', .string (text t'), .int .i64 d', .int .i64 e'], .int .i64 f]) W) := hO
  have hRO : ∀ W, Calls Tryd.prog 37 #[.int .i64 p, .agg #[.int .i64 n, .int .i64 s], .agg #[.int .i64 a, .int .i64 b], .bool g, .string (text t)] W (Tells (.tuple #[.agg #[.int .i64 n', .int .i64 s', .int .i64 a', .int .i64 b', .bool g', .string (text t'), .int .i64 d', .int .i64 e'], .int .i64 f]) W) := hRO
  have HGD := Lib.hid (fun (h : f = 0) => (show cgoodS p n' s' a' b' g' t' d' e' = true from (hgd (c := ⟨n', s', a', b', g', t', d', e'⟩) (by rw [h])).1))
  have HG := Lib.hid (fun W => cgood_c p n' s' a' b' g' t' d' e' (by simp only at hln; omega) W)
  have hceq := cell_eqb n' s' a' b' g' t' d' e' n' s' a' b' g' t' d' e' true (cellEq_self ..)
  have hceg := cell_eqg .eql
  have HO := Lib.hid hO
  have HRO := Lib.hid hRO
  clear hO hRO hx hT hmax hb hgd hln
  go_enter Tryd.func9, Tryd.ntmps9
  go_upto_region 1 with (fail)
  obtain ⟨ga, hga⟩ : ∃ q, w.heap.size = q := ⟨_, rfl⟩
  rw [hga] at hp ⊢
  clear hga
  generalize w.alloc (.cells #[.int .i64 n, .int .i64 s, .int .i64 a, .int .i64 b, .bool g, .string (text t)] 67) = W1 at *
  obtain ⟨k0, k1, k2, k3, k4, k5⟩ := hp.cs
  go_upto_region 2 with (go_at_call 36; (with_reducible refine (HO.out _).mono ?_); rintro e9 w2 ⟨rfl, hb2⟩)
  clear k0 k1 k2 k3 k4 k5
  have hp2 := (hp.kept hb2).kept (Below.alloc (Below.refl _ w2) (Nat.le_refl _) (.cells #[.int .i64 n', .int .i64 s', .int .i64 a', .int .i64 b', .bool g', .string (text t'), .int .i64 d', .int .i64 e'] 61))
  have HB := Lib.hid ((HB.out.trans (hb2.mono HB.out.size)).alloc (Nat.le_trans HB.out.size hb2.size) (.cells #[.int .i64 n', .int .i64 s', .int .i64 a', .int .i64 b', .bool g', .string (text t'), .int .i64 d', .int .i64 e'] 61))
  have hc := Cel.new w2 n' s' a' b' g' t' d' e'
  clear hp hb2
  obtain ⟨gc, hgc⟩ : ∃ q, w2.heap.size = q := ⟨_, rfl⟩
  rw [hgc] at hc ⊢
  clear hgc
  generalize w2.alloc (.cells #[.int .i64 n', .int .i64 s', .int .i64 a', .int .i64 b', .bool g', .string (text t'), .int .i64 d', .int .i64 e'] 61) = W2 at *
  obtain ⟨k0, k1, k2, k3, k4, k5⟩ := hp2.cs
  go_upto_region 3 with (go_at_call 37; (with_reducible refine (HRO.out _).mono ?_); rintro e9 w3 ⟨rfl, hb3⟩)
  clear k0 k1 k2 k3 k4 k5
  have hc2 := (hc.kept hb3).kept (Below.alloc (Below.refl _ w3) (Nat.le_refl _) (.cells #[.int .i64 n', .int .i64 s', .int .i64 a', .int .i64 b', .bool g', .string (text t'), .int .i64 d', .int .i64 e'] 61))
  have HB := Lib.hid ((HB.out.trans (hb3.mono HB.out.size)).alloc (Nat.le_trans HB.out.size hb3.size) (.cells #[.int .i64 n', .int .i64 s', .int .i64 a', .int .i64 b', .bool g', .string (text t'), .int .i64 d', .int .i64 e'] 61))
  have hr := Cel.new w3 n' s' a' b' g' t' d' e'
  clear hp2 hb3 hc
  obtain ⟨gr, hgr⟩ : ∃ q, w3.heap.size = q := ⟨_, rfl⟩
  rw [hgr] at hr ⊢
  clear hgr
  generalize w3.alloc (.cells #[.int .i64 n', .int .i64 s', .int .i64 a', .int .i64 b', .bool g', .string (text t'), .int .i64 d', .int .i64 e'] 61) = W3 at *
  have hcur := Below.refl W3.heap.size W3
  have HC := Lib.hid (fun W (h : Below W3.heap.size W3 W) => (hc2.kept h).cs)
  obtain ⟨r0, r1, r2, r3, r4, r5, r6, r7⟩ := hr.cs
  obtain ⟨c0, c1, c2, c3, c4, c5, c6, c7⟩ := hc2.cs
  clear hc2 hr
  by_cases hf : f = 0
  · subst hf
    have hG := HG.out
    rw [HGD.out rfl] at hG
    have HG2 := Lib.hid hG
    clear hG
    go_wp2_with (first
      | (go_at_call 31; (with_reducible refine (HG2.out _).mono ?_); rintro e9 w9 ⟨rfl, hb9⟩; (replace hcur := hcur.trans (hb9.mono hcur.size)); clear hb9)
      | (go_at_call 35; (with_reducible refine (HLv.out _ (HB.out.trans (hcur.mono HB.out.size))).mono ?_); rintro e9 w9 ⟨rfl, hb9⟩; (replace hcur := hcur.trans (hb9.mono hcur.size)); clear hb9))
    go_ret
    exact ⟨rfl, HB.out.trans (hcur.mono HB.out.size)⟩
  · have hne : (f != 0) = true := by simpa using hf
    go_wp2_with (first
      | (go_at_call 35; (with_reducible refine (HLv.out _ (HB.out.trans (hcur.mono HB.out.size))).mono ?_); rintro e9 w9 ⟨rfl, hb9⟩; (replace hcur := hcur.trans (hb9.mono hcur.size)); clear hb9))
    go_ret
    exact ⟨rfl, HB.out.trans (hcur.mono HB.out.size)⟩
end Go.Proofs.YtkhihfpdghjfmaaDoor
