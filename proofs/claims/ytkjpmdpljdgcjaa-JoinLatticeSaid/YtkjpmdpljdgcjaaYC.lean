/-
  Join: cells in lists; Two and Join of both.
-/
import Derived.Test.YtkjpmdpljdgcjaaYB
namespace Go.Proofs.Ytkjpmdpljdgcjaa
open Go.RowKit Go Go.Sort
set_option linter.unusedVariables false
set_option maxRecDepth 20000

/-- One block is other than it was, wherever the world had grown before. -/
theorem Wrote.of_put {q : Nat} {w W : World} (n s a b : Int) (g : Bool) (t : List UInt8) (d e : Int) (hb : Below w.heap.size w W) (h : Cel W q n s a b g t d e) (n' s' a' b' : Int) (g' : Bool) (t' : List UInt8) (d' e' : Int) :
    Wrote q #[.int .i64 n', .int .i64 s', .int .i64 a', .int .i64 b', .bool g', .string (text t'), .int .i64 d', .int .i64 e'] 27 w ((((((((W.setCell ⟨q, 0, none⟩ (.int .i64 n')).setCell ⟨q, 1, none⟩ (.int .i64 s')).setCell ⟨q, 2, none⟩ (.int .i64 a')).setCell ⟨q, 3, none⟩ (.int .i64 b')).setCell ⟨q, 4, none⟩ (.bool g')).setCell ⟨q, 5, none⟩ (.string (text t'))).setCell ⟨q, 6, none⟩ (.int .i64 d')).setCell ⟨q, 7, none⟩ (.int .i64 e')) := by
  have hx := put_below (Below.refl 0 W) (Nat.zero_le q) n' s' a' b' g' t' d' e'
  refine ⟨hx.os.trans hb.os, hx.tape.trans hb.tape, hx.output.trans hb.output, Nat.le_trans hb.size hx.size, h.put n' s' a' b' g' t' d' e', fun k hk hkg => ?_⟩
  rw [heap_setCell_other _ _ _ _ (by exact hkg), heap_setCell_other _ _ _ _ (by exact hkg), heap_setCell_other _ _ _ _ (by exact hkg), heap_setCell_other _ _ _ _ (by exact hkg), heap_setCell_other _ _ _ _ (by exact hkg), heap_setCell_other _ _ _ _ (by exact hkg), heap_setCell_other _ _ _ _ (by exact hkg), heap_setCell_other _ _ _ _ (by exact hkg)]
  exact hb.block k hk
theorem Wrote.of_dead {q : Nat} {w W : World} (n s a b : Int) (g : Bool) (t : List UInt8) (d e : Int) (hb : Below w.heap.size w W) (h : Cel W q n s a b g t d e) (x y : Int) :
    Wrote q #[.int .i64 n, .int .i64 s, .int .i64 a, .int .i64 b, .bool g, .string (text t), .int .i64 x, .int .i64 y] 27 w ((W.setCell ⟨q, 6, none⟩ (.int .i64 x)).setCell ⟨q, 7, none⟩ (.int .i64 y)) := by
  have hx := dead_below (Below.refl 0 W) (Nat.zero_le q) x y
  refine ⟨hx.os.trans hb.os, hx.tape.trans hb.tape, hx.output.trans hb.output, Nat.le_trans hb.size hx.size, h.dead x y, fun k hk hkg => ?_⟩
  rw [heap_setCell_other _ _ _ _ (by exact hkg), heap_setCell_other _ _ _ _ (by exact hkg)]
  exact hb.block k hk
theorem Wrote.cel {z q : Nat} {t' : TypeId} {w w' : World} {cs : Array Value} {n s a b : Int} {g : Bool} {t : List UInt8} {d e : Int} (h : Wrote z cs t' w w') (hp : Cel w q n s a b g t d e) (hne : q ≠ z) : Cel w' q n s a b g t d e :=
  (h.rest q hp.lt hne).trans hp
theorem Wrote.kept {g : Nat} {t : TypeId} {w w1 w2 : World} {cs : Array Value} (h : Wrote g cs t w w1) (hg : g < w1.heap.size) (hb : Below w1.heap.size w1 w2) : Wrote g cs t w w2 :=
  ⟨hb.os.trans h.os, hb.tape.trans h.tape, hb.output.trans h.output, Nat.le_trans h.size hb.size, (hb.block g hg).trans h.cell, fun k hk hne => (hb.block k (Nat.lt_of_lt_of_le hk h.size)).trans (h.rest k hk hne)⟩

/-- What a cell's place holds. -/
def CelAt (W : World) (b o : Nat) (c : Cl) : Prop :=
  W.cell? ⟨b, o, none⟩ = some (.int .i64 c.n) ∧ W.cell? ⟨b, o + 1, none⟩ = some (.int .i64 c.s) ∧ W.cell? ⟨b, o + 2, none⟩ = some (.int .i64 c.a) ∧ W.cell? ⟨b, o + 3, none⟩ = some (.int .i64 c.b) ∧
  W.cell? ⟨b, o + 4, none⟩ = some (.bool c.g) ∧ W.cell? ⟨b, o + 5, none⟩ = some (.string (text c.t)) ∧ W.cell? ⟨b, o + 6, none⟩ = some (.int .i64 c.d) ∧ W.cell? ⟨b, o + 7, none⟩ = some (.int .i64 c.e)
theorem CelAt.kept {W W' : World} {b o : Nat} {c : Cl} (h : CelAt W b o c) (hb : Below W.heap.size W W') : CelAt W' b o c := by
  obtain ⟨h0, h1, h2, h3, h4, h5, h6, h7⟩ := h
  exact ⟨(hb.cell (World.block_lt_of_cell? W _ h0)).trans h0, (hb.cell (World.block_lt_of_cell? W _ h1)).trans h1, (hb.cell (World.block_lt_of_cell? W _ h2)).trans h2, (hb.cell (World.block_lt_of_cell? W _ h3)).trans h3, (hb.cell (World.block_lt_of_cell? W _ h4)).trans h4, (hb.cell (World.block_lt_of_cell? W _ h5)).trans h5, (hb.cell (World.block_lt_of_cell? W _ h6)).trans h6, (hb.cell (World.block_lt_of_cell? W _ h7)).trans h7⟩
/-- A list of cells that lies in memory. -/
structure Cls (w : World) (a : Option Addr) (n cap : Nat) (l : List Cl) : Prop where
  len : l.length = n
  le : n ≤ cap
  max : cap ≤ 9223372036854775807
  adr : cap = 0 ∨ ∃ b off, a = some ⟨b, off, none⟩ ∧ ∀ i, i < n → CelAt w b (off + i * 8) (l.getD i Cl.zero)
theorem Cls.below {w w' : World} {a : Option Addr} {n cap : Nat} {l : List Cl} (h : Cls w a n cap l) (hb : Below w.heap.size w w') : Cls w' a n cap l := by
  refine ⟨h.len, h.le, h.max, ?_⟩
  rcases h.adr with h4 | ⟨b, off, rfl, hc⟩
  · exact .inl h4
  · exact .inr ⟨b, off, rfl, fun i hi => (hc i hi).kept hb⟩
/-- What a place holds, in every world in which nothing of the old is turned. -/
theorem Cls.at {w : World} {a : Option Addr} {n cap : Nat} {l : List Cl} (h : Cls w a n cap l) {k : Nat} (hk : k < n) :
    ∃ b off, a = some ⟨b, off, none⟩ ∧ ∀ W, Below w.heap.size w W → CelAt W b (off + k * 8) (l.getD k Cl.zero) := by
  have := h.le
  rcases h.adr with h4 | ⟨b, off, rfl, hc⟩
  · omega
  · exact ⟨b, off, rfl, fun W hb => (hc k hk).kept hb⟩
theorem Cls.nil (w : World) : Cls w none 0 0 [] := ⟨rfl, Nat.le_refl _, by omega, .inl rfl⟩
theorem Cls.take {w : World} {a : Option Addr} {n cap : Nat} {l : List Cl} (h : Cls w a n cap l) {k : Nat} (hk : k ≤ n) : Cls w a k cap (l.take k) := by
  have hl := h.len
  have hle := h.le
  refine ⟨by rw [List.length_take]; omega, by omega, h.max, ?_⟩
  rcases h.adr with h4 | ⟨b, off, rfl, hc⟩
  · exact .inl h4
  · refine .inr ⟨b, off, rfl, fun i hi => ?_⟩
    have := hc i (by omega)
    rw [List.getD_eq_getElem?_getD] at this ⊢
    rwa [List.getElem?_take_of_lt hi]
/-- Two cells, laid as the list of a call. -/
theorem cls2 (W : World) (n s a b : Int) (g : Bool) (t : List UInt8) (d e : Int) (n' s' a' b' : Int) (g' : Bool) (t' : List UInt8) (d' e' : Int) : Cls (W.alloc (.cells #[.int .i64 n, .int .i64 s, .int .i64 a, .int .i64 b, .bool g, .string (text t), .int .i64 d, .int .i64 e, .int .i64 n', .int .i64 s', .int .i64 a', .int .i64 b', .bool g', .string (text t'), .int .i64 d', .int .i64 e'] 27)) (some ⟨W.heap.size, 0, none⟩) 2 2 [⟨n, s, a, b, g, t, d, e⟩, ⟨n', s', a', b', g', t', d', e'⟩] := by
  have hh : (W.alloc (.cells #[.int .i64 n, .int .i64 s, .int .i64 a, .int .i64 b, .bool g, .string (text t), .int .i64 d, .int .i64 e, .int .i64 n', .int .i64 s', .int .i64 a', .int .i64 b', .bool g', .string (text t'), .int .i64 d', .int .i64 e'] 27)).heap[W.heap.size]? = some (.cells #[.int .i64 n, .int .i64 s, .int .i64 a, .int .i64 b, .bool g, .string (text t), .int .i64 d, .int .i64 e, .int .i64 n', .int .i64 s', .int .i64 a', .int .i64 b', .bool g', .string (text t'), .int .i64 d', .int .i64 e'] 27 (0, 0)) := heap_alloc_new W _
  refine ⟨rfl, Nat.le_refl _, by omega, .inr ⟨W.heap.size, 0, rfl, fun i hi => ?_⟩⟩
  have h01 : i = 0 ∨ i = 1 := by omega
  rcases h01 with rfl | rfl
  · refine ⟨?_, ?_, ?_, ?_, ?_, ?_, ?_, ?_⟩ <;> (rw [cell_of_row _ _ _ _ _ (0, 0) hh]; rfl)
  · refine ⟨?_, ?_, ?_, ?_, ?_, ?_, ?_, ?_⟩ <;> (rw [cell_of_row _ _ _ _ _ (0, 0) hh]; rfl)

theorem twoS_true (n s a b : Int) (g : Bool) (t : List UInt8) (d e : Int) (n' s' a' b' : Int) (g' : Bool) (t' : List UInt8) (d' e' : Int) (h : lessS ⟨n, s, a, b, g, t, d, e⟩ ⟨n', s', a', b', g', t', d', e'⟩ = true) {j k : Int} (hj : joinS [(d, e), (d', e')] = (j, k)) : twoS ⟨n, s, a, b, g, t, d, e⟩ ⟨n', s', a', b', g', t', d', e'⟩ = ⟨n', s', a', b', g', t', j, k⟩ := by
  unfold twoS deadJ; rw [if_pos h]; simp only; rw [hj]
theorem twoS_false (n s a b : Int) (g : Bool) (t : List UInt8) (d e : Int) (n' s' a' b' : Int) (g' : Bool) (t' : List UInt8) (d' e' : Int) (h : lessS ⟨n, s, a, b, g, t, d, e⟩ ⟨n', s', a', b', g', t', d', e'⟩ = false) {j k : Int} (hj : joinS [(d, e), (d', e')] = (j, k)) : twoS ⟨n, s, a, b, g, t, d, e⟩ ⟨n', s', a', b', g', t', d', e'⟩ = ⟨n, s, a, b, g, t, j, k⟩ := by
  unfold twoS deadJ; rw [if_neg (by simp [h])]; simp only; rw [hj]

set_option maxHeartbeats 6400000 in
theorem rtwo_c (n s a b : Int) (g : Bool) (t : List UInt8) (d e : Int) (n' s' a' b' : Int) (g' : Bool) (t' : List UInt8) (d' e' : Int) (w : World) : Calls Try.prog 27 #[.agg #[.int .i64 n, .int .i64 s, .int .i64 a, .int .i64 b, .bool g, .string (text t), .int .i64 d, .int .i64 e], .agg #[.int .i64 n', .int .i64 s', .int .i64 a', .int .i64 b', .bool g', .string (text t'), .int .i64 d', .int .i64 e']] w (Tells (.agg (twoS ⟨n, s, a, b, g, t, d, e⟩ ⟨n', s', a', b', g', t', d', e'⟩).arr) w) := by
  have hp := (((Cel.new w n s a b g t d e).alloc (.cells #[.int .i64 n', .int .i64 s', .int .i64 a', .int .i64 b', .bool g', .string (text t'), .int .i64 d', .int .i64 e'] 27)).alloc (.cells #[.int .i64 0, .int .i64 0, .int .i64 0, .int .i64 0, .bool false, .string ⟨#[]⟩, .int .i64 0, .int .i64 0] 27)).alloc (.cells #[.int .i64 n, .int .i64 s, .int .i64 a, .int .i64 b, .bool g, .string (text t), .int .i64 d, .int .i64 e] 27)
  have hq := ((Cel.new (w.alloc (.cells #[.int .i64 n, .int .i64 s, .int .i64 a, .int .i64 b, .bool g, .string (text t), .int .i64 d, .int .i64 e] 27)) n' s' a' b' g' t' d' e').alloc (.cells #[.int .i64 0, .int .i64 0, .int .i64 0, .int .i64 0, .bool false, .string ⟨#[]⟩, .int .i64 0, .int .i64 0] 27)).alloc (.cells #[.int .i64 n, .int .i64 s, .int .i64 a, .int .i64 b, .bool g, .string (text t), .int .i64 d, .int .i64 e] 27)
  have hz := (Cel.new ((w.alloc (.cells #[.int .i64 n, .int .i64 s, .int .i64 a, .int .i64 b, .bool g, .string (text t), .int .i64 d, .int .i64 e] 27)).alloc (.cells #[.int .i64 n', .int .i64 s', .int .i64 a', .int .i64 b', .bool g', .string (text t'), .int .i64 d', .int .i64 e'] 27)) 0 0 0 0 false [] 0 0).alloc (.cells #[.int .i64 n, .int .i64 s, .int .i64 a, .int .i64 b, .bool g, .string (text t), .int .i64 d, .int .i64 e] 27)
  have ho := Cel.new (((w.alloc (.cells #[.int .i64 n, .int .i64 s, .int .i64 a, .int .i64 b, .bool g, .string (text t), .int .i64 d, .int .i64 e] 27)).alloc (.cells #[.int .i64 n', .int .i64 s', .int .i64 a', .int .i64 b', .bool g', .string (text t'), .int .i64 d', .int .i64 e'] 27)).alloc (.cells #[.int .i64 0, .int .i64 0, .int .i64 0, .int .i64 0, .bool false, .string ⟨#[]⟩, .int .i64 0, .int .i64 0] 27)) n s a b g t d e
  have hb := (((alloc_below w (.cells #[.int .i64 n, .int .i64 s, .int .i64 a, .int .i64 b, .bool g, .string (text t), .int .i64 d, .int .i64 e] 27)).alloc (by simp) (.cells #[.int .i64 n', .int .i64 s', .int .i64 a', .int .i64 b', .bool g', .string (text t'), .int .i64 d', .int .i64 e'] 27)).alloc (by simp; omega) (.cells #[.int .i64 0, .int .i64 0, .int .i64 0, .int .i64 0, .bool false, .string ⟨#[]⟩, .int .i64 0, .int .i64 0] 27)).alloc (by simp; omega) (.cells #[.int .i64 n, .int .i64 s, .int .i64 a, .int .i64 b, .bool g, .string (text t), .int .i64 d, .int .i64 e] 27)
  simp only [World.size_alloc] at hq hz ho
  have hnil : text ([] : List UInt8) = ⟨#[]⟩ := rfl
  rw [hnil] at hz
  have HL := fun W => rless_c n s a b g t d e n' s' a' b' g' t' d' e' W
  have HJ := Lib.hid (fun W => rvtwo_c d e d' e' W)
  have hT1 := fun (h : lessS ⟨n, s, a, b, g, t, d, e⟩ ⟨n', s', a', b', g', t', d', e'⟩ = true) {j k : Int} hj => twoS_true n s a b g t d e n' s' a' b' g' t' d' e' (j := j) (k := k) h hj
  have hT0 := fun (h : lessS ⟨n, s, a, b, g, t, d, e⟩ ⟨n', s', a', b', g', t', d', e'⟩ = false) {j k : Int} hj => twoS_false n s a b g t d e n' s' a' b' g' t' d' e' (j := j) (k := k) h hj
  obtain ⟨⟨j, k⟩, hj⟩ : ∃ q, joinS [(d, e), (d', e')] = q := ⟨_, rfl⟩
  rw [hj] at HJ
  replace hT1 := fun h => hT1 h hj
  replace hT0 := fun h => hT0 h hj
  obtain ⟨T, hT⟩ : ∃ q, twoS ⟨n, s, a, b, g, t, d, e⟩ ⟨n', s', a', b', g', t', d', e'⟩ = q := ⟨_, rfl⟩
  rw [hT] at hT1 hT0 ⊢
  obtain ⟨L, hL⟩ : ∃ q, lessS ⟨n, s, a, b, g, t, d, e⟩ ⟨n', s', a', b', g', t', d', e'⟩ = q := ⟨_, rfl⟩
  rw [hL] at hT1 hT0 HL
  replace HL := Lib.hid HL
  clear hj hT hL
  go_enter Try.func27, Try.ntmps27
  go_upto_region 2 with (fail)
  have HB := Lib.hid hb
  obtain ⟨B, hB⟩ : ∃ q, w.heap.size = q := ⟨_, rfl⟩
  rw [hB] at hp hq hz ho hb HB ⊢
  have HBle := Lib.hid hB
  clear hB
  generalize (((w.alloc (.cells #[.int .i64 n, .int .i64 s, .int .i64 a, .int .i64 b, .bool g, .string (text t), .int .i64 d, .int .i64 e] 27)).alloc (.cells #[.int .i64 n', .int .i64 s', .int .i64 a', .int .i64 b', .bool g', .string (text t'), .int .i64 d', .int .i64 e'] 27)).alloc (.cells #[.int .i64 0, .int .i64 0, .int .i64 0, .int .i64 0, .bool false, .string ⟨#[]⟩, .int .i64 0, .int .i64 0] 27)).alloc (.cells #[.int .i64 n, .int .i64 s, .int .i64 a, .int .i64 b, .bool g, .string (text t), .int .i64 d, .int .i64 e] 27) = W1 at *
  have HF := Lib.hid (And.intro hp (And.intro hq (And.intro hz ho)))
  clear hp hq hz ho hb
  cases L with
  | true =>
    have HT := Lib.hid (hT1 rfl)
    clear hT1 hT0
    obtain ⟨c0, c1, c2, c3, c4, c5, c6, c7⟩ := HF.out.1.cs
    obtain ⟨k0, k1, k2, k3, k4, k5, k6, k7⟩ := HF.out.2.1.cs
    have ofz := HF.out.2.2.2.fz
    go_upto_region 3 with (go_at_call 12; (with_reducible refine (HL.out _).mono ?_); rintro e9 w2 ⟨rfl, hb2⟩)
    replace HF := Lib.hid (And.intro (HF.out.1.kept hb2) (And.intro (HF.out.2.1.kept hb2) (And.intro (HF.out.2.2.1.kept hb2) (HF.out.2.2.2.kept hb2))))
    replace HB := Lib.hid (HB.out.trans (hb2.mono (by have := HB.out.size; have := HBle.out; omega)))
    clear hb2 c0 c1 c2 c3 c4 c5 c6 c7 k0 k1 k2 k3 k4 k5 k6 k7
    obtain ⟨c0, c1, c2, c3, c4, c5, c6, c7⟩ := HF.out.1.cs
    obtain ⟨k0, k1, k2, k3, k4, k5, k6, k7⟩ := HF.out.2.1.cs
    have ofz := HF.out.2.2.2.fz
    obtain ⟨o0, o1, o2, o3, o4, o5, o6, o7⟩ := HF.out.2.2.2.cs
    go_upto_region 4 with (fail)
    have hw := Wrote.of_put n s a b g t d e (Below.refl _ w2) HF.out.2.2.2 n' s' a' b' g' t' d' e'
    clear c0 c1 c2 c3 c4 c5 c6 c7 k0 k1 k2 k3 k4 k5 k6 k7 o0 o1 o2 o3 o4 o5 o6 o7 ofz
    have HF0 := HF.out.2.2.2
    obtain ⟨W3, hW3⟩ : ∃ W, ((((((((w2.setCell ⟨B + 1 + 1 + 1, 0, none⟩ (.int .i64 n')).setCell ⟨B + 1 + 1 + 1, 1, none⟩ (.int .i64 s')).setCell ⟨B + 1 + 1 + 1, 2, none⟩ (.int .i64 a')).setCell ⟨B + 1 + 1 + 1, 3, none⟩ (.int .i64 b')).setCell ⟨B + 1 + 1 + 1, 4, none⟩ (.bool g')).setCell ⟨B + 1 + 1 + 1, 5, none⟩ (.string (text t'))).setCell ⟨B + 1 + 1 + 1, 6, none⟩ (.int .i64 d')).setCell ⟨B + 1 + 1 + 1, 7, none⟩ (.int .i64 e')) = W := ⟨_, rfl⟩
    rw [hW3] at hw ⊢
    replace HF := Lib.hid (And.intro (hw.cel HF.out.1 (by omega)) (And.intro (hw.cel HF.out.2.1 (by omega)) (And.intro (hw.cel HF.out.2.2.1 (by omega)) (show Cel W3 (B + 1 + 1 + 1) n' s' a' b' g' t' d' e' from hw.cell))))
    replace HB := Lib.hid (HB.out.trans (hw.below (by omega) (Nat.le_of_lt HF0.lt)))
    clear hw hW3 HF0
    obtain ⟨c0, c1, c2, c3, c4, c5, c6, c7⟩ := HF.out.1.cs
    obtain ⟨k0, k1, k2, k3, k4, k5, k6, k7⟩ := HF.out.2.1.cs
    have ofz := HF.out.2.2.2.fz
    go_upto_region 5 with (go_at_call 39; (with_reducible refine (HJ.out _).mono ?_); rintro e9 w2 ⟨rfl, hb2⟩; obtain ⟨o0, o1, o2, o3, o4, o5, o6, o7⟩ := (HF.out.2.2.2.kept hb2).cs; have ofz := (HF.out.2.2.2.kept hb2).fz)
    replace HF := Lib.hid (And.intro (HF.out.1.kept hb2) (And.intro (HF.out.2.1.kept hb2) (And.intro (HF.out.2.2.1.kept hb2) (HF.out.2.2.2.kept hb2))))
    replace HB := Lib.hid (HB.out.trans (hb2.mono (by have := HB.out.size; have := HBle.out; omega)))
    clear hb2 c0 c1 c2 c3 c4 c5 c6 c7 k0 k1 k2 k3 k4 k5 k6 k7
    have hw := Wrote.of_dead n' s' a' b' g' t' d' e' (Below.refl _ w2) HF.out.2.2.2 j k
    have HF0 := HF.out.2.2.2
    obtain ⟨W3, hW3⟩ : ∃ W, ((w2.setCell ⟨B + 1 + 1 + 1, 6, none⟩ (.int .i64 j)).setCell ⟨B + 1 + 1 + 1, 7, none⟩ (.int .i64 k)) = W := ⟨_, rfl⟩
    rw [hW3] at hw ⊢
    replace HF := Lib.hid (And.intro (hw.cel HF.out.2.2.1 (by omega)) (show Cel W3 (B + 1 + 1 + 1) n' s' a' b' g' t' j k from hw.cell))
    replace HB := Lib.hid (HB.out.trans (hw.below (by omega) (Nat.le_of_lt HF0.lt)))
    clear hw hW3 HF0
    obtain ⟨o0, o1, o2, o3, o4, o5, o6, o7⟩ := HF.out.2.cs
    obtain ⟨z0, z1, z2, z3, z4, z5, z6, z7⟩ := HF.out.1.cs
    have zfz := HF.out.1.fz
    go_wp2
    refine bodyPost_ret (results_cell_row rfl _ _ (B + 1 + 1) 27 _ (0, 0) _ rfl (HF.out.1.put n' s' a' b' g' t' j k) Try.underlying27 rfl (sizeC n' s' a' b' g' t' j k)) rfl ⟨by rw [HT.out]; rfl, put_below (HB.out.mono (Nat.le_of_eq HBle.out)) (by have := HBle.out; omega) n' s' a' b' g' t' j k⟩
  | false =>
    have HT := Lib.hid (hT0 rfl)
    clear hT1 hT0
    obtain ⟨c0, c1, c2, c3, c4, c5, c6, c7⟩ := HF.out.1.cs
    obtain ⟨k0, k1, k2, k3, k4, k5, k6, k7⟩ := HF.out.2.1.cs
    have ofz := HF.out.2.2.2.fz
    go_upto_region 4 with (go_at_call 12; (with_reducible refine (HL.out _).mono ?_); rintro e9 w2 ⟨rfl, hb2⟩)
    replace HF := Lib.hid (And.intro (HF.out.1.kept hb2) (And.intro (HF.out.2.1.kept hb2) (And.intro (HF.out.2.2.1.kept hb2) (HF.out.2.2.2.kept hb2))))
    replace HB := Lib.hid (HB.out.trans (hb2.mono (by have := HB.out.size; have := HBle.out; omega)))
    clear hb2 c0 c1 c2 c3 c4 c5 c6 c7 k0 k1 k2 k3 k4 k5 k6 k7
    obtain ⟨c0, c1, c2, c3, c4, c5, c6, c7⟩ := HF.out.1.cs
    obtain ⟨k0, k1, k2, k3, k4, k5, k6, k7⟩ := HF.out.2.1.cs
    have ofz := HF.out.2.2.2.fz
    go_upto_region 5 with (go_at_call 39; (with_reducible refine (HJ.out _).mono ?_); rintro e9 w2 ⟨rfl, hb2⟩; obtain ⟨o0, o1, o2, o3, o4, o5, o6, o7⟩ := (HF.out.2.2.2.kept hb2).cs; have ofz := (HF.out.2.2.2.kept hb2).fz)
    replace HF := Lib.hid (And.intro (HF.out.1.kept hb2) (And.intro (HF.out.2.1.kept hb2) (And.intro (HF.out.2.2.1.kept hb2) (HF.out.2.2.2.kept hb2))))
    replace HB := Lib.hid (HB.out.trans (hb2.mono (by have := HB.out.size; have := HBle.out; omega)))
    clear hb2 c0 c1 c2 c3 c4 c5 c6 c7 k0 k1 k2 k3 k4 k5 k6 k7
    have hw := Wrote.of_dead n s a b g t d e (Below.refl _ w2) HF.out.2.2.2 j k
    have HF0 := HF.out.2.2.2
    obtain ⟨W3, hW3⟩ : ∃ W, ((w2.setCell ⟨B + 1 + 1 + 1, 6, none⟩ (.int .i64 j)).setCell ⟨B + 1 + 1 + 1, 7, none⟩ (.int .i64 k)) = W := ⟨_, rfl⟩
    rw [hW3] at hw ⊢
    replace HF := Lib.hid (And.intro (hw.cel HF.out.2.2.1 (by omega)) (show Cel W3 (B + 1 + 1 + 1) n s a b g t j k from hw.cell))
    replace HB := Lib.hid (HB.out.trans (hw.below (by omega) (Nat.le_of_lt HF0.lt)))
    clear hw hW3 HF0
    obtain ⟨o0, o1, o2, o3, o4, o5, o6, o7⟩ := HF.out.2.cs
    obtain ⟨z0, z1, z2, z3, z4, z5, z6, z7⟩ := HF.out.1.cs
    have zfz := HF.out.1.fz
    go_wp2
    refine bodyPost_ret (results_cell_row rfl _ _ (B + 1 + 1) 27 _ (0, 0) _ rfl (HF.out.1.put n s a b g t j k) Try.underlying27 rfl (sizeC n s a b g t j k)) rfl ⟨by rw [HT.out]; rfl, put_below (HB.out.mono (Nat.le_of_eq HBle.out)) (by have := HBle.out; omega) n s a b g t j k⟩

def CelC (W : World) (q : Nat) (c : Cl) : Prop := Cel W q c.n c.s c.a c.b c.g c.t c.d c.e
theorem CelC.kept {W W' : World} {q : Nat} {c : Cl} (h : CelC W q c) (hb : Below W.heap.size W W') : CelC W' q c := Cel.kept h hb
theorem CelC.alloc {W : World} {q : Nat} {c : Cl} (h : CelC W q c) (x : Obj) : CelC (W.alloc x) q c := Cel.alloc h x
theorem arr_eq (n s a b : Int) (g : Bool) (t : List UInt8) (d e : Int) : Cl.arr ⟨n, s, a, b, g, t, d, e⟩ = #[.int .i64 n, .int .i64 s, .int .i64 a, .int .i64 b, .bool g, .string (text t), .int .i64 d, .int .i64 e] := rfl

set_option maxHeartbeats 6400000 in
theorem join1_c (n s a b : Int) (g : Bool) (t : List UInt8) (d e : Int) (n' s' a' b' : Int) (g' : Bool) (t' : List UInt8) (d' e' : Int) (q : Nat) {w : World} (h : Cel w q n s a b g t d e) :
    Calls Try.prog 25 #[.agg #[.int .i64 n, .int .i64 s, .int .i64 a, .int .i64 b, .bool g, .string (text t), .int .i64 d, .int .i64 e], .agg #[.int .i64 n', .int .i64 s', .int .i64 a', .int .i64 b', .bool g', .string (text t'), .int .i64 d', .int .i64 e'], .pointer (some ⟨q, 0, none⟩)] w (Sets q (twoS ⟨n, s, a, b, g, t, d, e⟩ ⟨n', s', a', b', g', t', d', e'⟩).arr 27 w) := by
  have hlt := h.lt
  have hp := (Cel.new w n s a b g t d e).alloc (.cells #[.int .i64 n', .int .i64 s', .int .i64 a', .int .i64 b', .bool g', .string (text t'), .int .i64 d', .int .i64 e'] 27)
  have hq := Cel.new (w.alloc (.cells #[.int .i64 n, .int .i64 s, .int .i64 a, .int .i64 b, .bool g, .string (text t), .int .i64 d, .int .i64 e] 27)) n' s' a' b' g' t' d' e'
  simp only [World.size_alloc] at hq
  have hb := (alloc_below w (.cells #[.int .i64 n, .int .i64 s, .int .i64 a, .int .i64 b, .bool g, .string (text t), .int .i64 d, .int .i64 e] 27)).alloc (by simp) (.cells #[.int .i64 n', .int .i64 s', .int .i64 a', .int .i64 b', .bool g', .string (text t'), .int .i64 d', .int .i64 e'] 27)
  have ho := h.kept hb
  have HL := fun W => less_c n s a b g t d e n' s' a' b' g' t' d' e' W
  have HJ := Lib.hid (fun W => vjoin_c (prs2 W d e d' e'))
  have hT1 := fun (h : lessS ⟨n, s, a, b, g, t, d, e⟩ ⟨n', s', a', b', g', t', d', e'⟩ = true) {j k : Int} hj => twoS_true n s a b g t d e n' s' a' b' g' t' d' e' (j := j) (k := k) h hj
  have hT0 := fun (h : lessS ⟨n, s, a, b, g, t, d, e⟩ ⟨n', s', a', b', g', t', d', e'⟩ = false) {j k : Int} hj => twoS_false n s a b g t d e n' s' a' b' g' t' d' e' (j := j) (k := k) h hj
  obtain ⟨⟨j, k⟩, hj⟩ : ∃ q, joinS [(d, e), (d', e')] = q := ⟨_, rfl⟩
  rw [hj] at HJ
  replace hT1 := fun h => hT1 h hj
  replace hT0 := fun h => hT0 h hj
  obtain ⟨T, hT⟩ : ∃ q, twoS ⟨n, s, a, b, g, t, d, e⟩ ⟨n', s', a', b', g', t', d', e'⟩ = q := ⟨_, rfl⟩
  rw [hT] at hT1 hT0 ⊢
  obtain ⟨L, hL⟩ : ∃ q, lessS ⟨n, s, a, b, g, t, d, e⟩ ⟨n', s', a', b', g', t', d', e'⟩ = q := ⟨_, rfl⟩
  rw [hL] at hT1 hT0 HL
  replace HL := Lib.hid HL
  clear hj hT hL h
  go_enter Try.func25, Try.ntmps25
  go_upto_region 1 with (fail)
  have HB := Lib.hid hb
  obtain ⟨B, hB⟩ : ∃ q, w.heap.size = q := ⟨_, rfl⟩
  have HBle := Lib.hid hB
  rw [hB] at hp hq hlt ⊢
  clear hB hb
  generalize (w.alloc (.cells #[.int .i64 n, .int .i64 s, .int .i64 a, .int .i64 b, .bool g, .string (text t), .int .i64 d, .int .i64 e] 27)).alloc (.cells #[.int .i64 n', .int .i64 s', .int .i64 a', .int .i64 b', .bool g', .string (text t'), .int .i64 d', .int .i64 e'] 27) = W1 at *
  have HF := Lib.hid (And.intro hp (And.intro hq ho))
  clear hp hq ho
  cases L with
  | true =>
    have HT := Lib.hid (hT1 rfl)
    clear hT1 hT0
    obtain ⟨c0, c1, c2, c3, c4, c5, c6, c7⟩ := HF.out.1.cs
    obtain ⟨k0, k1, k2, k3, k4, k5, k6, k7⟩ := HF.out.2.1.cs
    have ofz := HF.out.2.2.fz
    go_upto_region 2 with (go_at_call 11; (with_reducible refine (HL.out _).mono ?_); rintro e9 w2 ⟨rfl, hb2⟩)
    replace HF := Lib.hid (And.intro (HF.out.1.kept hb2) (And.intro (HF.out.2.1.kept hb2) (HF.out.2.2.kept hb2)))
    replace HB := Lib.hid (HB.out.trans (hb2.mono HB.out.size))
    clear hb2 c0 c1 c2 c3 c4 c5 c6 c7 k0 k1 k2 k3 k4 k5 k6 k7
    obtain ⟨c0, c1, c2, c3, c4, c5, c6, c7⟩ := HF.out.1.cs
    obtain ⟨k0, k1, k2, k3, k4, k5, k6, k7⟩ := HF.out.2.1.cs
    have ofz := HF.out.2.2.fz
    obtain ⟨o0, o1, o2, o3, o4, o5, o6, o7⟩ := HF.out.2.2.cs
    go_upto_region 3 with (fail)
    have hw := Wrote.of_put n s a b g t d e (Below.refl _ w2) HF.out.2.2 n' s' a' b' g' t' d' e'
    have HWW := Lib.hid (Wrote.of_put n s a b g t d e HB.out HF.out.2.2 n' s' a' b' g' t' d' e')
    clear c0 c1 c2 c3 c4 c5 c6 c7 k0 k1 k2 k3 k4 k5 k6 k7 o0 o1 o2 o3 o4 o5 o6 o7 ofz
    obtain ⟨W3, hW3⟩ : ∃ W, ((((((((w2.setCell ⟨q, 0, none⟩ (.int .i64 n')).setCell ⟨q, 1, none⟩ (.int .i64 s')).setCell ⟨q, 2, none⟩ (.int .i64 a')).setCell ⟨q, 3, none⟩ (.int .i64 b')).setCell ⟨q, 4, none⟩ (.bool g')).setCell ⟨q, 5, none⟩ (.string (text t'))).setCell ⟨q, 6, none⟩ (.int .i64 d')).setCell ⟨q, 7, none⟩ (.int .i64 e')) = W := ⟨_, rfl⟩
    rw [hW3] at hw HWW ⊢
    replace HF := Lib.hid (And.intro (hw.cel HF.out.1 (by omega)) (And.intro (hw.cel HF.out.2.1 (by omega)) (show Cel W3 q n' s' a' b' g' t' d' e' from hw.cell)))
    clear hw hW3 HB
    obtain ⟨c0, c1, c2, c3, c4, c5, c6, c7⟩ := HF.out.1.cs
    obtain ⟨k0, k1, k2, k3, k4, k5, k6, k7⟩ := HF.out.2.1.cs
    have ofz := HF.out.2.2.fz
    have hbs := Below.refl W3.heap.size W3
    go_wp2_with (go_at_call 26; (with_reducible refine (HJ.out _).mono ?_); rintro e9 w4 ⟨rfl, hb4⟩; (replace hbs := (hbs.alloc hbs.size (.cells #[.int .i64 d, .int .i64 e, .int .i64 d', .int .i64 e'] 25)).trans (hb4.mono (by simp))); obtain ⟨o0, o1, o2, o3, o4, o5, o6, o7⟩ := (HF.out.2.2.kept hbs).cs; have ofz := (HF.out.2.2.kept hbs).fz)
    refine bodyPost_ret (results_none rfl _ _ _) rfl ⟨rfl, ?_⟩
    rw [HT.out]
    exact HWW.out.trans (Wrote.of_dead n' s' a' b' g' t' d' e' hbs (HF.out.2.2.kept hbs) j k)
  | false =>
    have HT := Lib.hid (hT0 rfl)
    clear hT1 hT0
    obtain ⟨c0, c1, c2, c3, c4, c5, c6, c7⟩ := HF.out.1.cs
    obtain ⟨k0, k1, k2, k3, k4, k5, k6, k7⟩ := HF.out.2.1.cs
    have ofz := HF.out.2.2.fz
    go_upto_region 3 with (go_at_call 11; (with_reducible refine (HL.out _).mono ?_); rintro e9 w2 ⟨rfl, hb2⟩)
    replace HF := Lib.hid (And.intro (HF.out.1.kept hb2) (And.intro (HF.out.2.1.kept hb2) (HF.out.2.2.kept hb2)))
    replace HB := Lib.hid (HB.out.trans (hb2.mono HB.out.size))
    clear hb2 c0 c1 c2 c3 c4 c5 c6 c7 k0 k1 k2 k3 k4 k5 k6 k7
    obtain ⟨c0, c1, c2, c3, c4, c5, c6, c7⟩ := HF.out.1.cs
    obtain ⟨k0, k1, k2, k3, k4, k5, k6, k7⟩ := HF.out.2.1.cs
    have ofz := HF.out.2.2.fz
    have hbs := Below.refl w2.heap.size w2
    go_wp2_with (go_at_call 26; (with_reducible refine (HJ.out _).mono ?_); rintro e9 w4 ⟨rfl, hb4⟩; (replace hbs := (hbs.alloc hbs.size (.cells #[.int .i64 d, .int .i64 e, .int .i64 d', .int .i64 e'] 25)).trans (hb4.mono (by simp))); obtain ⟨o0, o1, o2, o3, o4, o5, o6, o7⟩ := (HF.out.2.2.kept hbs).cs; have ofz := (HF.out.2.2.kept hbs).fz)
    refine bodyPost_ret (results_none rfl _ _ _) rfl ⟨rfl, ?_⟩
    rw [HT.out]
    exact Wrote.of_dead n s a b g t d e (HB.out.trans (hbs.mono HB.out.size)) (HF.out.2.2.kept hbs) j k
end Go.Proofs.Ytkjpmdpljdgcjaa
