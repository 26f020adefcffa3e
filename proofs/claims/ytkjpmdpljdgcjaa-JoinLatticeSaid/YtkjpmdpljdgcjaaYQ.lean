/-
  Join: three cells of a struct.
-/
import Derived.Test.YtkjpmdpljdgcjaaYN
import Derived.Test.YtkjpmdpljdgcjaaDJ
namespace Go.Proofs.Ytkjpmdpljdgcjaa
open Go.RowKit Go Go.Sort
set_option linter.unusedVariables false
set_option maxRecDepth 20000

theorem cls1 (W : World) (n s a b : Int) (g : Bool) (t : List UInt8) (d e : Int) : Cls (W.alloc (.cells #[.int .i64 n, .int .i64 s, .int .i64 a, .int .i64 b, .bool g, .string (text t), .int .i64 d, .int .i64 e] 27)) (some ⟨W.heap.size, 0, none⟩) 1 1 [⟨n, s, a, b, g, t, d, e⟩] := by
  have hh : (W.alloc (.cells #[.int .i64 n, .int .i64 s, .int .i64 a, .int .i64 b, .bool g, .string (text t), .int .i64 d, .int .i64 e] 27)).heap[W.heap.size]? = some (.cells #[.int .i64 n, .int .i64 s, .int .i64 a, .int .i64 b, .bool g, .string (text t), .int .i64 d, .int .i64 e] 27 (0, 0)) := heap_alloc_new W _
  refine ⟨rfl, Nat.le_refl _, by omega, .inr ⟨W.heap.size, 0, rfl, fun i hi => ?_⟩⟩
  obtain rfl : i = 0 := by omega
  refine ⟨?_, ?_, ?_, ?_, ?_, ?_, ?_, ?_⟩ <;> (rw [cell_of_row _ _ _ _ _ (0, 0) hh]; rfl)
theorem cls3 (W : World) (n s a b : Int) (g : Bool) (t : List UInt8) (d e : Int) (n' s' a' b' : Int) (g' : Bool) (t' : List UInt8) (d' e' : Int) (n'' s'' a'' b'' : Int) (g'' : Bool) (t'' : List UInt8) (d'' e'' : Int) : Cls (W.alloc (.cells #[.int .i64 n, .int .i64 s, .int .i64 a, .int .i64 b, .bool g, .string (text t), .int .i64 d, .int .i64 e, .int .i64 n', .int .i64 s', .int .i64 a', .int .i64 b', .bool g', .string (text t'), .int .i64 d', .int .i64 e', .int .i64 n'', .int .i64 s'', .int .i64 a'', .int .i64 b'', .bool g'', .string (text t''), .int .i64 d'', .int .i64 e''] 27)) (some ⟨W.heap.size, 0, none⟩) 3 3 [⟨n, s, a, b, g, t, d, e⟩, ⟨n', s', a', b', g', t', d', e'⟩, ⟨n'', s'', a'', b'', g'', t'', d'', e''⟩] := by
  have hh : (W.alloc (.cells #[.int .i64 n, .int .i64 s, .int .i64 a, .int .i64 b, .bool g, .string (text t), .int .i64 d, .int .i64 e, .int .i64 n', .int .i64 s', .int .i64 a', .int .i64 b', .bool g', .string (text t'), .int .i64 d', .int .i64 e', .int .i64 n'', .int .i64 s'', .int .i64 a'', .int .i64 b'', .bool g'', .string (text t''), .int .i64 d'', .int .i64 e''] 27)).heap[W.heap.size]? = some (.cells #[.int .i64 n, .int .i64 s, .int .i64 a, .int .i64 b, .bool g, .string (text t), .int .i64 d, .int .i64 e, .int .i64 n', .int .i64 s', .int .i64 a', .int .i64 b', .bool g', .string (text t'), .int .i64 d', .int .i64 e', .int .i64 n'', .int .i64 s'', .int .i64 a'', .int .i64 b'', .bool g'', .string (text t''), .int .i64 d'', .int .i64 e''] 27 (0, 0)) := heap_alloc_new W _
  refine ⟨rfl, Nat.le_refl _, by omega, .inr ⟨W.heap.size, 0, rfl, fun i hi => ?_⟩⟩
  have h01 : i = 0 ∨ i = 1 ∨ i = 2 := by omega
  rcases h01 with rfl | rfl | rfl
  · refine ⟨?_, ?_, ?_, ?_, ?_, ?_, ?_, ?_⟩ <;> (rw [cell_of_row _ _ _ _ _ (0, 0) hh]; rfl)
  · refine ⟨?_, ?_, ?_, ?_, ?_, ?_, ?_, ?_⟩ <;> (rw [cell_of_row _ _ _ _ _ (0, 0) hh]; rfl)
  · refine ⟨?_, ?_, ?_, ?_, ?_, ?_, ?_, ?_⟩ <;> (rw [cell_of_row _ _ _ _ _ (0, 0) hh]; rfl)
/-- Three cells, one behind the other, at a block's head. -/
def Tri (W : World) (q : Nat) (ty : TypeId) (a b c : Cl) : Prop := CelAt W q 0 a ∧ CelAt W q 8 b ∧ CelAt W q 16 c
theorem Tri.new (W : World) (ty : TypeId) (n1 s1 a1 b1 : Int) (g1 : Bool) (t1 : List UInt8) (d1 e1 : Int) (n2 s2 a2 b2 : Int) (g2 : Bool) (t2 : List UInt8) (d2 e2 : Int) (n3 s3 a3 b3 : Int) (g3 : Bool) (t3 : List UInt8) (d3 e3 : Int) : Tri (W.alloc (.cells #[.int .i64 n1, .int .i64 s1, .int .i64 a1, .int .i64 b1, .bool g1, .string (text t1), .int .i64 d1, .int .i64 e1, .int .i64 n2, .int .i64 s2, .int .i64 a2, .int .i64 b2, .bool g2, .string (text t2), .int .i64 d2, .int .i64 e2, .int .i64 n3, .int .i64 s3, .int .i64 a3, .int .i64 b3, .bool g3, .string (text t3), .int .i64 d3, .int .i64 e3] ty)) W.heap.size ty ⟨n1, s1, a1, b1, g1, t1, d1, e1⟩ ⟨n2, s2, a2, b2, g2, t2, d2, e2⟩ ⟨n3, s3, a3, b3, g3, t3, d3, e3⟩ := by
  have hh : (W.alloc (.cells #[.int .i64 n1, .int .i64 s1, .int .i64 a1, .int .i64 b1, .bool g1, .string (text t1), .int .i64 d1, .int .i64 e1, .int .i64 n2, .int .i64 s2, .int .i64 a2, .int .i64 b2, .bool g2, .string (text t2), .int .i64 d2, .int .i64 e2, .int .i64 n3, .int .i64 s3, .int .i64 a3, .int .i64 b3, .bool g3, .string (text t3), .int .i64 d3, .int .i64 e3] ty)).heap[W.heap.size]? = some (.cells #[.int .i64 n1, .int .i64 s1, .int .i64 a1, .int .i64 b1, .bool g1, .string (text t1), .int .i64 d1, .int .i64 e1, .int .i64 n2, .int .i64 s2, .int .i64 a2, .int .i64 b2, .bool g2, .string (text t2), .int .i64 d2, .int .i64 e2, .int .i64 n3, .int .i64 s3, .int .i64 a3, .int .i64 b3, .bool g3, .string (text t3), .int .i64 d3, .int .i64 e3] ty (0, 0)) := heap_alloc_new W _
  refine ⟨⟨?_, ?_, ?_, ?_, ?_, ?_, ?_, ?_⟩, ⟨?_, ?_, ?_, ?_, ?_, ?_, ?_, ?_⟩, ⟨?_, ?_, ?_, ?_, ?_, ?_, ?_, ?_⟩⟩ <;> (rw [cell_of_row _ _ _ _ _ (0, 0) hh]; rfl)
theorem Tri.kept {W W' : World} {q : Nat} {ty : TypeId} {a b c : Cl} (h : Tri W q ty a b c) (hb : Below W.heap.size W W') : Tri W' q ty a b c := ⟨h.1.kept hb, h.2.1.kept hb, h.2.2.kept hb⟩
/-- A fresh cell, laid beyond B0. -/
def Fresh (B0 : Nat) (v : Value) (W : World) : Prop := ∃ g, v = .pointer (some ⟨g, 0, none⟩) ∧ B0 ≤ g ∧ Cel W g 0 0 0 0 false [] 0 0
theorem Fresh.kept {B0 : Nat} {v : Value} {X Y : World} (h : Fresh B0 v X) (hb : Below X.heap.size X Y) : Fresh B0 v Y := by
  obtain ⟨g, h1, h2, h3⟩ := h
  exact ⟨g, h1, h2, h3.kept hb⟩
theorem Fresh.new {B0 : Nat} {w W : World} (hB : B0 ≤ w.heap.size) (h : Below w.heap.size w W) : Fresh B0 (.pointer (some ⟨W.heap.size, 0, none⟩)) (W.alloc (.cells #[.int .i64 0, .int .i64 0, .int .i64 0, .int .i64 0, .bool false, .string ⟨#[]⟩, .int .i64 0, .int .i64 0] 27)) :=
  ⟨_, rfl, Nat.le_trans hB h.size, zeros W⟩
theorem Fresh.ne {B0 : Nat} {u : Value} {W : World} (h : Fresh B0 u W) : u ≠ .pointer (some ⟨W.heap.size, 0, none⟩) := by
  obtain ⟨g, rfl, _, hg⟩ := h
  have := hg.lt
  intro e
  simp at e
  try omega
/-- A cell that was laid beyond B0, at a pointer. -/
def Held (B0 : Nat) (w : World) (v : Value) (c : Cl) : Prop := ∃ g, v = .pointer (some ⟨g, 0, none⟩) ∧ B0 ≤ g ∧ CelC w g c
theorem Held.kept {B0 : Nat} {w w' : World} {v : Value} {c : Cl} (h : Held B0 w v c) (hb : Below w.heap.size w w') : Held B0 w' v c := by
  obtain ⟨g, h1, h2, h3⟩ := h
  exact ⟨g, h1, h2, h3.kept hb⟩
theorem Held.other {B0 q : Nat} {w w' : World} {v : Value} {c : Cl} {cs : Array Value} {t : TypeId} (h : Held B0 w v c) (hw : Wrote q cs t w w') (hne : v ≠ .pointer (some ⟨q, 0, none⟩)) : Held B0 w' v c := by
  obtain ⟨g, rfl, h2, h3⟩ := h
  exact ⟨g, rfl, h2, hw.cel h3 (by rintro rfl; exact hne rfl)⟩
theorem Held.ne {B0 : Nat} {w : World} {v : Value} {c : Cl} (h : Held B0 w v c) : v ≠ .pointer (some ⟨w.heap.size, 0, none⟩) := by
  obtain ⟨g, rfl, _, hg⟩ := h
  have := Cel.lt hg
  intro e
  simp at e
  try omega
/-- Where the laying of three cells stands, whatever has been done of it. -/
def Lay3 (q : Nat) (w0 : World) (a b c : Cl) (L : Nat → Bool) (xs : Nat → Value) (w : World) : Prop :=
  Below w0.heap.size w0 w ∧ (L 0 = true → xs 0 = .pointer (some ⟨q, 0, none⟩)) ∧ (L 1 = true → xs 1 = .agg a.arr) ∧ (L 2 = true → xs 2 = .pointer (some ⟨q, 8, none⟩)) ∧ (L 3 = true → xs 3 = .agg b.arr) ∧
  (L 4 = true → xs 4 = .pointer (some ⟨q, 16, none⟩)) ∧ (L 5 = true → xs 5 = .agg c.arr) ∧ (L 6 = true → Held w0.heap.size w (xs 6) (if L 9 = true then a else Cl.zero)) ∧
  (L 7 = true → Held w0.heap.size w (xs 7) (if L 10 = true then b else Cl.zero)) ∧ (L 8 = true → Held w0.heap.size w (xs 8) (if L 11 = true then c else Cl.zero)) ∧
  (L 6 = true → L 7 = true → xs 6 ≠ xs 7) ∧ (L 6 = true → L 8 = true → xs 6 ≠ xs 8) ∧ (L 7 = true → L 8 = true → xs 7 ≠ xs 8) ∧ (L 9 = true → L 6 = true) ∧ (L 10 = true → L 7 = true) ∧ (L 11 = true → L 8 = true)
theorem Lay3.start {q : Nat} {w0 : World} {a b c : Cl} {L : Nat → Bool} {xs : Nat → Value} (h : ∀ i, i < 12 → L i = false) : Lay3 q w0 a b c L xs { w0 with drawn := w0.drawn + 1 } := by
  have f : ∀ i, i < 12 → L i = true → False := fun i hi ht => by rw [h i hi] at ht; cases ht
  exact ⟨⟨rfl, rfl, rfl, Nat.le_refl _, fun _ _ => rfl⟩, fun h => (f 0 (by omega) h).elim, fun h => (f 1 (by omega) h).elim, fun h => (f 2 (by omega) h).elim, fun h => (f 3 (by omega) h).elim, fun h => (f 4 (by omega) h).elim, fun h => (f 5 (by omega) h).elim,
    fun h => (f 6 (by omega) h).elim, fun h => (f 7 (by omega) h).elim, fun h => (f 8 (by omega) h).elim, fun h => (f 6 (by omega) h).elim, fun h => (f 6 (by omega) h).elim, fun h => (f 7 (by omega) h).elim, fun h => (f 9 (by omega) h).elim, fun h => (f 10 (by omega) h).elim, fun h => (f 11 (by omega) h).elim⟩
theorem Lay3.set0 {q : Nat} {w0 w : World} {a b c : Cl} {L : Nat → Bool} {xs : Nat → Value} (h : Lay3 q w0 a b c L xs w) : Lay3 q w0 a b c (fun j => if j = 0 then true else L j) (fun j => if j = 0 then (.pointer (some ⟨q, 0, none⟩)) else xs j) w := by
  obtain ⟨h0, v0, v1, v2, v3, v4, v5, f6, f7, f8, d67, d68, d78, m9, m10, m11⟩ := h
  exact ⟨h0, fun _ => rfl, v1, v2, v3, v4, v5, f6, f7, f8, d67, d68, d78, m9, m10, m11⟩
theorem Lay3.set1 {q : Nat} {w0 w : World} {a b c : Cl} {L : Nat → Bool} {xs : Nat → Value} (h : Lay3 q w0 a b c L xs w) : Lay3 q w0 a b c (fun j => if j = 1 then true else L j) (fun j => if j = 1 then (.agg a.arr) else xs j) w := by
  obtain ⟨h0, v0, v1, v2, v3, v4, v5, f6, f7, f8, d67, d68, d78, m9, m10, m11⟩ := h
  exact ⟨h0, v0, fun _ => rfl, v2, v3, v4, v5, f6, f7, f8, d67, d68, d78, m9, m10, m11⟩
theorem Lay3.set2 {q : Nat} {w0 w : World} {a b c : Cl} {L : Nat → Bool} {xs : Nat → Value} (h : Lay3 q w0 a b c L xs w) : Lay3 q w0 a b c (fun j => if j = 2 then true else L j) (fun j => if j = 2 then (.pointer (some ⟨q, 8, none⟩)) else xs j) w := by
  obtain ⟨h0, v0, v1, v2, v3, v4, v5, f6, f7, f8, d67, d68, d78, m9, m10, m11⟩ := h
  exact ⟨h0, v0, v1, fun _ => rfl, v3, v4, v5, f6, f7, f8, d67, d68, d78, m9, m10, m11⟩
theorem Lay3.set3 {q : Nat} {w0 w : World} {a b c : Cl} {L : Nat → Bool} {xs : Nat → Value} (h : Lay3 q w0 a b c L xs w) : Lay3 q w0 a b c (fun j => if j = 3 then true else L j) (fun j => if j = 3 then (.agg b.arr) else xs j) w := by
  obtain ⟨h0, v0, v1, v2, v3, v4, v5, f6, f7, f8, d67, d68, d78, m9, m10, m11⟩ := h
  exact ⟨h0, v0, v1, v2, fun _ => rfl, v4, v5, f6, f7, f8, d67, d68, d78, m9, m10, m11⟩
theorem Lay3.set4 {q : Nat} {w0 w : World} {a b c : Cl} {L : Nat → Bool} {xs : Nat → Value} (h : Lay3 q w0 a b c L xs w) : Lay3 q w0 a b c (fun j => if j = 4 then true else L j) (fun j => if j = 4 then (.pointer (some ⟨q, 16, none⟩)) else xs j) w := by
  obtain ⟨h0, v0, v1, v2, v3, v4, v5, f6, f7, f8, d67, d68, d78, m9, m10, m11⟩ := h
  exact ⟨h0, v0, v1, v2, v3, fun _ => rfl, v5, f6, f7, f8, d67, d68, d78, m9, m10, m11⟩
theorem Lay3.set5 {q : Nat} {w0 w : World} {a b c : Cl} {L : Nat → Bool} {xs : Nat → Value} (h : Lay3 q w0 a b c L xs w) : Lay3 q w0 a b c (fun j => if j = 5 then true else L j) (fun j => if j = 5 then (.agg c.arr) else xs j) w := by
  obtain ⟨h0, v0, v1, v2, v3, v4, v5, f6, f7, f8, d67, d68, d78, m9, m10, m11⟩ := h
  exact ⟨h0, v0, v1, v2, v3, v4, fun _ => rfl, f6, f7, f8, d67, d68, d78, m9, m10, m11⟩

theorem Lay3.alloc6 {q : Nat} {w0 w : World} {a b c : Cl} {L : Nat → Bool} {xs : Nat → Value} (h : Lay3 q w0 a b c L xs w) (hn : L 9 = false) : Lay3 q w0 a b c (fun j => if j = 6 then true else L j) (fun j => if j = 6 then (.pointer (some ⟨w.heap.size, 0, none⟩)) else xs j) (w.alloc (.cells #[.int .i64 0, .int .i64 0, .int .i64 0, .int .i64 0, .bool false, .string ⟨#[]⟩, .int .i64 0, .int .i64 0] 27)) := by
  obtain ⟨h0, v0, v1, v2, v3, v4, v5, f6, f7, f8, d67, d68, d78, m9, m10, m11⟩ := h
  have kb := alloc_below w (.cells #[.int .i64 0, .int .i64 0, .int .i64 0, .int .i64 0, .bool false, .string ⟨#[]⟩, .int .i64 0, .int .i64 0] 27)
  exact ⟨h0.trans (kb.mono h0.size), v0, v1, v2, v3, v4, v5, fun _ => (by simp only [if_pos]; show Held _ _ _ (if L 9 = true then _ else _); rw [if_neg (by rw [hn]; decide)]; exact ⟨_, rfl, h0.size, zeros w⟩), fun h => (f7 h).kept kb, fun h => (f8 h).kept kb, fun _ h => ((f7 h).ne).symm, fun _ h => ((f8 h).ne).symm, d78, fun _ => rfl, m10, m11⟩
theorem Lay3.alloc7 {q : Nat} {w0 w : World} {a b c : Cl} {L : Nat → Bool} {xs : Nat → Value} (h : Lay3 q w0 a b c L xs w) (hn : L 10 = false) : Lay3 q w0 a b c (fun j => if j = 7 then true else L j) (fun j => if j = 7 then (.pointer (some ⟨w.heap.size, 0, none⟩)) else xs j) (w.alloc (.cells #[.int .i64 0, .int .i64 0, .int .i64 0, .int .i64 0, .bool false, .string ⟨#[]⟩, .int .i64 0, .int .i64 0] 27)) := by
  obtain ⟨h0, v0, v1, v2, v3, v4, v5, f6, f7, f8, d67, d68, d78, m9, m10, m11⟩ := h
  have kb := alloc_below w (.cells #[.int .i64 0, .int .i64 0, .int .i64 0, .int .i64 0, .bool false, .string ⟨#[]⟩, .int .i64 0, .int .i64 0] 27)
  exact ⟨h0.trans (kb.mono h0.size), v0, v1, v2, v3, v4, v5, fun h => (f6 h).kept kb, fun _ => (by simp only [if_pos]; show Held _ _ _ (if L 10 = true then _ else _); rw [if_neg (by rw [hn]; decide)]; exact ⟨_, rfl, h0.size, zeros w⟩), fun h => (f8 h).kept kb, fun h _ => (f6 h).ne, d68, fun _ h => ((f8 h).ne).symm, m9, fun _ => rfl, m11⟩
theorem Lay3.alloc8 {q : Nat} {w0 w : World} {a b c : Cl} {L : Nat → Bool} {xs : Nat → Value} (h : Lay3 q w0 a b c L xs w) (hn : L 11 = false) : Lay3 q w0 a b c (fun j => if j = 8 then true else L j) (fun j => if j = 8 then (.pointer (some ⟨w.heap.size, 0, none⟩)) else xs j) (w.alloc (.cells #[.int .i64 0, .int .i64 0, .int .i64 0, .int .i64 0, .bool false, .string ⟨#[]⟩, .int .i64 0, .int .i64 0] 27)) := by
  obtain ⟨h0, v0, v1, v2, v3, v4, v5, f6, f7, f8, d67, d68, d78, m9, m10, m11⟩ := h
  have kb := alloc_below w (.cells #[.int .i64 0, .int .i64 0, .int .i64 0, .int .i64 0, .bool false, .string ⟨#[]⟩, .int .i64 0, .int .i64 0] 27)
  exact ⟨h0.trans (kb.mono h0.size), v0, v1, v2, v3, v4, v5, fun h => (f6 h).kept kb, fun h => (f7 h).kept kb, fun _ => (by simp only [if_pos]; show Held _ _ _ (if L 11 = true then _ else _); rw [if_neg (by rw [hn]; decide)]; exact ⟨_, rfl, h0.size, zeros w⟩), d67, fun h _ => (f6 h).ne, fun h _ => (f7 h).ne, m9, m10, fun _ => rfl⟩
theorem Lay3.store9 {q : Nat} {w0 w : World} {a b c : Cl} {L : Nat → Bool} {xs : Nat → Value} (h : Lay3 q w0 a b c L xs w) (hk : L 6 = true) {g : Nat} (hg : xs 6 = .pointer (some ⟨g, 0, none⟩)) (hB : w0.heap.size ≤ g) {w2 : World} (hw : Wrote g a.arr 27 w w2) (hl : g ≤ w.heap.size) (v : Value) : Lay3 q w0 a b c (fun j => if j = 9 then true else L j) (fun j => if j = 9 then v else xs j) w2 := by
  obtain ⟨h0, v0, v1, v2, v3, v4, v5, f6, f7, f8, d67, d68, d78, m9, m10, m11⟩ := h
  exact ⟨h0.trans (hw.below hB hl), v0, v1, v2, v3, v4, v5, fun _ => ⟨g, hg, hB, hw.cell⟩, fun h => (f7 h).other hw (hg ▸ (d67 hk h).symm), fun h => (f8 h).other hw (hg ▸ (d68 hk h).symm), d67, d68, d78, fun _ => hk, m10, m11⟩
theorem Lay3.store10 {q : Nat} {w0 w : World} {a b c : Cl} {L : Nat → Bool} {xs : Nat → Value} (h : Lay3 q w0 a b c L xs w) (hk : L 7 = true) {g : Nat} (hg : xs 7 = .pointer (some ⟨g, 0, none⟩)) (hB : w0.heap.size ≤ g) {w2 : World} (hw : Wrote g b.arr 27 w w2) (hl : g ≤ w.heap.size) (v : Value) : Lay3 q w0 a b c (fun j => if j = 10 then true else L j) (fun j => if j = 10 then v else xs j) w2 := by
  obtain ⟨h0, v0, v1, v2, v3, v4, v5, f6, f7, f8, d67, d68, d78, m9, m10, m11⟩ := h
  exact ⟨h0.trans (hw.below hB hl), v0, v1, v2, v3, v4, v5, fun h => (f6 h).other hw (hg ▸ (d67 h hk)), fun _ => ⟨g, hg, hB, hw.cell⟩, fun h => (f8 h).other hw (hg ▸ (d78 hk h).symm), d67, d68, d78, m9, fun _ => hk, m11⟩
theorem Lay3.store11 {q : Nat} {w0 w : World} {a b c : Cl} {L : Nat → Bool} {xs : Nat → Value} (h : Lay3 q w0 a b c L xs w) (hk : L 8 = true) {g : Nat} (hg : xs 8 = .pointer (some ⟨g, 0, none⟩)) (hB : w0.heap.size ≤ g) {w2 : World} (hw : Wrote g c.arr 27 w w2) (hl : g ≤ w.heap.size) (v : Value) : Lay3 q w0 a b c (fun j => if j = 11 then true else L j) (fun j => if j = 11 then v else xs j) w2 := by
  obtain ⟨h0, v0, v1, v2, v3, v4, v5, f6, f7, f8, d67, d68, d78, m9, m10, m11⟩ := h
  exact ⟨h0.trans (hw.below hB hl), v0, v1, v2, v3, v4, v5, fun h => (f6 h).other hw (hg ▸ (d68 h hk)), fun h => (f7 h).other hw (hg ▸ (d78 h hk)), fun _ => ⟨g, hg, hB, hw.cell⟩, d67, d68, d78, m9, m10, fun _ => hk⟩
end Go.Proofs.Ytkjpmdpljdgcjaa
