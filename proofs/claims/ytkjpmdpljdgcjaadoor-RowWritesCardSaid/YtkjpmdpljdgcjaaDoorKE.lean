/-
  Cell, the program: what read keeps in memory, and its closures.
-/
import Derived.Test.YtkjpmdpljdgcjaaDoorK8
namespace Go.Proofs.YtkjpmdpljdgcjaaDoor
open Go.RowKit Go Go.Sort
set_option linter.unusedVariables false
set_option maxRecDepth 20000

/-- One block alone is other than it was, and there may be more. -/
structure Only (q : Nat) (w w' : World) : Prop where
  os : w'.os = w.os
  tape : w'.tape = w.tape
  output : w'.output = w.output
  size : w.heap.size ≤ w'.heap.size
  rest : ∀ k, k < w.heap.size → k ≠ q → w'.heap[k]? = w.heap[k]?
theorem Only.set (W : World) (p : Addr) (v : Value) : Only p.block W (W.setCell p v) := by
  have h := (Below.refl p.block W).setCell (p := p) (Nat.le_refl _) v
  exact ⟨h.os, h.tape, h.output, h.size, fun k _ hk => heap_setCell_other W p k v hk⟩
theorem Only.trans {q : Nat} {a b c : World} (h : Only q a b) (k : Only q b c) : Only q a c :=
  ⟨k.os.trans h.os, k.tape.trans h.tape, k.output.trans h.output, Nat.le_trans h.size k.size, fun i hi hne => (k.rest i (Nat.lt_of_lt_of_le hi h.size) hne).trans (h.rest i hi hne)⟩
theorem Only.below {q B : Nat} {w w' : World} (h : Only q w w') (hB : B ≤ q) (hs : B ≤ w.heap.size) : Below B w w' := ⟨h.os, h.tape, h.output, h.size, fun k hk => h.rest k (by omega) (by omega)⟩
theorem Only.of_below {q : Nat} {w w' : World} (h : Below w.heap.size w w') : Only q w w' := ⟨h.os, h.tape, h.output, h.size, fun k hk _ => h.block k hk⟩

/-- What read keeps: the bytes, the result, the cell, the first number, the place, the fault. -/
structure Rd8 (w0 W : World) (q : Nat) (ad : Option Addr) (m cap : Nat) (x at' f : Int) (c : Cl) : Prop where
  base : w0.heap.size = q
  below : Below q w0 W
  hb : W.heap[q]? = some (.cells #[.slice ad m cap] 59 (0, 0))
  hr : Cel W (q + 1) 0 0 0 0 false [] 0 0
  hc : Cel W (q + 2) c.n c.s c.a c.b c.g c.t c.d c.e
  hx : W.heap[q + 3]? = some (.cells #[.int .i64 x] 3 (0, 0))
  ha : W.heap[q + 4]? = some (.cells #[.int .i64 at'] 3 (0, 0))
  hf : W.heap[q + 5]? = some (.cells #[.int .i64 f] 28 (0, 0))
theorem Rd8.lt {w0 W : World} {q : Nat} {ad : Option Addr} {m cap : Nat} {x at' f : Int} {c : Cl} (h : Rd8 w0 W q ad m cap x at' f c) : q + 5 < W.heap.size := (Array.getElem?_eq_some_iff.1 h.hf).1
theorem Rd8.grow {w0 W W' : World} {q : Nat} {ad : Option Addr} {m cap : Nat} {x at' f : Int} {c : Cl} (h : Rd8 w0 W q ad m cap x at' f c) (hb : Below W.heap.size W W') : Rd8 w0 W' q ad m cap x at' f c := by
  have hl := h.lt
  exact ⟨h.base, h.below.trans (hb.mono (by omega)), (hb.block _ (by omega)).trans h.hb, h.hr.kept hb, h.hc.kept hb, (hb.block _ (by omega)).trans h.hx, (hb.block _ (by omega)).trans h.ha, (hb.block _ (by omega)).trans h.hf⟩
theorem Rd8.put_c {w0 W W' : World} {q : Nat} {ad : Option Addr} {m cap : Nat} {x at' f : Int} {c : Cl} (h : Rd8 w0 W q ad m cap x at' f c) (k : Only (q + 2) W W') {c' : Cl} (hc : Cel W' (q + 2) c'.n c'.s c'.a c'.b c'.g c'.t c'.d c'.e) : Rd8 w0 W' q ad m cap x at' f c' := by
  have hl := h.lt
  exact ⟨h.base, h.below.trans (k.below (by omega) (by omega)), (k.rest _ (by omega) (by omega)).trans h.hb, (k.rest _ (by omega) (by omega)).trans h.hr, hc, (k.rest _ (by omega) (by omega)).trans h.hx, (k.rest _ (by omega) (by omega)).trans h.ha, (k.rest _ (by omega) (by omega)).trans h.hf⟩
theorem Rd8.put_x {w0 W : World} {q : Nat} {ad : Option Addr} {m cap : Nat} {x at' f : Int} {c : Cl} (h : Rd8 w0 W q ad m cap x at' f c) (x' : Int) : Rd8 w0 (W.setCell ⟨q + 3, 0, none⟩ (.int .i64 x')) q ad m cap x' at' f c := by
  have hl := h.lt
  have k := Only.set W ⟨q + 3, 0, none⟩ (.int .i64 x')
  exact ⟨h.base, h.below.trans (k.below (by show q ≤ q + 3; omega) (by omega)), (k.rest _ (by omega) (by show q ≠ q + 3; omega)).trans h.hb, (k.rest _ (by omega) (by show q + 1 ≠ q + 3; omega)).trans h.hr, (k.rest _ (by omega) (by show q + 2 ≠ q + 3; omega)).trans h.hc, (heap_setCell_same W (q + 3) 0 _ _ _ h.hx).trans rfl, (k.rest _ (by omega) (by show q + 4 ≠ q + 3; omega)).trans h.ha, (k.rest _ (by omega) (by show q + 5 ≠ q + 3; omega)).trans h.hf⟩
theorem Rd8.put_a {w0 W : World} {q : Nat} {ad : Option Addr} {m cap : Nat} {x at' f : Int} {c : Cl} (h : Rd8 w0 W q ad m cap x at' f c) (x' : Int) : Rd8 w0 (W.setCell ⟨q + 4, 0, none⟩ (.int .i64 x')) q ad m cap x x' f c := by
  have hl := h.lt
  have k := Only.set W ⟨q + 4, 0, none⟩ (.int .i64 x')
  exact ⟨h.base, h.below.trans (k.below (by show q ≤ q + 4; omega) (by omega)), (k.rest _ (by omega) (by show q ≠ q + 4; omega)).trans h.hb, (k.rest _ (by omega) (by show q + 1 ≠ q + 4; omega)).trans h.hr, (k.rest _ (by omega) (by show q + 2 ≠ q + 4; omega)).trans h.hc, (k.rest _ (by omega) (by show q + 3 ≠ q + 4; omega)).trans h.hx, (heap_setCell_same W (q + 4) 0 _ _ _ h.ha).trans rfl, (k.rest _ (by omega) (by show q + 5 ≠ q + 4; omega)).trans h.hf⟩
theorem Rd8.put_f {w0 W : World} {q : Nat} {ad : Option Addr} {m cap : Nat} {x at' f : Int} {c : Cl} (h : Rd8 w0 W q ad m cap x at' f c) (x' : Int) : Rd8 w0 (W.setCell ⟨q + 5, 0, none⟩ (.int .i64 x')) q ad m cap x at' x' c := by
  have hl := h.lt
  have k := Only.set W ⟨q + 5, 0, none⟩ (.int .i64 x')
  exact ⟨h.base, h.below.trans (k.below (by show q ≤ q + 5; omega) (by omega)), (k.rest _ (by omega) (by show q ≠ q + 5; omega)).trans h.hb, (k.rest _ (by omega) (by show q + 1 ≠ q + 5; omega)).trans h.hr, (k.rest _ (by omega) (by show q + 2 ≠ q + 5; omega)).trans h.hc, (k.rest _ (by omega) (by show q + 3 ≠ q + 5; omega)).trans h.hx, (k.rest _ (by omega) (by show q + 4 ≠ q + 5; omega)).trans h.ha, (heap_setCell_same W (q + 5) 0 _ _ _ h.hf).trans rfl⟩
theorem one_cell {W : World} {q : Nat} {v : Value} {t : TypeId} (h : W.heap[q]? = some (.cells #[v] t (0, 0))) : W.cell? ⟨q, 0, none⟩ = some v := by rw [cell_of_row W q 0 _ t (0, 0) h]; rfl

set_option maxHeartbeats 1600000 in
theorem getvalue_c {w : World} {a : Option Addr} {n cap : Nat} {l : List UInt8} (hb : Bys w a n cap l) : Calls Tryd.prog 104 #[.slice a n cap] w (RetT (textS l 64) w) := by
  have HG := Lib.hid (gettext_c hb 64 (by omega) (by omega))
  obtain ⟨⟨t, k, f⟩, ht⟩ : ∃ z, textS l 64 = z := ⟨_, rfl⟩
  rw [ht] at HG ⊢
  clear ht hb
  go_enter Tryd.func104, Tryd.ntmps104
  go_wp2_with (go_at_call 51; (with_reducible refine HG.out.mono ?_); rintro e9 w9 ⟨rfl, rfl⟩)
  go_ret3
  exact ⟨rfl, rfl⟩

set_option maxHeartbeats 3200000 in
theorem intoI_c {w0 W : World} {q gf gk : Nat} {ad : Option Addr} {m cap : Nat} {x at' f : Int} {n s a b : Int} {g : Bool} {t : List UInt8} {d e : Int} {av : Option Addr} {nv cv : Nat} {l : List UInt8} (hy : Bys W av nv cv l)
    (hgf : W.heap[gf]? = some (.cells #[.func (.func 79) #[] #[]] 124 (0, 0))) (hgk : W.heap[gk]? = some (.cells #[.pointer (some ⟨q + 3, 0, none⟩)] 143 (0, 0)))
    (h : Rd8 w0 W q ad m cap x at' f ⟨n, s, a, b, g, t, d, e⟩) (x' k f' : Int) (hg : getS l = (x', k, f')) :
    Calls Tryd.prog 112 #[.slice av nv cv, .pointer (some ⟨gf, 0, none⟩), .pointer (some ⟨gk, 0, none⟩)] W (fun e9 W' => e9 = .returned (.tuple #[.int .i64 k, .int .i64 f']) ∧ Rd8 w0 W' q ad m cap x' at' f ⟨n, s, a, b, g, t, d, e⟩) := by
  have hf0 := one_cell hgf
  have hk0 := one_cell hgk
  have HG := get_c hy
  rw [hg] at HG
  have HGG := Lib.hid HG
  have HH := Lib.hid h
  have HK := Lib.hid hgk
  clear hy hgf hgk hg HG h
  go_enter Tryd.func112, Tryd.ntmps112
  go_upto_region 2 with (go_at_call 79; (with_reducible refine HGG.out.mono ?_); rintro e9 w9 ⟨rfl, rfl⟩)
  have x0 := one_cell HH.out.hx
  have z0 := frozen_of_row W (q + 3) 0 _ _ HH.out.hx
  go_wp2
  go_ret2
  exact ⟨rfl, HH.out.put_x x'⟩

set_option maxHeartbeats 3200000 in
theorem intoS_c {w0 W : World} {q gf gk : Nat} {ad : Option Addr} {m cap : Nat} {x at' f : Int} {n s a b : Int} {g : Bool} {t : List UInt8} {d e : Int} {av : Option Addr} {nv cv : Nat} {l : List UInt8} (hy : Bys W av nv cv l)
    (hgf : W.heap[gf]? = some (.cells #[.func (.func 100) #[] #[]] 146 (0, 0))) (hgk : W.heap[gk]? = some (.cells #[.pointer (some ⟨q + 2, 0, none⟩)] 145 (0, 0)))
    (h : Rd8 w0 W q ad m cap x at' f ⟨n, s, a, b, g, t, d, e⟩) (n' s' k f' : Int) (hg : sgetS l = ((n', s'), k, f')) :
    Calls Tryd.prog 113 #[.slice av nv cv, .pointer (some ⟨gf, 0, none⟩), .pointer (some ⟨gk, 0, none⟩)] W (fun e9 W' => e9 = .returned (.tuple #[.int .i64 k, .int .i64 f']) ∧ Rd8 w0 W' q ad m cap x at' f ⟨n', s', a, b, g, t, d, e⟩) := by
  have hf0 := one_cell hgf
  have hk0 := one_cell hgk
  have HG := sget_c hy
  rw [hg] at HG
  have HGG := Lib.hid HG
  have HH := Lib.hid h
  have HK := Lib.hid hgk
  clear hy hgf hgk hg HG h
  go_enter Tryd.func113, Tryd.ntmps113
  go_upto_region 2 with (go_at_call 100; (with_reducible refine HGG.out.mono ?_); rintro e9 w1 ⟨rfl, hb1⟩)
  have HT := Lib.hid (Pair.new w1 48 n' s')
  have hal := alloc_below w1 (.cells #[.int .i64 n', .int .i64 s'] 48)
  have H2 := Lib.hid ((HH.out.grow hb1).grow hal)
  have hk1 : (w1.alloc (.cells #[.int .i64 n', .int .i64 s'] 48)).heap[gk]? = some (.cells #[.pointer (some ⟨q + 2, 0, none⟩)] 145 (0, 0)) := (hal.block _ (Nat.lt_of_lt_of_le (Array.getElem?_eq_some_iff.1 HK.out).1 hb1.size)).trans ((hb1.block _ (Array.getElem?_eq_some_iff.1 HK.out).1).trans HK.out)
  have hgl : q + 5 < w1.heap.size := Nat.lt_of_lt_of_le HH.out.lt hb1.size
  obtain ⟨gt, hgt⟩ : ∃ z, w1.heap.size = z := ⟨_, rfl⟩
  rw [hgt] at HT hgl ⊢
  clear hb1 hal hgt hf0 hk0 HK
  generalize w1.alloc (.cells #[.int .i64 n', .int .i64 s'] 48) = W2 at *
  have k1 := one_cell hk1
  have t0 := HT.out.c0
  have t1 := HT.out.c1
  obtain ⟨c0, c1, c2, c3, c4, c5, c6, c7⟩ := H2.out.hc.cs
  have zc := H2.out.hc.fz
  have ht1 : ¬ (gt = q + 2) := by omega
  have ht2 : ¬ (q + 2 = gt) := by omega
  clear hk1
  go_wp2
  go_ret2
  exact ⟨rfl, H2.out.put_c ((Only.set _ ⟨q + 2, 0, none⟩ _).trans (Only.set _ ⟨q + 2, 1, none⟩ _)) (H2.out.hc.stm n' s')⟩

set_option maxHeartbeats 3200000 in
theorem intoV_c {w0 W : World} {q gf gk : Nat} {ad : Option Addr} {m cap : Nat} {x at' f : Int} {n s a b : Int} {g : Bool} {t : List UInt8} {d e : Int} {av : Option Addr} {nv cv : Nat} {l : List UInt8} (hy : Bys W av nv cv l)
    (hgf : W.heap[gf]? = some (.cells #[.func (.func 102) #[] #[]] 149 (0, 0))) (hgk : W.heap[gk]? = some (.cells #[.pointer (some ⟨q + 2, 2, none⟩)] 148 (0, 0)))
    (h : Rd8 w0 W q ad m cap x at' f ⟨n, s, a, b, g, t, d, e⟩) (a' b' k f' : Int) (hg : vgetS l = ((a', b'), k, f')) :
    Calls Tryd.prog 115 #[.slice av nv cv, .pointer (some ⟨gf, 0, none⟩), .pointer (some ⟨gk, 0, none⟩)] W (fun e9 W' => e9 = .returned (.tuple #[.int .i64 k, .int .i64 f']) ∧ Rd8 w0 W' q ad m cap x at' f ⟨n, s, a', b', g, t, d, e⟩) := by
  have hf0 := one_cell hgf
  have hk0 := one_cell hgk
  have HG := vget_c hy
  rw [hg] at HG
  have HGG := Lib.hid HG
  have HH := Lib.hid h
  have HK := Lib.hid hgk
  clear hy hgf hgk hg HG h
  go_enter Tryd.func115, Tryd.ntmps115
  go_upto_region 2 with (go_at_call 102; (with_reducible refine HGG.out.mono ?_); rintro e9 w1 ⟨rfl, hb1⟩)
  have HT := Lib.hid (Pair.new w1 44 a' b')
  have hal := alloc_below w1 (.cells #[.int .i64 a', .int .i64 b'] 44)
  have H2 := Lib.hid ((HH.out.grow hb1).grow hal)
  have hk1 : (w1.alloc (.cells #[.int .i64 a', .int .i64 b'] 44)).heap[gk]? = some (.cells #[.pointer (some ⟨q + 2, 2, none⟩)] 148 (0, 0)) := (hal.block _ (Nat.lt_of_lt_of_le (Array.getElem?_eq_some_iff.1 HK.out).1 hb1.size)).trans ((hb1.block _ (Array.getElem?_eq_some_iff.1 HK.out).1).trans HK.out)
  have hgl : q + 5 < w1.heap.size := Nat.lt_of_lt_of_le HH.out.lt hb1.size
  obtain ⟨gt, hgt⟩ : ∃ z, w1.heap.size = z := ⟨_, rfl⟩
  rw [hgt] at HT hgl ⊢
  clear hb1 hal hgt hf0 hk0 HK
  generalize w1.alloc (.cells #[.int .i64 a', .int .i64 b'] 44) = W2 at *
  have k1 := one_cell hk1
  have t0 := HT.out.c0
  have t1 := HT.out.c1
  obtain ⟨c0, c1, c2, c3, c4, c5, c6, c7⟩ := H2.out.hc.cs
  have zc := H2.out.hc.fz
  have ht1 : ¬ (gt = q + 2) := by omega
  have ht2 : ¬ (q + 2 = gt) := by omega
  clear hk1
  go_wp2
  go_ret2
  exact ⟨rfl, H2.out.put_c ((Only.set _ ⟨q + 2, 2, none⟩ _).trans (Only.set _ ⟨q + 2, 3, none⟩ _)) (H2.out.hc.vc a' b')⟩

set_option maxHeartbeats 3200000 in
theorem intoD_c {w0 W : World} {q gf gk : Nat} {ad : Option Addr} {m cap : Nat} {x at' f : Int} {n s a b : Int} {g : Bool} {t : List UInt8} {d e : Int} {av : Option Addr} {nv cv : Nat} {l : List UInt8} (hy : Bys W av nv cv l)
    (hgf : W.heap[gf]? = some (.cells #[.func (.func 102) #[] #[]] 149 (0, 0))) (hgk : W.heap[gk]? = some (.cells #[.pointer (some ⟨q + 2, 6, none⟩)] 148 (0, 0)))
    (h : Rd8 w0 W q ad m cap x at' f ⟨n, s, a, b, g, t, d, e⟩) (d' e' k f' : Int) (hg : vgetS l = ((d', e'), k, f')) :
    Calls Tryd.prog 115 #[.slice av nv cv, .pointer (some ⟨gf, 0, none⟩), .pointer (some ⟨gk, 0, none⟩)] W (fun e9 W' => e9 = .returned (.tuple #[.int .i64 k, .int .i64 f']) ∧ Rd8 w0 W' q ad m cap x at' f ⟨n, s, a, b, g, t, d', e'⟩) := by
  have hf0 := one_cell hgf
  have hk0 := one_cell hgk
  have HG := vget_c hy
  rw [hg] at HG
  have HGG := Lib.hid HG
  have HH := Lib.hid h
  have HK := Lib.hid hgk
  clear hy hgf hgk hg HG h
  go_enter Tryd.func115, Tryd.ntmps115
  go_upto_region 2 with (go_at_call 102; (with_reducible refine HGG.out.mono ?_); rintro e9 w1 ⟨rfl, hb1⟩)
  have HT := Lib.hid (Pair.new w1 44 d' e')
  have hal := alloc_below w1 (.cells #[.int .i64 d', .int .i64 e'] 44)
  have H2 := Lib.hid ((HH.out.grow hb1).grow hal)
  have hk1 : (w1.alloc (.cells #[.int .i64 d', .int .i64 e'] 44)).heap[gk]? = some (.cells #[.pointer (some ⟨q + 2, 6, none⟩)] 148 (0, 0)) := (hal.block _ (Nat.lt_of_lt_of_le (Array.getElem?_eq_some_iff.1 HK.out).1 hb1.size)).trans ((hb1.block _ (Array.getElem?_eq_some_iff.1 HK.out).1).trans HK.out)
  have hgl : q + 5 < w1.heap.size := Nat.lt_of_lt_of_le HH.out.lt hb1.size
  obtain ⟨gt, hgt⟩ : ∃ z, w1.heap.size = z := ⟨_, rfl⟩
  rw [hgt] at HT hgl ⊢
  clear hb1 hal hgt hf0 hk0 HK
  generalize w1.alloc (.cells #[.int .i64 d', .int .i64 e'] 44) = W2 at *
  have k1 := one_cell hk1
  have t0 := HT.out.c0
  have t1 := HT.out.c1
  obtain ⟨c0, c1, c2, c3, c4, c5, c6, c7⟩ := H2.out.hc.cs
  have zc := H2.out.hc.fz
  have ht1 : ¬ (gt = q + 2) := by omega
  have ht2 : ¬ (q + 2 = gt) := by omega
  clear hk1
  go_wp2
  go_ret2
  exact ⟨rfl, H2.out.put_c ((Only.set _ ⟨q + 2, 6, none⟩ _).trans (Only.set _ ⟨q + 2, 7, none⟩ _)) (H2.out.hc.dead d' e')⟩

set_option maxHeartbeats 3200000 in
theorem intoT_c {w0 W : World} {q gf gk : Nat} {ad : Option Addr} {m cap : Nat} {x at' f : Int} {n s a b : Int} {g : Bool} {t : List UInt8} {d e : Int} {av : Option Addr} {nv cv : Nat} {l : List UInt8} (hy : Bys W av nv cv l)
    (hgf : W.heap[gf]? = some (.cells #[.func (.func 104) #[] #[]] 152 (0, 0))) (hgk : W.heap[gk]? = some (.cells #[.pointer (some ⟨q + 2, 5, none⟩)] 151 (0, 0)))
    (h : Rd8 w0 W q ad m cap x at' f ⟨n, s, a, b, g, t, d, e⟩) (t' : List UInt8) (k f' : Int) (hg : textS l 64 = (t', k, f')) :
    Calls Tryd.prog 116 #[.slice av nv cv, .pointer (some ⟨gf, 0, none⟩), .pointer (some ⟨gk, 0, none⟩)] W (fun e9 W' => e9 = .returned (.tuple #[.int .i64 k, .int .i64 f']) ∧ Rd8 w0 W' q ad m cap x at' f ⟨n, s, a, b, g, t', d, e⟩) := by
  have hf0 := one_cell hgf
  have hk0 := one_cell hgk
  have HG := getvalue_c hy
  rw [hg] at HG
  have HGG := Lib.hid HG
  have HH := Lib.hid h
  have HK := Lib.hid hgk
  clear hy hgf hgk hg HG h
  go_enter Tryd.func116, Tryd.ntmps116
  go_upto_region 2 with (go_at_call 104; (with_reducible refine HGG.out.mono ?_); rintro e9 w9 ⟨rfl, rfl⟩)
  obtain ⟨c0, c1, c2, c3, c4, c5, c6, c7⟩ := HH.out.hc.cs
  have zc := HH.out.hc.fz
  go_wp2
  go_ret2
  exact ⟨rfl, HH.out.put_c (Only.set _ ⟨q + 2, 5, none⟩ _) (HH.out.hc.txt t')⟩

set_option maxHeartbeats 3200000 in
theorem nextI_c {w0 W : World} {q P : Nat} {ad a' : Option Addr} {m cap : Nat} {x x' k f' : Int} {c c' : Cl} {p1 p2 : Value} (h : Rd8 w0 W q ad m cap x (P : Int) 0 c) (hmx : m ≤ 9223372036854775807) (hP : P ≤ m) (hk : 0 ≤ k) (hk2 : (P : Int) + k ≤ 9223372036854775807)
    (hs1 : ∀ W', (Instr.slice 59 (.slice ad m cap) (some (.int .i64 (P : Int))) none none).run Tryd.prog W' = .ok (.slice a' (m - P) (cap - P)) W')
    (hs2 : ∀ W', (Instr.sliceAt 59 (.slice ad m cap) (some (.int .i64 (P : Int))) none none).run Tryd.prog W' = .ok (.slice a' (m - P) (cap - P)) W')
    (hF : Calls Tryd.prog 112 #[.slice a' (m - P) (cap - P), p1, p2] W (fun e9 W' => e9 = .returned (.tuple #[.int .i64 k, .int .i64 f']) ∧ Rd8 w0 W' q ad m cap x' (P : Int) 0 c')) :
    Calls Tryd.prog 97 #[.func (.func 112) #[] #[p1, p2], .pointer (some ⟨q + 5, 0, none⟩), .pointer (some ⟨q, 0, none⟩), .pointer (some ⟨q + 4, 0, none⟩)] W (fun e9 W' => e9 = .returned (.tuple #[]) ∧ Rd8 w0 W' q ad m cap x' ((P : Int) + k) f' c') := by
  have f0 := one_cell h.hf
  have b0 := one_cell h.hb
  have a0 := one_cell h.ha
  have HF := Lib.hid hF
  clear hF h
  go_enter Tryd.func97, Tryd.ntmps97
  go_upto_region 3 with (go_at_call 112; (with_reducible refine HF.out.mono ?_); rintro e9 w1 ⟨rfl, h1⟩; have f1 := one_cell h1.hf; have zf := frozen_of_row w1 (q + 5) 0 _ _ h1.hf)
  have H2 := Lib.hid (h1.put_f f')
  clear h1 f0 b0 a0 f1 zf
  generalize w1.setCell ⟨q + 5, 0, none⟩ (.int .i64 f') = W2 at *
  have a1 := one_cell H2.out.ha
  have za := frozen_of_row W2 (q + 4) 0 _ _ H2.out.ha
  go_wp2
  refine bodyPost_end (results_none rfl _ _ _) rfl ⟨rfl, H2.out.put_a _⟩

set_option maxHeartbeats 3200000 in
theorem nextS_c {w0 W : World} {q P : Nat} {ad a' : Option Addr} {m cap : Nat} {x x' k f' : Int} {c c' : Cl} {p1 p2 : Value} (h : Rd8 w0 W q ad m cap x (P : Int) 0 c) (hmx : m ≤ 9223372036854775807) (hP : P ≤ m) (hk : 0 ≤ k) (hk2 : (P : Int) + k ≤ 9223372036854775807)
    (hs1 : ∀ W', (Instr.slice 59 (.slice ad m cap) (some (.int .i64 (P : Int))) none none).run Tryd.prog W' = .ok (.slice a' (m - P) (cap - P)) W')
    (hs2 : ∀ W', (Instr.sliceAt 59 (.slice ad m cap) (some (.int .i64 (P : Int))) none none).run Tryd.prog W' = .ok (.slice a' (m - P) (cap - P)) W')
    (hF : Calls Tryd.prog 113 #[.slice a' (m - P) (cap - P), p1, p2] W (fun e9 W' => e9 = .returned (.tuple #[.int .i64 k, .int .i64 f']) ∧ Rd8 w0 W' q ad m cap x' (P : Int) 0 c')) :
    Calls Tryd.prog 97 #[.func (.func 113) #[] #[p1, p2], .pointer (some ⟨q + 5, 0, none⟩), .pointer (some ⟨q, 0, none⟩), .pointer (some ⟨q + 4, 0, none⟩)] W (fun e9 W' => e9 = .returned (.tuple #[]) ∧ Rd8 w0 W' q ad m cap x' ((P : Int) + k) f' c') := by
  have f0 := one_cell h.hf
  have b0 := one_cell h.hb
  have a0 := one_cell h.ha
  have HF := Lib.hid hF
  clear hF h
  go_enter Tryd.func97, Tryd.ntmps97
  go_upto_region 3 with (go_at_call 113; (with_reducible refine HF.out.mono ?_); rintro e9 w1 ⟨rfl, h1⟩; have f1 := one_cell h1.hf; have zf := frozen_of_row w1 (q + 5) 0 _ _ h1.hf)
  have H2 := Lib.hid (h1.put_f f')
  clear h1 f0 b0 a0 f1 zf
  generalize w1.setCell ⟨q + 5, 0, none⟩ (.int .i64 f') = W2 at *
  have a1 := one_cell H2.out.ha
  have za := frozen_of_row W2 (q + 4) 0 _ _ H2.out.ha
  go_wp2
  refine bodyPost_end (results_none rfl _ _ _) rfl ⟨rfl, H2.out.put_a _⟩

set_option maxHeartbeats 3200000 in
theorem nextV_c {w0 W : World} {q P : Nat} {ad a' : Option Addr} {m cap : Nat} {x x' k f' : Int} {c c' : Cl} {p1 p2 : Value} (h : Rd8 w0 W q ad m cap x (P : Int) 0 c) (hmx : m ≤ 9223372036854775807) (hP : P ≤ m) (hk : 0 ≤ k) (hk2 : (P : Int) + k ≤ 9223372036854775807)
    (hs1 : ∀ W', (Instr.slice 59 (.slice ad m cap) (some (.int .i64 (P : Int))) none none).run Tryd.prog W' = .ok (.slice a' (m - P) (cap - P)) W')
    (hs2 : ∀ W', (Instr.sliceAt 59 (.slice ad m cap) (some (.int .i64 (P : Int))) none none).run Tryd.prog W' = .ok (.slice a' (m - P) (cap - P)) W')
    (hF : Calls Tryd.prog 115 #[.slice a' (m - P) (cap - P), p1, p2] W (fun e9 W' => e9 = .returned (.tuple #[.int .i64 k, .int .i64 f']) ∧ Rd8 w0 W' q ad m cap x' (P : Int) 0 c')) :
    Calls Tryd.prog 97 #[.func (.func 115) #[] #[p1, p2], .pointer (some ⟨q + 5, 0, none⟩), .pointer (some ⟨q, 0, none⟩), .pointer (some ⟨q + 4, 0, none⟩)] W (fun e9 W' => e9 = .returned (.tuple #[]) ∧ Rd8 w0 W' q ad m cap x' ((P : Int) + k) f' c') := by
  have f0 := one_cell h.hf
  have b0 := one_cell h.hb
  have a0 := one_cell h.ha
  have HF := Lib.hid hF
  clear hF h
  go_enter Tryd.func97, Tryd.ntmps97
  go_upto_region 3 with (go_at_call 115; (with_reducible refine HF.out.mono ?_); rintro e9 w1 ⟨rfl, h1⟩; have f1 := one_cell h1.hf; have zf := frozen_of_row w1 (q + 5) 0 _ _ h1.hf)
  have H2 := Lib.hid (h1.put_f f')
  clear h1 f0 b0 a0 f1 zf
  generalize w1.setCell ⟨q + 5, 0, none⟩ (.int .i64 f') = W2 at *
  have a1 := one_cell H2.out.ha
  have za := frozen_of_row W2 (q + 4) 0 _ _ H2.out.ha
  go_wp2
  refine bodyPost_end (results_none rfl _ _ _) rfl ⟨rfl, H2.out.put_a _⟩

set_option maxHeartbeats 3200000 in
theorem nextT_c {w0 W : World} {q P : Nat} {ad a' : Option Addr} {m cap : Nat} {x x' k f' : Int} {c c' : Cl} {p1 p2 : Value} (h : Rd8 w0 W q ad m cap x (P : Int) 0 c) (hmx : m ≤ 9223372036854775807) (hP : P ≤ m) (hk : 0 ≤ k) (hk2 : (P : Int) + k ≤ 9223372036854775807)
    (hs1 : ∀ W', (Instr.slice 59 (.slice ad m cap) (some (.int .i64 (P : Int))) none none).run Tryd.prog W' = .ok (.slice a' (m - P) (cap - P)) W')
    (hs2 : ∀ W', (Instr.sliceAt 59 (.slice ad m cap) (some (.int .i64 (P : Int))) none none).run Tryd.prog W' = .ok (.slice a' (m - P) (cap - P)) W')
    (hF : Calls Tryd.prog 116 #[.slice a' (m - P) (cap - P), p1, p2] W (fun e9 W' => e9 = .returned (.tuple #[.int .i64 k, .int .i64 f']) ∧ Rd8 w0 W' q ad m cap x' (P : Int) 0 c')) :
    Calls Tryd.prog 97 #[.func (.func 116) #[] #[p1, p2], .pointer (some ⟨q + 5, 0, none⟩), .pointer (some ⟨q, 0, none⟩), .pointer (some ⟨q + 4, 0, none⟩)] W (fun e9 W' => e9 = .returned (.tuple #[]) ∧ Rd8 w0 W' q ad m cap x' ((P : Int) + k) f' c') := by
  have f0 := one_cell h.hf
  have b0 := one_cell h.hb
  have a0 := one_cell h.ha
  have HF := Lib.hid hF
  clear hF h
  go_enter Tryd.func97, Tryd.ntmps97
  go_upto_region 3 with (go_at_call 116; (with_reducible refine HF.out.mono ?_); rintro e9 w1 ⟨rfl, h1⟩; have f1 := one_cell h1.hf; have zf := frozen_of_row w1 (q + 5) 0 _ _ h1.hf)
  have H2 := Lib.hid (h1.put_f f')
  clear h1 f0 b0 a0 f1 zf
  generalize w1.setCell ⟨q + 5, 0, none⟩ (.int .i64 f') = W2 at *
  have a1 := one_cell H2.out.ha
  have za := frozen_of_row W2 (q + 4) 0 _ _ H2.out.ha
  go_wp2
  refine bodyPost_end (results_none rfl _ _ _) rfl ⟨rfl, H2.out.put_a _⟩

set_option maxHeartbeats 1600000 in
theorem nextX_c {w0 W : World} {q : Nat} {ad : Option Addr} {m cap : Nat} {x at' f : Int} {c : Cl} (h : Rd8 w0 W q ad m cap x at' f c) (hf : f ≠ 0) (v : Value) :
    Calls Tryd.prog 97 #[v, .pointer (some ⟨q + 5, 0, none⟩), .pointer (some ⟨q, 0, none⟩), .pointer (some ⟨q + 4, 0, none⟩)] W (fun e9 W' => e9 = .returned (.tuple #[]) ∧ W' = W) := by
  have f0 := one_cell h.hf
  have hfb : (f != 0) = true := by simpa using hf
  clear h hf
  go_enter Tryd.func97, Tryd.ntmps97
  go_wp2
  refine bodyPost_ret (results_none rfl _ _ _) rfl ⟨rfl, rfl⟩

theorem mkI_c (p : Addr) (W : World) : Calls Tryd.prog 98 #[.pointer (some p), .func (.func 79) #[] #[]] W (fun e9 W' => e9 = .returned (.func (.func 112) #[] #[.pointer (some ⟨W.heap.size + 1, 0, none⟩), .pointer (some ⟨W.heap.size, 0, none⟩)]) ∧
    W' = (W.alloc (.cells #[.pointer (some p)] 143)).alloc (.cells #[.func (.func 79) #[] #[]] 124)) := by
  go_enter Tryd.func98, Tryd.ntmps98
  go_wp2
  go_ret
  exact ⟨rfl, rfl⟩
theorem mkS_c (p : Addr) (W : World) : Calls Tryd.prog 99 #[.pointer (some p), .func (.func 100) #[] #[]] W (fun e9 W' => e9 = .returned (.func (.func 113) #[] #[.pointer (some ⟨W.heap.size + 1, 0, none⟩), .pointer (some ⟨W.heap.size, 0, none⟩)]) ∧
    W' = (W.alloc (.cells #[.pointer (some p)] 145)).alloc (.cells #[.func (.func 100) #[] #[]] 146)) := by
  go_enter Tryd.func99, Tryd.ntmps99
  go_wp2
  go_ret
  exact ⟨rfl, rfl⟩
theorem mkV_c (p : Addr) (W : World) : Calls Tryd.prog 101 #[.pointer (some p), .func (.func 102) #[] #[]] W (fun e9 W' => e9 = .returned (.func (.func 115) #[] #[.pointer (some ⟨W.heap.size + 1, 0, none⟩), .pointer (some ⟨W.heap.size, 0, none⟩)]) ∧
    W' = (W.alloc (.cells #[.pointer (some p)] 148)).alloc (.cells #[.func (.func 102) #[] #[]] 149)) := by
  go_enter Tryd.func101, Tryd.ntmps101
  go_wp2
  go_ret
  exact ⟨rfl, rfl⟩
theorem mkT_c (p : Addr) (W : World) : Calls Tryd.prog 103 #[.pointer (some p), .func (.func 104) #[] #[]] W (fun e9 W' => e9 = .returned (.func (.func 116) #[] #[.pointer (some ⟨W.heap.size + 1, 0, none⟩), .pointer (some ⟨W.heap.size, 0, none⟩)]) ∧
    W' = (W.alloc (.cells #[.pointer (some p)] 151)).alloc (.cells #[.func (.func 104) #[] #[]] 152)) := by
  go_enter Tryd.func103, Tryd.ntmps103
  go_wp2
  go_ret
  exact ⟨rfl, rfl⟩
end Go.Proofs.YtkjpmdpljdgcjaaDoor
