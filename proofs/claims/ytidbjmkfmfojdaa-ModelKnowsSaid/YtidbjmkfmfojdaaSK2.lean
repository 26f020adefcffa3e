/-
  Merged: YB YC YO E0 DI YL YM MA MB MC MD MH MI ML MQ ME MR EC YS EE MF MM U9 MW YD MX.
-/
import Derived.Deep.QuietTactic
import Derived.StillTail
import Derived.Lib.QuietBelow
import Derived.Test.YtidbjmkfmfojdaaRows
import Derived.WalkKit
import Derived.Lib.Hide
import Derived.BigQuiet
import Derived.BigRegion
import Derived.Deep.Cut
import Derived.Deep.MidRow
import Derived.Great.BuildSlice
import Derived.Outline
import Derived.OwnWalk
import Derived.Laws.Rows
import Derived.ChangeKeysEq
import Derived.Laws.StructEq
import Derived.WalkSpells
import Derived.WalkLawsBesides
import Derived.Laws.CopyOwn
import Derived.WalkSmall
import Derived.Lib.LaidTab
import Derived.Deep.RegionWith
import Derived.Lib.MinMax
import Derived.WideShapes
import Derived.ChangeSame
import Derived.OpenShut
import Derived.Deep.Slices
import Derived.Deep.AppendSrc
import Derived.Lib.AppendZerosOnto
import Derived.Lib.SliceRun
import Derived.Lib.Walk
import Derived.Lib.OthersKept
import Derived.Laws.RangeAny
import Derived.Maps.OwnOps
import Derived.Maps.Views
import Derived.ChangeSlices
import Derived.ChangeArms
import Derived.Deep.DeepAppendWide
import Derived.OrdersIn
import Derived.TacticsIn
import Derived.RangeFuncNested
import Derived.RangeFuncBound
import Derived.RangeFuncCalls
import Derived.RangeFuncLeaves
import Derived.Maps.AppendAt
import Derived.Shelf.Abstract
import Derived.OwnWalkIn
import Derived.TacticsInMore
import Derived.LoopNIn
import Derived.LoopIn
import Derived.Test.YtidbjmkfmfojdaaSK1

section
namespace Go.Proofs.Ytidbjmkfmfojdaa
open Go.RowKit Go Go.Sort
set_option linter.unusedVariables false
set_option maxRecDepth 20000

theorem text_eqb (t t' : List UInt8) : ((text t).toList == (text t').toList) = (t == t') := by rw [text_toList, text_toList]
theorem text_lss (t t' : List UInt8) : Op.bytesLess (text t).toList (text t').toList = Op.bytesLess t t' := by rw [text_toList, text_toList]

set_option maxHeartbeats 3200000 in
theorem less_c (n s a b : Int) (g : Bool) (t : List UInt8) (d e : Int) (n' s' a' b' : Int) (g' : Bool) (t' : List UInt8) (d' e' : Int) (w : World) : Calls Try.prog 124 #[.agg #[.int .i64 n, .int .i64 s, .int .i64 a, .int .i64 b, .bool g, .string (text t), .int .i64 d, .int .i64 e], .agg #[.int .i64 n', .int .i64 s', .int .i64 a', .int .i64 b', .bool g', .string (text t'), .int .i64 d', .int .i64 e']] w (Tells (.bool (lessS ⟨n, s, a, b, g, t, d, e⟩ ⟨n', s', a', b', g', t', d', e'⟩)) w) := by
  have hp := (Cel.new w n s a b g t d e).alloc (.cells #[.int .i64 n', .int .i64 s', .int .i64 a', .int .i64 b', .bool g', .string (text t'), .int .i64 d', .int .i64 e'] 75)
  have hq := Cel.new (w.alloc (.cells #[.int .i64 n, .int .i64 s, .int .i64 a, .int .i64 b, .bool g, .string (text t), .int .i64 d, .int .i64 e] 75)) n' s' a' b' g' t' d' e'
  rw [World.size_alloc] at hq
  have HB := Lib.hid ((alloc_below w (.cells #[.int .i64 n, .int .i64 s, .int .i64 a, .int .i64 b, .bool g, .string (text t), .int .i64 d, .int .i64 e] 75)).alloc (by simp) (.cells #[.int .i64 n', .int .i64 s', .int .i64 a', .int .i64 b', .bool g', .string (text t'), .int .i64 d', .int .i64 e'] 75))
  have HV := Lib.hid (show lessS ⟨n, s, a, b, g, t, d, e⟩ ⟨n', s', a', b', g', t', d', e'⟩ = if ((n == n') && (s == s')) = false then sless n s n' s' else if (g == g') = false then g' else if (t == t') = false then Op.bytesLess t t' else if (a == a') = false then decide (a < a') else decide (b < b') from rfl)
  obtain ⟨r, hr⟩ : ∃ r, lessS ⟨n, s, a, b, g, t, d, e⟩ ⟨n', s', a', b', g', t', d', e'⟩ = r := ⟨_, rfl⟩
  rw [hr] at HV ⊢
  have hng := stamp_eqg
  have hte := text_eqb t t'
  have htl := text_lss t t'
  obtain ⟨c0, c1, c2, c3, c4, c5, c6, c7⟩ := hp.cs
  obtain ⟨k0, k1, k2, k3, k4, k5, k6, k7⟩ := hq.cs
  obtain ⟨u, hu⟩ : ∃ u, text t = u := ⟨_, rfl⟩
  obtain ⟨v, hv⟩ : ∃ u, text t' = u := ⟨_, rfl⟩
  rw [hu, hv] at c0 c1 c2 c3 c4 c5 c6 c7 k0 k1 k2 k3 k4 k5 k6 k7 hte htl HB
  rw [hu, hv]
  clear hp hq hr hu hv
  cases q1 : ((n == n') && (s == s')) with
  | false =>
    have hne := stamp_neb n s n' s' _ q1
    rw [q1] at HV
    have HS := Lib.hid (fun W => sless_c n s n' s' W)
    clear q1 hte htl
    go_enter Try.func124, Try.ntmps124
    go_wp2_with (go_at_call 134; (with_reducible refine (HS.out _).mono ?_); rintro e9 w9 ⟨rfl, hb9⟩)
    go_ret
    exact ⟨by rw [HV.out]; rfl, HB.out.trans (hb9.mono HB.out.size)⟩
  | true =>
    have hne := stamp_neb n s n' s' _ q1
    rw [q1] at HV
    clear q1
    cases q2 : (g == g') with
    | false =>
      rw [q2] at HV
      have q2' : (g != g') = true := by rw [bne, q2]; rfl
      clear hte htl
      go_enter Try.func124, Try.ntmps124
      go_wp2
      go_ret
      exact ⟨by rw [HV.out]; rfl, HB.out⟩
    | true =>
      rw [q2] at HV
      have q2' : (g != g') = false := by rw [bne, q2]; rfl
      skip
      cases q3 : (t == t') with
      | false =>
        rw [q3] at HV hte
        skip
        obtain ⟨q5, hq5⟩ : ∃ q, Op.bytesLess t t' = q := ⟨_, rfl⟩
        rw [hq5] at htl HV
        clear hq5
        go_enter Try.func124, Try.ntmps124
        go_wp2
        go_ret
        exact ⟨by rw [HV.out]; rfl, HB.out⟩
      | true =>
        rw [q3] at HV hte
        clear htl
        cases q4 : (a == a') with
        | false =>
          rw [q4] at HV
          have q4' : (a != a') = true := by rw [bne, q4]; rfl
          skip
          go_enter Try.func124, Try.ntmps124
          go_wp2
          go_ret
          exact ⟨by rw [HV.out]; rfl, HB.out⟩
        | true =>
          rw [q4] at HV
          have q4' : (a != a') = false := by rw [bne, q4]; rfl
          skip
          go_enter Try.func124, Try.ntmps124
          go_wp2
          go_ret
          exact ⟨by rw [HV.out]; rfl, HB.out⟩

end Go.Proofs.Ytidbjmkfmfojdaa
end

section
namespace Go.Proofs.Ytidbjmkfmfojdaa
open Go.RowKit Go Go.Sort
set_option linter.unusedVariables false
set_option maxRecDepth 20000

/-- One block is other than it was, wherever the world had grown before. -/
theorem Wrote.of_put {q : Nat} {w W : World} (n s a b : Int) (g : Bool) (t : List UInt8) (d e : Int) (hb : Below w.heap.size w W) (h : Cel W q n s a b g t d e) (n' s' a' b' : Int) (g' : Bool) (t' : List UInt8) (d' e' : Int) :
    Wrote q #[.int .i64 n', .int .i64 s', .int .i64 a', .int .i64 b', .bool g', .string (text t'), .int .i64 d', .int .i64 e'] 75 w ((((((((W.setCell ⟨q, 0, none⟩ (.int .i64 n')).setCell ⟨q, 1, none⟩ (.int .i64 s')).setCell ⟨q, 2, none⟩ (.int .i64 a')).setCell ⟨q, 3, none⟩ (.int .i64 b')).setCell ⟨q, 4, none⟩ (.bool g')).setCell ⟨q, 5, none⟩ (.string (text t'))).setCell ⟨q, 6, none⟩ (.int .i64 d')).setCell ⟨q, 7, none⟩ (.int .i64 e')) := by
  have hx := put_below (Below.refl 0 W) (Nat.zero_le q) n' s' a' b' g' t' d' e'
  refine ⟨hx.os.trans hb.os, hx.tape.trans hb.tape, hx.output.trans hb.output, Nat.le_trans hb.size hx.size, h.put n' s' a' b' g' t' d' e', fun k hk hkg => ?_⟩
  rw [heap_setCell_other _ _ _ _ (by exact hkg), heap_setCell_other _ _ _ _ (by exact hkg), heap_setCell_other _ _ _ _ (by exact hkg), heap_setCell_other _ _ _ _ (by exact hkg), heap_setCell_other _ _ _ _ (by exact hkg), heap_setCell_other _ _ _ _ (by exact hkg), heap_setCell_other _ _ _ _ (by exact hkg), heap_setCell_other _ _ _ _ (by exact hkg)]
  exact hb.block k hk
theorem Wrote.of_dead {q : Nat} {w W : World} (n s a b : Int) (g : Bool) (t : List UInt8) (d e : Int) (hb : Below w.heap.size w W) (h : Cel W q n s a b g t d e) (x y : Int) :
    Wrote q #[.int .i64 n, .int .i64 s, .int .i64 a, .int .i64 b, .bool g, .string (text t), .int .i64 x, .int .i64 y] 75 w ((W.setCell ⟨q, 6, none⟩ (.int .i64 x)).setCell ⟨q, 7, none⟩ (.int .i64 y)) := by
  have hx := dead_below (Below.refl 0 W) (Nat.zero_le q) x y
  refine ⟨hx.os.trans hb.os, hx.tape.trans hb.tape, hx.output.trans hb.output, Nat.le_trans hb.size hx.size, h.dead x y, fun k hk hkg => ?_⟩
  rw [heap_setCell_other _ _ _ _ (by exact hkg), heap_setCell_other _ _ _ _ (by exact hkg)]
  exact hb.block k hk
theorem Wrote.cel {z q : Nat} {t' : TypeId} {w w' : World} {cs : Array Value} {n s a b : Int} {g : Bool} {t : List UInt8} {d e : Int} (h : Wrote z cs t' w w') (hp : Cel w q n s a b g t d e) (hne : q ≠ z) : Cel w' q n s a b g t d e :=
  (h.rest q hp.lt hne).trans hp
theorem Wrote.kept {g : Nat} {t : TypeId} {w w1 w2 : World} {cs : Array Value} (h : Wrote g cs t w w1) (hg : g < w1.heap.size) (hb : Below w1.heap.size w1 w2) : Wrote g cs t w w2 :=
  ⟨hb.os.trans h.os, hb.tape.trans h.tape, hb.output.trans h.output, Nat.le_trans h.size hb.size, (hb.block g hg).trans h.cell, fun k hk hne => (hb.block k (Nat.lt_of_lt_of_le hk h.size)).trans (h.rest k hk hne)⟩

/-- What a cell's place holds. -/
def CelAt (W : World) (b o : Nat) (c : Cl) : Prop :=
  W.cell? ⟨b, o, none⟩ = some (.int .i64 c.n) ∧ W.cell? ⟨b, o + 1, none⟩ = some (.int .i64 c.s) ∧ W.cell? ⟨b, o + 2, none⟩ = some (.int .i64 c.a) ∧ W.cell? ⟨b, o + 3, none⟩ = some (.int .i64 c.b) ∧
  W.cell? ⟨b, o + 4, none⟩ = some (.bool c.g) ∧ W.cell? ⟨b, o + 5, none⟩ = some (.string (text c.t)) ∧ W.cell? ⟨b, o + 6, none⟩ = some (.int .i64 c.d) ∧ W.cell? ⟨b, o + 7, none⟩ = some (.int .i64 c.e)
theorem CelAt.kept {W W' : World} {b o : Nat} {c : Cl} (h : CelAt W b o c) (hb : Below W.heap.size W W') : CelAt W' b o c := by
  obtain ⟨h0, h1, h2, h3, h4, h5, h6, h7⟩ := h
  exact ⟨(hb.cell (World.block_lt_of_cell? W _ h0)).trans h0, (hb.cell (World.block_lt_of_cell? W _ h1)).trans h1, (hb.cell (World.block_lt_of_cell? W _ h2)).trans h2, (hb.cell (World.block_lt_of_cell? W _ h3)).trans h3, (hb.cell (World.block_lt_of_cell? W _ h4)).trans h4, (hb.cell (World.block_lt_of_cell? W _ h5)).trans h5, (hb.cell (World.block_lt_of_cell? W _ h6)).trans h6, (hb.cell (World.block_lt_of_cell? W _ h7)).trans h7⟩
/-- A list of cells that lies in memory. -/
structure Cls (w : World) (a : Option Addr) (n cap : Nat) (l : List Cl) : Prop where
  len : l.length = n
  le : n ≤ cap
  max : cap ≤ 9223372036854775807
  adr : cap = 0 ∨ ∃ b off, a = some ⟨b, off, none⟩ ∧ ∀ i, i < n → CelAt w b (off + i * 8) (l.getD i Cl.zero)
theorem Cls.below {w w' : World} {a : Option Addr} {n cap : Nat} {l : List Cl} (h : Cls w a n cap l) (hb : Below w.heap.size w w') : Cls w' a n cap l := by
  refine ⟨h.len, h.le, h.max, ?_⟩
  rcases h.adr with h4 | ⟨b, off, rfl, hc⟩
  · exact .inl h4
  · exact .inr ⟨b, off, rfl, fun i hi => (hc i hi).kept hb⟩
/-- What a place holds, in every world in which nothing of the old is turned. -/
theorem Cls.at {w : World} {a : Option Addr} {n cap : Nat} {l : List Cl} (h : Cls w a n cap l) {k : Nat} (hk : k < n) :
    ∃ b off, a = some ⟨b, off, none⟩ ∧ ∀ W, Below w.heap.size w W → CelAt W b (off + k * 8) (l.getD k Cl.zero) := by
  have := h.le
  rcases h.adr with h4 | ⟨b, off, rfl, hc⟩
  · omega
  · exact ⟨b, off, rfl, fun W hb => (hc k hk).kept hb⟩
theorem Cls.nil (w : World) : Cls w none 0 0 [] := ⟨rfl, Nat.le_refl _, by omega, .inl rfl⟩
theorem Cls.take {w : World} {a : Option Addr} {n cap : Nat} {l : List Cl} (h : Cls w a n cap l) {k : Nat} (hk : k ≤ n) : Cls w a k cap (l.take k) := by
  have hl := h.len
  have hle := h.le
  refine ⟨by rw [List.length_take]; omega, by omega, h.max, ?_⟩
  rcases h.adr with h4 | ⟨b, off, rfl, hc⟩
  · exact .inl h4
  · refine .inr ⟨b, off, rfl, fun i hi => ?_⟩
    have := hc i (by omega)
    rw [List.getD_eq_getElem?_getD] at this ⊢
    rwa [List.getElem?_take_of_lt hi]
/-- Two cells, laid as the list of a call. -/
theorem cls2 (W : World) (n s a b : Int) (g : Bool) (t : List UInt8) (d e : Int) (n' s' a' b' : Int) (g' : Bool) (t' : List UInt8) (d' e' : Int) : Cls (W.alloc (.cells #[.int .i64 n, .int .i64 s, .int .i64 a, .int .i64 b, .bool g, .string (text t), .int .i64 d, .int .i64 e, .int .i64 n', .int .i64 s', .int .i64 a', .int .i64 b', .bool g', .string (text t'), .int .i64 d', .int .i64 e'] 75)) (some ⟨W.heap.size, 0, none⟩) 2 2 [⟨n, s, a, b, g, t, d, e⟩, ⟨n', s', a', b', g', t', d', e'⟩] := by
  have hh : (W.alloc (.cells #[.int .i64 n, .int .i64 s, .int .i64 a, .int .i64 b, .bool g, .string (text t), .int .i64 d, .int .i64 e, .int .i64 n', .int .i64 s', .int .i64 a', .int .i64 b', .bool g', .string (text t'), .int .i64 d', .int .i64 e'] 75)).heap[W.heap.size]? = some (.cells #[.int .i64 n, .int .i64 s, .int .i64 a, .int .i64 b, .bool g, .string (text t), .int .i64 d, .int .i64 e, .int .i64 n', .int .i64 s', .int .i64 a', .int .i64 b', .bool g', .string (text t'), .int .i64 d', .int .i64 e'] 75 (0, 0)) := heap_alloc_new W _
  refine ⟨rfl, Nat.le_refl _, by omega, .inr ⟨W.heap.size, 0, rfl, fun i hi => ?_⟩⟩
  have h01 : i = 0 ∨ i = 1 := by omega
  rcases h01 with rfl | rfl
  · refine ⟨?_,?_,?_,?_,?_,?_,?_,?_⟩ <;> (rw [cell_of_row _ _ _ _ _ (0, 0) hh]; rfl)
  · refine ⟨?_,?_,?_,?_,?_,?_,?_,?_⟩ <;> (rw [cell_of_row _ _ _ _ _ (0, 0) hh]; rfl)

theorem twoS_true (n s a b : Int) (g : Bool) (t : List UInt8) (d e : Int) (n' s' a' b' : Int) (g' : Bool) (t' : List UInt8) (d' e' : Int) (h : lessS ⟨n, s, a, b, g, t, d, e⟩ ⟨n', s', a', b', g', t', d', e'⟩ = true) {j k : Int} (hj : joinS [(d, e), (d', e')] = (j, k)) : twoS ⟨n, s, a, b, g, t, d, e⟩ ⟨n', s', a', b', g', t', d', e'⟩ = ⟨n', s', a', b', g', t', j, k⟩ := by
  unfold twoS deadJ; rw [if_pos h]; simp only; rw [hj]
theorem twoS_false (n s a b : Int) (g : Bool) (t : List UInt8) (d e : Int) (n' s' a' b' : Int) (g' : Bool) (t' : List UInt8) (d' e' : Int) (h : lessS ⟨n, s, a, b, g, t, d, e⟩ ⟨n', s', a', b', g', t', d', e'⟩ = false) {j k : Int} (hj : joinS [(d, e), (d', e')] = (j, k)) : twoS ⟨n, s, a, b, g, t, d, e⟩ ⟨n', s', a', b', g', t', d', e'⟩ = ⟨n, s, a, b, g, t, j, k⟩ := by
  unfold twoS deadJ; rw [if_neg (by simp [h])]; simp only; rw [hj]

def CelC (W : World) (q : Nat) (c : Cl) : Prop := Cel W q c.n c.s c.a c.b c.g c.t c.d c.e
theorem CelC.kept {W W' : World} {q : Nat} {c : Cl} (h : CelC W q c) (hb : Below W.heap.size W W') : CelC W' q c := Cel.kept h hb
theorem CelC.alloc {W : World} {q : Nat} {c : Cl} (h : CelC W q c) (x : Obj) : CelC (W.alloc x) q c := Cel.alloc h x
set_option maxHeartbeats 6400000 in
theorem join1_c (n s a b : Int) (g : Bool) (t : List UInt8) (d e : Int) (n' s' a' b' : Int) (g' : Bool) (t' : List UInt8) (d' e' : Int) (q : Nat) {w : World} (h : Cel w q n s a b g t d e) :
    Calls Try.prog 123 #[.agg #[.int .i64 n, .int .i64 s, .int .i64 a, .int .i64 b, .bool g, .string (text t), .int .i64 d, .int .i64 e], .agg #[.int .i64 n', .int .i64 s', .int .i64 a', .int .i64 b', .bool g', .string (text t'), .int .i64 d', .int .i64 e'], .pointer (some ⟨q, 0, none⟩)] w (Sets q (twoS ⟨n, s, a, b, g, t, d, e⟩ ⟨n', s', a', b', g', t', d', e'⟩).arr 75 w) := by
  have hlt := h.lt
  have hp := (Cel.new w n s a b g t d e).alloc (.cells #[.int .i64 n', .int .i64 s', .int .i64 a', .int .i64 b', .bool g', .string (text t'), .int .i64 d', .int .i64 e'] 75)
  have hq := Cel.new (w.alloc (.cells #[.int .i64 n, .int .i64 s, .int .i64 a, .int .i64 b, .bool g, .string (text t), .int .i64 d, .int .i64 e] 75)) n' s' a' b' g' t' d' e'
  simp only [World.size_alloc] at hq
  have hb := (alloc_below w (.cells #[.int .i64 n, .int .i64 s, .int .i64 a, .int .i64 b, .bool g, .string (text t), .int .i64 d, .int .i64 e] 75)).alloc (by simp) (.cells #[.int .i64 n', .int .i64 s', .int .i64 a', .int .i64 b', .bool g', .string (text t'), .int .i64 d', .int .i64 e'] 75)
  have ho := h.kept hb
  have HL := fun W => less_c n s a b g t d e n' s' a' b' g' t' d' e' W
  have HJ := Lib.hid (fun W => vjoin_c (prs2 W d e d' e'))
  have hT1 := fun (h : lessS ⟨n, s, a, b, g, t, d, e⟩ ⟨n', s', a', b', g', t', d', e'⟩ = true) {j k : Int} hj => twoS_true n s a b g t d e n' s' a' b' g' t' d' e' (j := j) (k := k) h hj
  have hT0 := fun (h : lessS ⟨n, s, a, b, g, t, d, e⟩ ⟨n', s', a', b', g', t', d', e'⟩ = false) {j k : Int} hj => twoS_false n s a b g t d e n' s' a' b' g' t' d' e' (j := j) (k := k) h hj
  obtain ⟨⟨j, k⟩, hj⟩ : ∃ q, joinS [(d, e), (d', e')] = q := ⟨_, rfl⟩
  rw [hj] at HJ
  replace hT1 := fun h => hT1 h hj
  replace hT0 := fun h => hT0 h hj
  obtain ⟨T, hT⟩ : ∃ q, twoS ⟨n, s, a, b, g, t, d, e⟩ ⟨n', s', a', b', g', t', d', e'⟩ = q := ⟨_, rfl⟩
  rw [hT] at hT1 hT0 ⊢
  obtain ⟨L, hL⟩ : ∃ q, lessS ⟨n, s, a, b, g, t, d, e⟩ ⟨n', s', a', b', g', t', d', e'⟩ = q := ⟨_, rfl⟩
  rw [hL] at hT1 hT0 HL
  replace HL := Lib.hid HL
  clear hj hT hL h
  go_enter Try.func123, Try.ntmps123
  go_upto_region 1 with (fail)
  have HB := Lib.hid hb
  obtain ⟨B, hB⟩ : ∃ q, w.heap.size = q := ⟨_, rfl⟩
  have HBle := Lib.hid hB
  rw [hB] at hp hq hlt ⊢
  clear hB hb
  generalize (w.alloc (.cells #[.int .i64 n, .int .i64 s, .int .i64 a, .int .i64 b, .bool g, .string (text t), .int .i64 d, .int .i64 e] 75)).alloc (.cells #[.int .i64 n', .int .i64 s', .int .i64 a', .int .i64 b', .bool g', .string (text t'), .int .i64 d', .int .i64 e'] 75) = W1 at *
  have HF := Lib.hid (And.intro hp (And.intro hq ho))
  clear hp hq ho
  cases L with
  | true =>
    have HT := Lib.hid (hT1 rfl)
    clear hT1 hT0
    obtain ⟨c0, c1, c2, c3, c4, c5, c6, c7⟩ := HF.out.1.cs
    obtain ⟨k0, k1, k2, k3, k4, k5, k6, k7⟩ := HF.out.2.1.cs
    have ofz := HF.out.2.2.fz
    go_upto_region 2 with (go_at_call 124; (with_reducible refine (HL.out _).mono ?_); rintro e9 w2 ⟨rfl, hb2⟩)
    replace HF := Lib.hid (And.intro (HF.out.1.kept hb2) (And.intro (HF.out.2.1.kept hb2) (HF.out.2.2.kept hb2)))
    replace HB := Lib.hid (HB.out.trans (hb2.mono HB.out.size))
    clear hb2 c0 c1 c2 c3 c4 c5 c6 c7 k0 k1 k2 k3 k4 k5 k6 k7
    obtain ⟨c0, c1, c2, c3, c4, c5, c6, c7⟩ := HF.out.1.cs
    obtain ⟨k0, k1, k2, k3, k4, k5, k6, k7⟩ := HF.out.2.1.cs
    have ofz := HF.out.2.2.fz
    obtain ⟨o0, o1, o2, o3, o4, o5, o6, o7⟩ := HF.out.2.2.cs
    go_upto_region 3 with (fail)
    have hw := Wrote.of_put n s a b g t d e (Below.refl _ w2) HF.out.2.2 n' s' a' b' g' t' d' e'
    have HWW := Lib.hid (Wrote.of_put n s a b g t d e HB.out HF.out.2.2 n' s' a' b' g' t' d' e')
    clear c0 c1 c2 c3 c4 c5 c6 c7 k0 k1 k2 k3 k4 k5 k6 k7 o0 o1 o2 o3 o4 o5 o6 o7 ofz
    obtain ⟨W3, hW3⟩ : ∃ W, ((((((((w2.setCell ⟨q, 0, none⟩ (.int .i64 n')).setCell ⟨q, 1, none⟩ (.int .i64 s')).setCell ⟨q, 2, none⟩ (.int .i64 a')).setCell ⟨q, 3, none⟩ (.int .i64 b')).setCell ⟨q, 4, none⟩ (.bool g')).setCell ⟨q, 5, none⟩ (.string (text t'))).setCell ⟨q, 6, none⟩ (.int .i64 d')).setCell ⟨q, 7, none⟩ (.int .i64 e')) = W := ⟨_, rfl⟩
    rw [hW3] at hw HWW ⊢
    replace HF := Lib.hid (And.intro (hw.cel HF.out.1 (by omega)) (And.intro (hw.cel HF.out.2.1 (by omega)) (show Cel W3 q n' s' a' b' g' t' d' e' from hw.cell)))
    clear hw hW3 HB
    obtain ⟨c0, c1, c2, c3, c4, c5, c6, c7⟩ := HF.out.1.cs
    obtain ⟨k0, k1, k2, k3, k4, k5, k6, k7⟩ := HF.out.2.1.cs
    have ofz := HF.out.2.2.fz
    have hbs := Below.refl W3.heap.size W3
    go_wp2_with (go_at_call 125; (with_reducible refine (HJ.out _).mono ?_); rintro e9 w4 ⟨rfl, hb4⟩; (replace hbs := (hbs.alloc hbs.size (.cells #[.int .i64 d, .int .i64 e, .int .i64 d', .int .i64 e'] 73)).trans (hb4.mono (by simp))); obtain ⟨o0, o1, o2, o3, o4, o5, o6, o7⟩ := (HF.out.2.2.kept hbs).cs; have ofz := (HF.out.2.2.kept hbs).fz)
    refine bodyPost_ret (results_none rfl _ _ _) rfl ⟨rfl, ?_⟩
    rw [HT.out]
    exact HWW.out.trans (Wrote.of_dead n' s' a' b' g' t' d' e' hbs (HF.out.2.2.kept hbs) j k)
  | false =>
    have HT := Lib.hid (hT0 rfl)
    clear hT1 hT0
    obtain ⟨c0, c1, c2, c3, c4, c5, c6, c7⟩ := HF.out.1.cs
    obtain ⟨k0, k1, k2, k3, k4, k5, k6, k7⟩ := HF.out.2.1.cs
    have ofz := HF.out.2.2.fz
    go_upto_region 3 with (go_at_call 124; (with_reducible refine (HL.out _).mono ?_); rintro e9 w2 ⟨rfl, hb2⟩)
    replace HF := Lib.hid (And.intro (HF.out.1.kept hb2) (And.intro (HF.out.2.1.kept hb2) (HF.out.2.2.kept hb2)))
    replace HB := Lib.hid (HB.out.trans (hb2.mono HB.out.size))
    clear hb2 c0 c1 c2 c3 c4 c5 c6 c7 k0 k1 k2 k3 k4 k5 k6 k7
    obtain ⟨c0, c1, c2, c3, c4, c5, c6, c7⟩ := HF.out.1.cs
    obtain ⟨k0, k1, k2, k3, k4, k5, k6, k7⟩ := HF.out.2.1.cs
    have ofz := HF.out.2.2.fz
    have hbs := Below.refl w2.heap.size w2
    go_wp2_with (go_at_call 125; (with_reducible refine (HJ.out _).mono ?_); rintro e9 w4 ⟨rfl, hb4⟩; (replace hbs := (hbs.alloc hbs.size (.cells #[.int .i64 d, .int .i64 e, .int .i64 d', .int .i64 e'] 73)).trans (hb4.mono (by simp))); obtain ⟨o0, o1, o2, o3, o4, o5, o6, o7⟩ := (HF.out.2.2.kept hbs).cs; have ofz := (HF.out.2.2.kept hbs).fz)
    refine bodyPost_ret (results_none rfl _ _ _) rfl ⟨rfl, ?_⟩
    rw [HT.out]
    exact Wrote.of_dead n s a b g t d e (HB.out.trans (hbs.mono HB.out.size)) (HF.out.2.2.kept hbs) j k
end Go.Proofs.Ytidbjmkfmfojdaa
end

section
namespace Go.Proofs.Ytidbjmkfmfojdaa
open Go.RowKit Go Go.Sort
set_option linter.unusedVariables false
set_option maxRecDepth 20000

theorem own_kept {W W' : World} {B s k : Nat} {e : TypeId} {v : Value} {xs : List Value} (h : W.ownsRow B e s v k xs) (hb : Below W.heap.size W W') : W'.ownsRow B e s v k xs := by
  refine ⟨h.1, ?_⟩
  rcases h.2 with hn | ⟨g, cap, cur, rfl, hB, hg, rest⟩
  · exact .inl hn
  · exact .inr ⟨g, cap, cur, rfl, hB, by rw [hb.block g (Array.getElem?_eq_some_iff.1 hg).1]; exact hg, rest⟩
theorem own_mono {W : World} {B B' s k : Nat} {e : TypeId} {v : Value} {xs : List Value} (h : W.ownsRow B e s v k xs) (hB : B' ≤ B) : W.ownsRow B' e s v k xs := by
  refine ⟨h.1, ?_⟩
  rcases h.2 with hn | ⟨g, cap, cur, rfl, hb, rest⟩
  · exact .inl hn
  · exact .inr ⟨g, cap, cur, rfl, by omega, rest⟩
def cCells (l : List Cl) : List Value := l.flatMap (fun c => c.arr.toList)
theorem cCells_length (l : List Cl) : (cCells l).length = l.length * 8 := by
  induction l with
  | nil => rfl
  | cons c l ih => simp only [cCells, List.flatMap_cons, List.length_append, List.length_cons] at ih ⊢; rw [ih]; simp [Cl.arr]; omega
theorem cCells_get : ∀ (l : List Cl) (i j : Nat), i < l.length → j < 8 → (cCells l)[i * 8 + j]? = (l.getD i Cl.zero).arr[j]?
  | [], i, j, h, _ => by simp at h
  | c :: r, 0, j, _, hj => by
    simp only [cCells, List.flatMap_cons, List.getD_cons_zero, Nat.zero_mul, Nat.zero_add]
    rw [List.getElem?_append_left (by simp [Cl.arr]; omega)]
    simp
  | c :: r, i + 1, j, h, hj => by
    have := cCells_get r i j (by simpa using h) hj
    simp only [List.getD_cons_succ]
    rw [← this]
    simp only [cCells, List.flatMap_cons]
    rw [List.getElem?_append_right (by simp [Cl.arr]; omega)]
    congr 1
    simp [Cl.arr]
    omega
/-- A slice of the call's own that reads as the cells l. -/
def OwnC (w : World) (B : Nat) (v : Value) (l : List Cl) : Prop := w.ownsRow B 75 8 v l.length (cCells l)
theorem OwnC.nil (w : World) (B : Nat) : OwnC w B (.slice none 0 0) [] := World.ownsRow_nil _ _ _ _
theorem OwnC.cls {w : World} {B : Nat} {v : Value} {l : List Cl} (h : OwnC w B v l) : ∃ a cap, v = .slice a l.length cap ∧ Cls w a l.length cap l := by
  obtain ⟨h1, h2⟩ := h
  rcases h2 with ⟨rfl, hn⟩ | ⟨g, cap, cur, rfl, hb, hg, hnc, hcm, hcs, htake⟩
  · exact ⟨none, 0, by rw [hn], rfl, by omega, by omega, .inl rfl⟩
  · refine ⟨_, cap, rfl, rfl, hnc, by unfold maxLen at hcm; omega, .inr ⟨g, 0, rfl, fun i hi => ?_⟩⟩
    have key : ∀ j, j < 8 → w.cell? ⟨g, 0 + i * 8 + j, none⟩ = (l.getD i Cl.zero).arr[j]? := by
      intro j hj
      have c1 := cCells_get l i j hi hj
      rw [← htake, List.getElem?_take, if_pos (by omega)] at c1
      rw [Nat.zero_add, cell_of_row w g _ cur _ (0, 0) hg, ← c1]
      simp
    have key0 := key 0 (by omega)
    rw [Nat.add_zero] at key0
    exact ⟨key0, key 1 (by omega), key 2 (by omega), key 3 (by omega), key 4 (by omega), key 5 (by omega), key 6 (by omega), key 7 (by omega)⟩
theorem OwnC.kept {w w' : World} {B : Nat} {v : Value} {l : List Cl} (h : OwnC w B v l) (hb : Below w.heap.size w w') : OwnC w' B v l := own_kept h hb
theorem OwnC.mono {w : World} {B B' : Nat} {v : Value} {l : List Cl} (h : OwnC w B v l) (hB : B' ≤ B) : OwnC w B' v l := own_mono h hB
theorem OwnC.lt {w : World} {B : Nat} {v : Value} {l : List Cl} (h : OwnC w B v l) : ∀ k, v.ownBlock = some k → B ≤ k ∧ k < w.heap.size := World.ownsRow.lt h
theorem Try.infoC : (Try.prog.info? 75).map (fun i => (i.zero, i.size, i.bytes)) = some (some (.agg #[.int .i64 0, .int .i64 0, .int .i64 0, .int .i64 0, .bool false, .string ⟨#[]⟩, .int .i64 0, .int .i64 0]), 8, 72) := by kernel_rfl
end Go.Proofs.Ytidbjmkfmfojdaa
end

section
namespace Go.Proofs.Ytidbjmkfmfojdaa
open Go.RowKit Go Go.Sort
set_option linter.unusedVariables false
set_option maxRecDepth 20000

/-- A list that lies in memory: 'arr' tells the cells of an element, sz of them. -/
structure Ls {α : Type} (sz : Nat) (arr : α → Array Value) (z : α) (w : World) (a : Option Addr) (n cap : Nat) (l : List α) : Prop where
  len : l.length = n
  le : n ≤ cap
  max : cap ≤ 9223372036854775807
  adr : cap = 0 ∨ ∃ b off, a = some ⟨b, off, none⟩ ∧ ∀ i, i < n → ∀ j v, (arr (l.getD i z))[j]? = some v → w.cell? ⟨b, off + i * sz + j, none⟩ = some v
section
variable {α : Type} {sz : Nat} {arr : α → Array Value} {z : α}
theorem Ls.below {w w' : World} {a : Option Addr} {n cap : Nat} {l : List α} (h : Ls sz arr z w a n cap l) (hb : Below w.heap.size w w') : Ls sz arr z w' a n cap l := by
  refine ⟨h.len, h.le, h.max, ?_⟩
  rcases h.adr with h4 | ⟨b, off, rfl, hc⟩
  · exact .inl h4
  · exact .inr ⟨b, off, rfl, fun i hi j v hj => (hb.cell (World.block_lt_of_cell? w _ (hc i hi j v hj))).trans (hc i hi j v hj)⟩
/-- What a place holds, in every world in which nothing of the old is turned. -/
theorem Ls.at {w : World} {a : Option Addr} {n cap : Nat} {l : List α} (h : Ls sz arr z w a n cap l) {k : Nat} (hk : k < n) :
    ∃ b off, a = some ⟨b, off, none⟩ ∧ ∀ W, Below w.heap.size w W → ∀ j v, (arr (l.getD k z))[j]? = some v → W.cell? ⟨b, off + k * sz + j, none⟩ = some v := by
  have := h.le
  rcases h.adr with h4 | ⟨b, off, rfl, hc⟩
  · omega
  · exact ⟨b, off, rfl, fun W hb j v hj => (hb.cell (World.block_lt_of_cell? w _ (hc k hk j v hj))).trans (hc k hk j v hj)⟩
theorem Ls.nil (w : World) : Ls sz arr z w none 0 0 [] := ⟨rfl, Nat.le_refl _, by omega, .inl rfl⟩
theorem Ls.take {w : World} {a : Option Addr} {n cap : Nat} {l : List α} (h : Ls sz arr z w a n cap l) {k : Nat} (hk : k ≤ n) : Ls sz arr z w a k cap (l.take k) := by
  have hl := h.len
  have hle := h.le
  refine ⟨by rw [List.length_take]; omega, by omega, h.max, ?_⟩
  rcases h.adr with h4 | ⟨b, off, rfl, hc⟩
  · exact .inl h4
  · refine .inr ⟨b, off, rfl, fun i hi => ?_⟩
    have := hc i (by omega)
    rw [List.getD_eq_getElem?_getD] at this ⊢
    rwa [List.getElem?_take_of_lt hi]
/-- The cells of a list. -/
def lCells (arr : α → Array Value) (l : List α) : List Value := l.flatMap (fun c => (arr c).toList)
theorem lCells_length (hs : ∀ c, (arr c).size = sz) (l : List α) : (lCells arr l).length = l.length * sz := by
  induction l with
  | nil => simp [lCells]
  | cons c l ih =>
    simp only [lCells, List.flatMap_cons, List.length_append, List.length_cons] at ih ⊢
    rw [ih, Array.length_toList, hs c, Nat.succ_mul]
    omega
theorem lCells_append (l m : List α) : lCells arr (l ++ m) = lCells arr l ++ lCells arr m := by simp [lCells]
theorem lCells_get (hs : ∀ c, (arr c).size = sz) : ∀ (l : List α) (i j : Nat), i < l.length → j < sz → (lCells arr l)[i * sz + j]? = (arr (l.getD i z))[j]?
  | [], i, j, h, _ => by simp at h
  | c :: r, 0, j, _, hj => by
    simp only [lCells, List.flatMap_cons, List.getD_cons_zero, Nat.zero_mul, Nat.zero_add]
    rw [List.getElem?_append_left (by rw [Array.length_toList, hs]; exact hj)]
    simp
  | c :: r, i + 1, j, h, hj => by
    have := lCells_get hs r i j (by simpa using h) hj
    simp only [List.getD_cons_succ]
    rw [← this]
    simp only [lCells, List.flatMap_cons]
    rw [List.getElem?_append_right (by rw [Array.length_toList, hs, Nat.succ_mul]; omega), Array.length_toList, hs]
    congr 1
    rw [Nat.succ_mul]
    omega
/-- A slice of the call's own that reads as the list l. -/
def OwnL (sz : Nat) (ty : TypeId) (arr : α → Array Value) (w : World) (B : Nat) (v : Value) (l : List α) : Prop := w.ownsRow B ty sz v l.length (lCells arr l)
theorem OwnL.nil (ty : TypeId) (w : World) (B : Nat) : OwnL sz ty arr w B (.slice none 0 0) [] := World.ownsRow_nil _ _ _ _
theorem OwnL.ls {ty : TypeId} {w : World} {B : Nat} {v : Value} {l : List α} (hs : ∀ c, (arr c).size = sz) (h : OwnL sz ty arr w B v l) : ∃ a cap, v = .slice a l.length cap ∧ Ls sz arr z w a l.length cap l := by
  obtain ⟨h1, h2⟩ := h
  rcases h2 with ⟨rfl, hn⟩ | ⟨g, cap, cur, rfl, hb, hg, hnc, hcm, hcs, htake⟩
  · exact ⟨none, 0, by rw [hn], rfl, by omega, by omega, .inl rfl⟩
  · refine ⟨_, cap, rfl, rfl, hnc, by unfold maxLen at hcm; omega, .inr ⟨g, 0, rfl, fun i hi j v hj => ?_⟩⟩
    have hjs : j < sz := by have := (Array.getElem?_eq_some_iff.1 hj).1; rwa [hs] at this
    have c1 := lCells_get (z := z) hs l i j hi hjs
    have hlt : i * sz + j < l.length * sz := by
      have h9 : (i + 1) * sz ≤ l.length * sz := Nat.mul_le_mul_right sz hi
      rw [Nat.succ_mul] at h9
      omega
    rw [← htake, List.getElem?_take, if_pos hlt, hj] at c1
    rw [Nat.zero_add, cell_of_row w g _ cur _ (0, 0) hg, ← c1]
    simp
theorem OwnL.kept {ty : TypeId} {w w' : World} {B : Nat} {v : Value} {l : List α} (h : OwnL sz ty arr w B v l) (hb : Below w.heap.size w w') : OwnL sz ty arr w' B v l := own_kept h hb
theorem OwnL.mono {ty : TypeId} {w : World} {B B' : Nat} {v : Value} {l : List α} (h : OwnL sz ty arr w B v l) (hB : B' ≤ B) : OwnL sz ty arr w B' v l := own_mono h hB
theorem OwnL.lt {ty : TypeId} {w : World} {B : Nat} {v : Value} {l : List α} (h : OwnL sz ty arr w B v l) : ∀ k, v.ownBlock = some k → B ≤ k ∧ k < w.heap.size := World.ownsRow.lt h
theorem OwnL.of_block {ty : TypeId} {w w' : World} {B : Nat} {v : Value} {l : List α} (h : OwnL sz ty arr w B v l) (hb : ∀ q, v.ownBlock = some q → w'.heap[q]? = w.heap[q]?) : OwnL sz ty arr w' B v l := by
  obtain ⟨hlen, ⟨ev, hn⟩ | ⟨g, cap, cur, ev, hB, hg, hnc, hcm, hcs, htake⟩⟩ := h
  · exact ⟨hlen, .inl ⟨ev, hn⟩⟩
  · exact ⟨hlen, .inr ⟨g, cap, cur, ev, hB, (hb g (by subst ev; rfl)).trans hg, hnc, hcm, hcs, htake⟩⟩
/-- append(v, c), v of the call's own: one element. -/
theorem wpList_append_el {P : Program} {w : World} {ops : Array Oper} {rest : List Oper} {o : Oper} {ac : Act} {Q : Exit → Act → World → Prop} (hgd : o.guard = none) (os ox : Operand) (t ty : TypeId) (i0 : TypeInfo) (zv : Value) (bytes : Nat)
    (ho : o.op = .call { callee := .builtin .append, args := #[os, ox], argTypes := #[t, t] }) (ht : P.underlying t = some (.slice ty)) (hi : P.info? ty = some i0) (hz0 : i0.zero = some zv) (hz1 : i0.size = sz) (hz2 : i0.bytes = bytes) (hzs : zv.cells.size = sz) (hsz : 0 < sz)
    {base : Nat} {v : Value} {l : List α} (hs : ac.eval os = v) (hown : OwnL sz ty arr w base v l) (c : α) {cells : Array Value} (hc : arr c = cells) (hcs : cells.size = sz) (hone : ∀ u ∈ cells.toList, u.oneCell' = true) {e9 : TypeId}
    (hx : ac.eval ox = .slice (some ⟨w.heap.size, 0, none⟩) 1 1) (h63 : l.length + 1 ≤ maxLen) (hbytes : ((l.length + 1) + (l.length + 1) / 4 + 192) * bytes ≤ 281474976710656) (hbase : base ≤ w.heap.size)
    (h : ∀ v' w', OwnL sz ty arr w' base v' (l ++ [c]) → (w.alloc (.cells cells e9)).grownBy w' v.ownBlock → wpList P ops Q rest (ac.put o.dst v') w') :
    wpList P ops Q (o :: rest) ac (w.alloc (.cells cells e9)) := by
  refine wpList_append_own_wide (P := P) (w.alloc (.cells cells e9)) hgd os ox t ho base ty i0 zv sz bytes ht hi hz0 hz1 hz2 hzs hsz v l.length (lCells arr l) hs (World.ownsRow.alloc hown _)
    ⟨w.heap.size, 0, none⟩ 1 1 cells.toList hx (by rw [Array.length_toList, hcs, Nat.one_mul]) ?_ hone h63 hbytes (by simp; omega) ?_
  · intro j u hj
    rw [addr_add, Nat.zero_add, cell_of_row _ _ j cells e9 (0, 0) (by rw [heap_alloc_new])]
    rw [← hj]; simp
  · intro v' w' h2 h3 _
    refine h v' w' ?_ h3
    unfold OwnL
    rw [List.length_append, lCells_append]
    have e : lCells arr [c] = cells.toList := by simp [lCells, hc]
    rw [e]
    exact h2
end
end Go.Proofs.Ytidbjmkfmfojdaa
end

section
namespace Go.Proofs.Ytidbjmkfmfojdaa
open Go Go.RowKit
set_option linter.unusedVariables false

section
variable {F : Fence} {m : Nat} {P : Program} {ops : Array Oper} {md : Region.Mode}

theorem uponIn_weak {o : Oper} {a : Act} {K K' : Act → World → Prop} {Q Q' : Exit → Act → World → Prop} (hK : ∀ a w, K a w → K' a w) (hQ : ∀ e a w, Q e a w → e = .normal) (r : Result Next) (h : o.uponIn F m P a K Q r) : o.uponIn F m P a K' Q' r := by
  cases r with
  | ok x w' =>
    cases x with
    | value v => exact hK _ _ h
    | skip => exact hK _ _ h
    | defer d => exact hK _ _ h
    | enter f args => 
      refine ⟨h.1, CallsIn.mono h.2 fun e w'' he => ?_⟩
      cases e with
      | returned v => exact hK _ _ he
      | panicked c => exact absurd (hQ _ _ _ he) (by simp)
      | outgrown => exact absurd (hQ _ _ _ he.choose_spec.choose_spec) (by simp)
    | row r args => exact ⟨h.1, RowsIn.mono h.2 fun v w'' he => hK _ _ he⟩
    | round l f tmps assign body => 
      refine ⟨h.1, RoundIn.mono h.2 fun e w'' he => ?_⟩
      cases e with
      | returned v => exact hK _ _ he
      | panicked c => exact absurd (hQ _ _ _ he) (by simp)
      | outgrown => exact absurd (hQ _ _ _ he.choose_spec.choose_spec) (by simp)
    | _ => exact h
  | halt x w' =>
    cases x with
    | panic v => exact absurd (hQ _ _ _ h) (by simp)
    | _ => exact h
theorem wpOpIn_of_one {i : Nat} {o : Oper} {a : Act} {w : World} {K : Act → World → Prop} {Q Q' : Exit → Act → World → Prop} (ho : ops[i]? = some o) (hK : ∀ a w, Q' .normal a w → K a w) (hQ : ∀ e a w, Q' e a w → e = .normal)
    (h : wpListIn F m P ops Q' [o] a w) : wpOpIn F m P ops Q i K a w := by
  unfold wpOpIn
  simp only [ho]
  unfold wpListIn at h
  split
  · rename_i hw
    rw [if_pos hw] at h
    exact ⟨h.1, uponIn_weak (fun a w h => hK a w h) hQ _ h.2⟩
  · rename_i hw
    rw [if_neg hw] at h
    exact ⟨h.1, hK _ _ h.2⟩
theorem wpAnyIn_of_seq {n : Nat} {Q' : Exit → Act → World → Prop} : ∀ (l : List Oper) (k : Nat) (listed : Array Bool) (a : Act) (w : World), (∀ j, l[j]? = ops[k + j]?) →
    Region.seqB md ops l.length k listed = true → wpListIn F n P ops Q' l a w → wpAnyIn F n P md ops Q' l.length listed a w
  | [], _, _, _, _, _, hB, h => ⟨by simpa [Region.seqB] using hB, h⟩
  | o :: l, k, listed, a, w, hl, hB, h => by
    have h0 : ops[k]? = some o := by simpa using (hl 0).symm
    simp only [List.length_cons, Region.seqB, Bool.and_eq_true, decide_eq_true_eq] at hB
    refine ⟨fun h1 => (by rw [hB.1] at h1; cases h1), fun i hi => ?_⟩
    rw [hB.1] at hi
    have hik : i = k := by simpa using hi
    subst hik
    have hw : wpOpIn F n P ops Q' i (wpListIn F n P ops Q' l) a w := by unfold wpOpIn; simp only [h0]; exact h
    exact wpOpIn_mono (fun a' w' h' => wpAnyIn_of_seq l (i + 1) _ a' w' (fun j => by have := hl (j + 1); simpa [Nat.add_assoc, Nat.add_comm 1 j] using this) hB.2 h') hw

theorem wpAnyIn_flow_tail {Q : Exit → Act → World → Prop} (act : (Nat → Value) → Act) (R : World → World → Prop) (G : Nat → Value → World → Prop) (Fr : Nat → Prop) (w0 : World) (n : Nat) (l : List Oper) (hl : l.toArray = ops)
    (hn : n < ops.size) (hs : Region.sinkB md ops n = true) (hc : Region.chainB md ops n = true) (hseq : Region.seqB md ops (ops.size - n) n (headDone n (ops.size - n)) = true)
    (hR : ∀ a b c, R a b → R b c → R a c) (hG : ∀ i v w w', R w0 w → R w w' → G i v w → G i v w')
    (hwf : ∀ i o, ops[i]? = some o → i < n → ∀ e ∈ o.after, Region.binds md e = true → e.on < i)
    (hput : ∀ i o xs v, ops[i]? = some o → i < n → (act xs).put o.dst v = act (fun j => if j = i then v else xs j))
    (hop : ∀ i o, ops[i]? = some o → i < n → ∀ xs w, R w0 w → (∀ e ∈ o.after, Region.binds md e = true → G e.on (xs e.on) w) → wpListIn F m P ops (FlowEndF (act xs) o R G Fr i w) [o] (act xs) w)
    (hend : ∀ xs w, R w0 w → (∀ i, i < n → G i (xs i) w) → (∀ i j, i < n → j < n → i ≠ j → Fr i → Fr j → xs i ≠ xs j) → wpListIn F m P ops Q (l.drop n) (act xs) w) :
    ∀ (f : Nat) (listed : Array Bool) (xs : Nat → Value) (w : World), R w0 w → HeadInv md ops n listed → listed.toList.count false = f → (∀ i, i < n → listed.getD i true = true → G i (xs i) w) →
      (∀ i j, i < n → j < n → i ≠ j → Fr i → Fr j → listed.getD i true = true → listed.getD j true = true → xs i ≠ xs j) → wpAnyIn F m P md ops Q f listed (act xs) w := by
  intro f
  induction f with
  | zero =>
    intro listed xs w hw inv hcn hg hfr
    exfalso
    have hsz := inv.size
    have h1 := inv.tail n (Nat.le_refl _) hn
    have h2 : n < listed.size := by omega
    simp only [Array.getD_eq_getD_getElem?, Array.getElem?_eq_getElem h2, Option.getD_some] at h1
    have : false ∈ listed.toList := by rw [← h1]; simp
    have := List.count_pos_iff.2 this
    omega
  | succ f ih =>
    intro listed xs w hw inv hcn hg hfr
    have hsz := inv.size
    by_cases hall : ∀ i, i < n → listed.getD i true = true
    · have hd := headDone_of hn inv hall
      have hcount : (headDone n (ops.size - n)).toList.count false = ops.size - n := by
        simp [headDone, List.count_replicate]
      rw [hd, hcount] at hcn
      have hlen : (l.drop n).length = ops.size - n := by rw [← hl]; simp
      have := wpAnyIn_of_seq (F := F) (n := m) (P := P) (md := md) (ops := ops) (Q' := Q) (l.drop n) n (headDone n (ops.size - n)) (act xs) w (fun j => by rw [← hl]; simp [List.getElem?_drop]) (by rw [hlen]; exact hseq) (hend xs w hw (fun i hi => hg i hi (hall i hi)) fun i j hi hj hne fi fj => hfr i j hi hj hne fi fj (hall i hi) (hall j hj))
      rw [hlen] at this
      rw [hd]
      rw [hcn] at this ⊢
      exact this
    · have hex : ∃ i, i < n ∧ listed.getD i true = false := by
        apply Classical.byContradiction
        intro hne
        apply hall
        intro i hi
        cases hx : listed.getD i true with
        | true => rfl
        | false => exact absurd ⟨i, hi, hx⟩ hne
      refine ⟨fun hr => ?_, fun i hi => ?_⟩
      · exfalso
        apply hall
        intro i
        induction i using Nat.strongRecOn with
        | _ i ihi =>
          intro hi
          cases hlx : listed.getD i true with
          | true => rfl
          | false =>
            have hio : i < ops.size := by omega
            have : i ∈ Region.ready md ops listed := by
              refine mem_ready.2 ⟨hlx, ops[i], by simp [hio], fun e he hb => ?_⟩
              have hlt := hwf i ops[i] (by simp [hio]) hi e he hb
              have h1 := ihi e.on hlt (by omega)
              have h2 : e.on < listed.size := by omega
              simp only [Array.getD_eq_getD_getElem?, Array.getElem?_eq_getElem h2, Option.getD_some] at h1 ⊢
              exact h1
            rw [hr] at this
            cases this
      · obtain ⟨i0, hi0, hx0⟩ := hex
        have hin : i < n := Nat.lt_of_not_le fun h => tail_waits hs hc hn inv (n - i0) i0 rfl hi0 hx0 i h hi
        obtain ⟨hun, o, ho, hdep⟩ := mem_ready.1 hi
        have hilt := (Array.getElem?_eq_some_iff.1 ho).1
        refine wpOpIn_of_one ho (fun a' w' h => ?_) (fun e a' w' h => h.1) (hop i o ho hin xs w hw fun e he hb => ?_)
        · obtain ⟨_, v, rfl, hww, hv, hfv⟩ := h
          rw [hput i o xs v ho hin]
          refine ih _ _ w' (hR _ _ _ hw hww) (inv.set hi hin) ?_ (fun j hj hlj => ?_) fun j k hj hk hne fj fk lj lk => ?_
          · have h2 : i < listed.size := by omega
            have h3 : listed[i] = false := by simpa [Array.getD_eq_getD_getElem?, Array.getElem?_eq_getElem h2] using hun
            have := count_set_one listed.toList i (by simp [h2, h3])
            rw [Array.toList_setIfInBounds]
            omega
          · by_cases hji : j = i
            · subst hji
              simpa using hv
            · rw [getD_set_ne true (Ne.symm hji)] at hlj
              simp only [if_neg hji]
              exact hG j _ w w' hw hww (hg j hj hlj)
          · by_cases hji : j = i
            · subst hji
              rw [getD_set_ne true hne] at lk
              simp only [if_neg (Ne.symm hne)]
              exact (hfv fj k fk _ (hg k hk lk)).symm
            · rw [getD_set_ne true (Ne.symm hji)] at lj
              by_cases hki : k = i
              · subst hki
                simp only [if_neg hne]
                exact hfv fk j fj _ (hg j hj lj)
              · rw [getD_set_ne true (Ne.symm hki)] at lk
                simp only [if_neg hji, if_neg hki]
                exact hfr j k hj hk hne fj fk lj lk
        · have h1 := hdep e he hb
          have hlt := hwf i o ho hin e he hb
          refine hg e.on (by omega) ?_
          have h3 : e.on < listed.size := by omega
          simp only [Array.getD_eq_getD_getElem?, Array.getElem?_eq_getElem h3, Option.getD_some] at h1 ⊢
          exact h1

def flowOpsI (F : Fence) (m : Nat) (P : Program) (md : Region.Mode) (ops : Array Oper) (a : Act) (srcs : List (Option Nat)) (Gs : List (Value → World → Prop)) (Fr : Nat → Prop) (R : World → World → Prop) (w0 : World) : List Oper → Nat → Prop
  | [], _ => True
  | o :: l, k => (∀ xs w, R w0 w → flowNeeds md Gs xs w o.after.toList → wpListIn F m P ops (FlowEndF (flowAct a srcs xs) o R (fun i => Gs.getD i fun _ _ => True) Fr k w) [o] (flowAct a srcs xs) w) ∧ flowOpsI F m P md ops a srcs Gs Fr R w0 l (k + 1)
theorem flowOpsI_get {a : Act} {srcs : List (Option Nat)} {Gs : List (Value → World → Prop)} {Fr : Nat → Prop} {R : World → World → Prop} {w0 : World} : ∀ (l : List Oper) (k : Nat), flowOpsI F m P md ops a srcs Gs Fr R w0 l k → ∀ i o, l[i]? = some o →
    ∀ xs w, R w0 w → flowNeeds md Gs xs w o.after.toList → wpListIn F m P ops (FlowEndF (flowAct a srcs xs) o R (fun i => Gs.getD i fun _ _ => True) Fr (k + i) w) [o] (flowAct a srcs xs) w
  | [], _, _, i, o, h => by simp at h
  | o' :: l, k, hh, 0, o, h => by
    obtain rfl : o' = o := by simpa using h
    exact hh.1
  | o' :: l, k, hh, i + 1, o, h => by
    have := flowOpsI_get l (k + 1) hh.2 i o (by simpa using h)
    rwa [show k + 1 + i = k + (i + 1) by omega] at this

theorem wpIn_region_flow {id : Nat} {Q : Exit → Act → World → Prop} {l : List Oper} {a : Act} {w : World} (R : World → World → Prop) (n : Nat) (srcs : List (Option Nat)) (xs0 : Nat → Value) (Gs : List (Value → World → Prop)) (Fr : Nat → Prop) (hm : P.follows .mixedOrders = true)
    (hB : flowTB .any l.toArray n srcs = true) (hT : (decide (n < l.toArray.size) && Region.sinkB .any l.toArray n && Region.chainB .any l.toArray n && Region.seqB .any l.toArray (l.toArray.size - n) n (headDone n (l.toArray.size - n))) = true)
    (hl : a.tmps.size = srcs.length) (h0 : flowAct a srcs xs0 = a) (hn : Gs.length = n)
    (hR : ∀ a b c, R a b → R b c → R a c) (hR0 : R w { w with drawn := w.drawn + 1 }) (hG : ∀ g ∈ Gs, ∀ v x y, R w x → R x y → g v x → g v y)
    (hops : flowOpsI F m P .any l.toArray a srcs Gs Fr R w (l.take n) 0)
    (hend : ∀ xs w', R w w' → flowAll xs w' Gs 0 → (∀ i j, i < n → j < n → i ≠ j → Fr i → Fr j → xs i ≠ xs j) → wpListIn F m P l.toArray Q (l.drop n) (flowAct a srcs xs) w') : (Code.region id l.toArray true).wpIn F m P Q a w := by
  simp only [Bool.and_eq_true, decide_eq_true_eq] at hT
  obtain ⟨⟨⟨t1, t2⟩, t3⟩, t4⟩ := hT
  have hB' := flowTB_take hB
  have tk : ∀ i o, l.toArray[i]? = some o → i < n → (l.take n).toArray[i]? = some o := fun i o ho hi => by
    simp only [List.getElem?_toArray] at ho ⊢
    rw [List.getElem?_take, if_pos hi]
    exact ho
  refine wpIn_region_any hm ?_
  have := wpAnyIn_flow_tail (F := F) (m := m) (P := P) (ops := l.toArray) (md := .any) (Q := Q) (flowAct a srcs) R (fun i => Gs.getD i fun _ _ => True) Fr w n l rfl t1 t2 t3 t4
    hR (fun i v x y h1 h2 h3 => ?_) (fun i o ho hi => (flowB_spec hB' (tk i o ho hi)).1) (fun i o xs v ho hi => flowAct_put hB' hl (tk i o ho hi) xs v)
    (fun i o ho hi xs x hx hn => by
      have := flowOpsI_get (l.take n) 0 hops i o (by simpa using tk i o ho hi) xs x hx (flowNeeds_of _ fun e he hb => hn e (by simpa using he) hb)
      rwa [Nat.zero_add] at this)
    (fun xs x hx hg hf => hend xs x hx (flowAll_of Gs 0 fun i hi => by rw [Nat.zero_add]; exact hg i (by omega)) hf)
    l.toArray.size (Array.replicate l.toArray.size false) xs0 { w with drawn := w.drawn + 1 } hR0
    ⟨by simp, fun j oj hj hl => (by rw [getD_replicate_false] at hl; cases hl), fun t _ ht => by
      rw [Array.getD_eq_getD_getElem?, Array.getElem?_eq_getElem (by simpa using ht)]; simp⟩ (by simp) (fun i hi hl => by
      exfalso
      rw [Array.getD_eq_getD_getElem?, Array.getElem?_eq_getElem (by simp at t1 ⊢; omega)] at hl
      simp at hl) (fun i j hi hj hne fi fj li lj => by
      exfalso
      rw [Array.getD_eq_getD_getElem?, Array.getElem?_eq_getElem (by simp at t1 ⊢; omega)] at li
      simp at li)
  · rwa [h0] at this
  · by_cases hi : i < Gs.length
    · have hm := List.getElem_mem hi
      rw [List.getD_eq_getElem?_getD, List.getElem?_eq_getElem hi] at h3 ⊢
      exact hG _ hm v x y h1 h2 h3
    · rw [List.getD_eq_getElem?_getD, List.getElem?_eq_none (by omega)]
      trivial
end
end Go.Proofs.Ytidbjmkfmfojdaa
end

section
namespace Go.Proofs.Ytidbjmkfmfojdaa
open Go.RowKit Go
set_option linter.unusedVariables false
variable {F : Fence} {n : Nat} {P : Program}

/-- What a round tells the iterator. -/
def TellsR {α : Type} (Kp : World → World → Prop) (G : α → Prop) (J Jx : List α → World → Prop) (pre : List α) (x : α) (W : World) (e : Ending) (W' : World) : Prop :=
  (e = .returned (.bool true) ∧ J (pre ++ [x]) W' ∧ Kp W W' ∧ G x) ∨ (e = .returned (.bool false) ∧ Jx (pre ++ [x]) W' ∧ Kp W W')

/-- What abides an iterator's steps: it turns walks, and cells of type T, that were laid since it began. -/
def AbidesC {β : Type} (B : Nat) (T : TypeId) (J : β → World → Prop) : Prop :=
  ∀ s W W' row, J s W → W.grownBy W' row → (∀ r, row = some r → B ≤ r ∧ ∃ o : Obj, W.heap[r]? = some o ∧ (o.isWalk = true ∨ ∃ cs fr, o = .cells cs T fr)) → J s W'
def OwnT {β : Type} (B : Nat) (T : TypeId) (I : β → World → Prop) : Prop :=
  ∀ s W W' row, I s W → W.grownBy W' row → (∀ r, row = some r → B ≤ r ∧ ∃ o : Obj, W.heap[r]? = some o ∧ (o.isCells = false ∨ ∃ cs fr, o = .cells cs T fr)) → I s W'
theorem OwnT.from {β : Type} {B : Nat} {T : TypeId} {I : β → World → Prop} (h : OwnT B T I) : OwnFrom B I :=
  fun s W W' row hs hg hr => h s W W' row hs hg (fun r e => by obtain ⟨hB, o, ho, hc⟩ := hr r e; exact ⟨hB, o, ho, .inl hc⟩)
/-- The iterator's word. -/
def SeqTells {α : Type} (F : Fence) (n : Nat) (P : Program) (T : TypeId) (g : Nat) (lb : Array Value) (encs : α → Array Value) (Kp : World → World → Prop) (Qx : List α → α → Prop) (G : α → Prop) (S Sp : List α → World → Prop) (w : World) : Prop :=
  ∀ (l : Nat) (J Jx : List α → World → Prop) (W : World), Below w.heap.size w W → AbidesC W.heap.size T J →
    (∀ pre x W1, J pre W1 → Qx pre x → YieldAt F (n - 1) P l (encs x) W1 (TellsR Kp G J Jx pre x W1)) → J [] W →
    CallsIn F n P g (#[.func (.yield l) #[] #[]] ++ lb) W fun e W' => (∃ v, e = .returned v) ∧ ((∃ xs, S xs W' ∧ J xs W') ∨ (∃ pre, Sp pre W' ∧ Jx pre W'))

/-- How the body of a round may be left. -/
def RoundPost {α : Type} (B : Nat) (Kp : World → World → Prop) (G : α → Prop) (I : List α → World → Prop) (Ix : Code → List α → World → Prop) (pre : List α) (x : α) (W : World) : Exit → Act → World → Prop
  | .normal, _, W' => KeepsFrom B W W' ∧ Kp W W' ∧ G x ∧ I (pre ++ [x]) W'
  | .ret, _, W' => KeepsFrom B W W' ∧ Kp W W' ∧ Ix .ret (pre ++ [x]) W'
  | .exit id, _, W' => KeepsFrom B W W' ∧ Kp W W' ∧ Ix (.exit id) (pre ++ [x]) W'
  | .goto t, _, W' => KeepsFrom B W W' ∧ Kp W W' ∧ Ix (.goto t) (pre ++ [x]) W'
  | .panic _, _, _ => False
  | .outgrown, _, _ => False

theorem wpIn_range_tells {α : Type} {g : Operand} {ps : Array Tmp} {assign body : Code} {Q : Exit → Act → World → Prop} {a : Act} {w : World}
    (hro : F.round = none) (h1 : 1 ≤ n) {gf : Nat} {lb : Array Value} (hg : a.eval g = .func (.func gf) #[] lb) (hFg : F.fn gf) (eg : ∀ args w, (callFunc gf args).run P w = .ok (.enter gf args) w)
    {encs : α → Array Value} {Kp : World → World → Prop} {Qx : List α → α → Prop} {G : α → Prop} {S Sp : List α → World → Prop} {T : TypeId} (hseq : SeqTells F (n - 1) P T gf lb encs Kp Qx G S Sp w)
    (hKt : ∀ {A B C : World}, Kp A B → Kp B C → Kp A C) (hKb : ∀ (W : World) (l : Nat) (o o' : Obj), w.heap.size ≤ l → W.heap[l]? = some o → o.isCells = false → o.isWalk = false → Kp W (W.putObj l o'))
    (hS : OwnFrom w.heap.size S) (hSp : OwnFrom w.heap.size Sp) (hps : ∀ x, (encs x).size = ps.size)
    (I : List α → World → Prop) (Ix : Code → List α → World → Prop) (hI : OwnT w.heap.size T I) (hIx : ∀ c, OwnFrom w.heap.size (Ix c)) (h0 : I [] w) (Ax : α → Act → World → Prop) (hAx : ∀ x a', OwnFrom w.heap.size (fun (_ : Unit) W => Ax x a' W))
    (hassign : ∀ (l : Nat) (pre : List α) (x : α) (W : World) (K : Act → World → Prop), I pre W → Qx pre x → (∀ a' W', KeepsFrom w.heap.size W W' → Kp W W' → I pre W' → Ax x a' W' → K a' W') →
      assign.wpIn (F.inRound l) (n - 1 - 1) P (Exit.then K (fun _ _ _ => False)) { tmps := (ps.zip (encs x)).foldl (fun t (p, v) => t.setIfInBounds p v) a.tmps, defers := [] } W)
    (hbody : ∀ (l : Nat) (pre : List α) (x : α) (a' : Act) (W : World), I pre W → Ax x a' W → Qx pre x → body.wpIn (F.inRound l) (n - 1 - 1) P (RoundPost w.heap.size Kp G I Ix pre x W) a' W)
    (hdone : ∀ (D : Nat) (xs : List α) (W : World), w.heap.size ≤ D → S xs W → I xs W → W.heap[D]? = some (.deferred (some [])) → Q .normal { a with defers := { target := .collected D, args := #[] } :: a.defers } W)
    (hstop : ∀ (D : Nat) (c : Code) (pre : List α) (W : World), w.heap.size ≤ D → Sp pre W → Ix c pre W → W.heap[D]? = some (.deferred (some [])) → c.wpIn F n P Q { a with defers := { target := .collected D, args := #[] } :: a.defers } W) :
    (Code.rangeFunc g ps assign body).wpIn F n P Q a w := by
  refine wpIn_rangeFunc fun fn hfn => ?_
  rw [hro]
  obtain ⟨rec, hrec⟩ : ∃ rec : LoopState → Option Code → Loop, rec = fun st pe => { state := st, pending := pe, fn, tmps := a.tmps, params := ps, assign, body, defers := w.heap.size } := ⟨_, rfl⟩
  obtain ⟨W1, hW1⟩ : ∃ W1, (w.alloc (.deferred (some []))).alloc (.loop (rec .ready none)) = W1 := ⟨_, rfl⟩
  have hL1 : W1.heap[w.heap.size + 1]? = some (.loop (rec .ready none)) := by
    rw [← hW1]; have := World.alloc_heap_new (w.alloc (.deferred (some []))) (.loop (rec .ready none)); rwa [World.size_alloc] at this
  have hK1 : W1.heap[w.heap.size]? = some (.deferred (some [])) := by
    rw [← hW1]; exact (Below.heap_alloc _ _ _ (by simp)).trans (World.alloc_heap_new w _)
  have hI1 : I [] W1 := by rw [← hW1]; exact hI.from.alloc _ (hI.from.alloc _ h0)
  have hb1 : Below w.heap.size w W1 := by
    rw [← hW1]; exact ((Below.refl _ w).alloc (Nat.le_refl _) _).alloc (by simp) _
  refine ⟨w.heap.size + 1, [{ target := .collected w.heap.size, args := #[] }], W1, { target := .fn (.func gf) lb, args := #[.func (.yield (w.heap.size + 1)) #[] #[]] }, W1, gf,
    #[.func (.yield (w.heap.size + 1)) #[] #[]] ++ lb, W1, ?_,?_,?_,?_, fun _ => h1, ?_⟩
  · rw [← hW1, hrec]; exact run_enterLoop_outer _ _ _ _ _
  · simp only [resolve, hg]
    simp [go_sem]
  · intro f' hf'; simp [Target.leads] at hf'; subst hf'; exact hFg
  · simp [invoke, go_sem, eg]
  have hnw : ∀ {A B : World} {row : Option Nat}, (∀ r, row = some r → W1.heap.size ≤ r ∧ ∃ o : Obj, A.heap[r]? = some o ∧ (o.isWalk = true ∨ ∃ cs fr, o = .cells cs T fr)) → (∀ r, row = some r → w.heap.size ≤ r ∧ ∃ o : Obj, A.heap[r]? = some o ∧ (o.isCells = false ∨ ∃ cs fr, o = .cells cs T fr)) :=
    fun hr r e => by obtain ⟨hB, o, ho, hw⟩ := hr r e; exact ⟨by have := hb1.size; omega, o, ho, hw.imp_left Obj.not_cells_of_walk⟩
  have hloop : ∀ {A B : World} {row : Option Nat} {k : Nat} {o : Obj}, A.grownBy B row → (∀ r, row = some r → W1.heap.size ≤ r ∧ ∃ o : Obj, A.heap[r]? = some o ∧ (o.isWalk = true ∨ ∃ cs fr, o = .cells cs T fr)) → A.heap[k]? = some o → o.isWalk = false → o.isCells = false → B.heap[k]? = some o :=
    fun hg hr hk h1 h2 => (hg.block _ (Array.getElem?_eq_some_iff.1 hk).1 (fun e => by
      obtain ⟨_, o', ho, hc⟩ := hr _ e.symm
      rw [hk] at ho
      cases ho
      rcases hc with hc | ⟨cs, fr, hc⟩
      · rw [hc] at h1; cases h1
      · rw [hc] at h2; cases h2)).trans hk
  refine (hseq (w.heap.size + 1)
    (fun pre W => I pre W ∧ W.heap[w.heap.size + 1]? = some (.loop (rec .ready none)) ∧ W.heap[w.heap.size]? = some (.deferred (some [])))
    (fun pre W => ∃ c, Ix c pre W ∧ W.heap[w.heap.size + 1]? = some (.loop (rec .done (some c))) ∧ W.heap[w.heap.size]? = some (.deferred (some [])))
    W1 hb1
    (fun s A B row hs hg' hr => ⟨hI s A B row hs.1 hg' (hnw (B := B) hr), hloop hg' hr hs.2.1 rfl rfl, hloop hg' hr hs.2.2 rfl rfl⟩)
    ?_ ⟨hI1, hL1, hK1⟩).mono ?_
  · -- one round
    rintro pre x W ⟨hi, hl, hk⟩ hqx
    have hy := run_yield (P := P) (args := encs x) hl (by rw [hrec]; exact hps x)
    rw [hrec] at hy
    refine ⟨fn, _, assign, body, hy, roundIn_of_wpIn hfn (hassign _ pre x W _ hi hqx ?_)⟩
    clear hy
    intro a' Wa hkfa hkpa hia hax
    have hla := hkfa.same _ _ (by omega) hl rfl
    have hka := hkfa.same _ _ (Nat.le_refl _) hk rfl
    have hlt : w.heap.size + 1 < Wa.heap.size := (Array.getElem?_eq_some_iff.1 hla).1
    refine ⟨_, run_beginRound hla (by rw [hrec]), ?_⟩
    obtain ⟨Wb, hWb⟩ : ∃ Wb, Wa.putObj (w.heap.size + 1) (.loop { rec .ready none with state := .busy }) = Wb := ⟨_, rfl⟩
    have hlb : Wb.heap[w.heap.size + 1]? = some (.loop { rec .ready none with state := .busy }) := by rw [← hWb]; exact World.putObj_heap_same hlt
    have hkb : Wb.heap[w.heap.size]? = some (.deferred (some [])) := by rw [← hWb]; exact (World.putObj_heap_other (by omega)).trans hka
    have hwb : Kp W Wb := hKt hkpa (by rw [← hWb]; exact hKb _ _ _ _ (by omega) hla rfl rfl)
    have hib : I pre Wb := by rw [← hWb]; exact hI.from.putObj _ hia (by omega) hla rfl
    have hab : Ax x a' Wb := by rw [← hWb]; exact (hAx x a').putObj (s := ()) _ hax (by omega) hla rfl
    rw [hWb]
    refine wpIn_mono (hbody _ pre x a' Wb hib hab hqx) ?_
    have fin : ∀ (jump : Option Code) (W3 : World), KeepsFrom w.heap.size Wb W3 → Kp Wb W3 →
        ∃ W4, (Instr.endRound (w.heap.size + 1) jump).run P W3 = .ok (.bool jump.isNone) W4 ∧ W4 = W3.putObj (w.heap.size + 1) (.loop (rec (if jump.isNone then .ready else .done) jump)) ∧
        W3.heap[w.heap.size + 1]? = some (.loop { rec .ready none with state := .busy }) ∧
        W4.heap[w.heap.size + 1]? = some (.loop (rec (if jump.isNone then .ready else .done) jump)) ∧ W4.heap[w.heap.size]? = some (.deferred (some [])) ∧ Kp W W4 := fun jump W3 hk3 hp3 => by
      have hl3 := hk3.same _ _ (by omega) hlb rfl
      have hr := run_endRound (P := P) jump hl3
      rw [hrec] at hr
      refine ⟨_, hr, by rw [hrec], hl3, ?_,?_, hKt hwb (hKt hp3 (hKb _ _ _ _ (by omega) hl3 rfl rfl))⟩
      · rw [hrec]; exact World.putObj_heap_same (Array.getElem?_eq_some_iff.1 hl3).1
      · exact (World.putObj_heap_other (by omega)).trans (hk3.same _ _ (Nat.le_refl _) hkb rfl)
    have leaves : ∀ (c : Code) (W3 : World), KeepsFrom w.heap.size Wb W3 → Kp Wb W3 → Ix c (pre ++ [x]) W3 → ∃ v W4, (Instr.endRound (w.heap.size + 1) (some c)).run P W3 = .ok v W4 ∧
        TellsR Kp G (fun pre W => I pre W ∧ W.heap[w.heap.size + 1]? = some (.loop (rec .ready none)) ∧ W.heap[w.heap.size]? = some (.deferred (some [])))
          (fun pre W => ∃ c, Ix c pre W ∧ W.heap[w.heap.size + 1]? = some (.loop (rec .done (some c))) ∧ W.heap[w.heap.size]? = some (.deferred (some []))) pre x W (.returned v) W4 := fun c W3 hk3 hp3 hi3 => by
      obtain ⟨W4, hr, rfl, hl3, hl4, hk4, hp4⟩ := fin (some c) W3 hk3 hp3
      exact ⟨_, _, hr, .inr ⟨rfl, ⟨c, (hIx _).putObj _ hi3 (by omega) hl3 rfl, hl4, hk4⟩, hp4⟩⟩
    rintro e a3 W3 hp
    cases e with
    | normal =>
      obtain ⟨hk3, hp3, hgx, hi3⟩ := hp
      obtain ⟨W4, hr, rfl, hl3, hl4, hk4, hp4⟩ := fin none W3 hk3 hp3
      exact ⟨_, _, hr, .inl ⟨rfl, ⟨hI.from.putObj _ hi3 (by omega) hl3 rfl, hl4, hk4⟩, hp4, hgx⟩⟩
    | ret => exact leaves .ret W3 hp.1 hp.2.1 hp.2.2
    | exit id => exact leaves (.exit id) W3 hp.1 hp.2.1 hp.2.2
    | goto t => exact leaves (.goto t) W3 hp.1 hp.2.1 hp.2.2
    | panic ch => exact hp.elim
    | outgrown => exact hp.elim
  · -- behind the iterator
    rintro e W2 ⟨⟨v, rfl⟩, (⟨xs, hSx, hi, hl, hk⟩ | ⟨pre, hSx, c, hi, hl, hk⟩)⟩
    · exact ⟨none, _, by have := run_endLoop (P := P) hl (by rw [hrec]; simp); rw [hrec] at this; exact this, hdone _ xs _ (Nat.le_refl _) (hS.putObj _ hSx (by omega) hl rfl) (hI.from.putObj _ hi (by omega) hl rfl) ((World.putObj_heap_other (by omega)).trans hk)⟩
    · exact ⟨some c, _, by have := run_endLoop (P := P) hl (by rw [hrec]; simp); rw [hrec] at this; exact this, hstop _ c pre _ (Nat.le_refl _) (hSp.putObj _ hSx (by omega) hl rfl) ((hIx c).putObj _ hi (by omega) hl rfl) ((World.putObj_heap_other (by omega)).trans hk)⟩
end Go.Proofs.Ytidbjmkfmfojdaa
end

section
namespace Go.Proofs.Ytidbjmkfmfojdaa
open Go.RowKit Go Go.Sort
set_option linter.unusedVariables false
set_option maxRecDepth 20000

theorem wrote_no {c : Cl} (h : c.wrote = false) : c.key = Cl.zero.key := by
  obtain ⟨n, s, a, b, g, t, d, e⟩ := c
  simp [Cl.wrote, wroteS] at h
  obtain ⟨rfl, rfl, rfl, rfl, rfl, rfl⟩ := h
  rfl
/-- What is asked of a write, by a policy. -/
def Cl.gw (p : Int) (c : Cl) : Bool := (!(p == 2) || !c.g) && (!c.wrote || (sgood c.n c.s && (decide (0 < c.n) && (vgood c.a c.b && (decide (c.t.length ≤ 64) && (!c.g || c.t == []))))))
/-- What is asked of what has been deleted. -/
def Cl.gd (p : Int) (c : Cl) : Bool := (p == 1 && zeroS c.d c.e) || (p == 2 && vgood c.d c.e)
theorem jgood_parts (p : Int) (c : Cl) : c.good p = (c.gd p && c.gw p) := by
  unfold Cl.good cgoodS Cl.gd Cl.gw
  show _ = (_ && (_ && (!c.wrote || _)))
  unfold Cl.wrote
  by_cases h1 : p = 1
  · subst h1
    simp
  · by_cases h2 : p = 2
    · subst h2
      cases c.g <;> cases vgood c.d c.e <;> simp
    · have e1 : (p == 1) = false := by simpa using h1
      have e2 : (p == 2) = false := by simpa using h2
      simp [e1, e2]
theorem gw_key {p : Int} {x y : Cl} (h : x.key = y.key) : x.gw p = y.gw p := by
  obtain ⟨n, s, a, b, g, t, d, e⟩ := x
  obtain ⟨n', s', a', b', g', t', d', e'⟩ := y
  simp [Cl.key] at h
  obtain ⟨⟨rfl, rfl⟩, rfl, rfl, rfl, rfl⟩ := h
  rfl
theorem gw_up {p : Int} {c : Cl} (h : c.gw p = true) : maxK Cl.zero.key c.key = c.key := by
  cases hw : c.wrote with
  | false => rw [wrote_no hw, maxK_self]
  | true =>
    have hn : 0 < c.n := by
      unfold Cl.gw at h
      rw [hw] at h
      simp at h
      exact h.2.2.1
    unfold maxK
    rw [if_pos]
    show lexR (lexR ltI ltI) _ (Cl.zero.key) c.key = true
    unfold lexR
    rw [if_neg]
    · show lexR ltI ltI (0, 0) (c.n, c.s) = true
      unfold lexR
      simp only
      rw [if_neg (by omega)]
      simpa [ltI] using hn
    · show ¬ ((0 : Int), (0 : Int)) = (c.n, c.s)
      intro h
      simp at h
      omega
theorem gd_two {p : Int} {a b : Cl} (ha : a.gd p = true) (hb : b.gd p = true) : (twoS a b).gd p = true := by
  unfold Cl.gd at *
  rw [two_d, two_e]
  by_cases h1 : p = 1
  · subst h1
    simp [zeroS] at ha hb ⊢
    omega
  · have e1 : (p == 1) = false := by simpa using h1
    rw [e1] at ha hb ⊢
    simp [vgood] at ha hb ⊢
    obtain ⟨hp, ha⟩ := ha
    refine ⟨hp, ?_⟩
    omega
theorem gw_two {p : Int} {a b : Cl} (ha : a.gw p = true) (hb : b.gw p = true) : (twoS a b).gw p = true := by
  have h := two_key a b
  by_cases hl : lessS a b = true
  · rw [if_pos hl] at h
    rw [gw_key h]; exact hb
  · rw [if_neg hl] at h
    rw [gw_key h]; exact ha
theorem good_two {p : Int} {a b : Cl} (ha : a.good p = true) (hb : b.good p = true) : (twoS a b).good p = true := by
  rw [jgood_parts, Bool.and_eq_true] at *
  exact ⟨gd_two ha.1 hb.1, gw_two ha.2 hb.2⟩
theorem good_up {p : Int} {c : Cl} (h : c.good p = true) : c.Up := by
  rw [jgood_parts, Bool.and_eq_true] at h
  have hd : 0 ≤ c.d ∧ 0 ≤ c.e := by
    have := h.1
    unfold Cl.gd at this
    simp [zeroS, vgood] at this
    omega
  exact ⟨gw_up h.2, hd.1, hd.2⟩
theorem good_zero {p : Int} (h : p = 1 ∨ p = 2) : Cl.zero.good p = true := by
  rcases h with rfl | rfl <;> decide +kernel
theorem good_join {p : Int} (hp : p = 1 ∨ p = 2) {l : List Cl} (h : ∀ c ∈ l, c.good p = true) : (joinC l).good p = true := by
  have : ∀ (l : List Cl) (b : Cl), b.good p = true → (∀ c ∈ l, c.good p = true) → (l.foldl twoS b).good p = true := by
    intro l
    induction l with
    | nil => intro b hb _; exact hb
    | cons c l ih => intro b hb h; exact ih _ (good_two hb (h c (by simp))) fun x hx => h x (by simp [hx])
  exact this l _ (good_zero hp) h

/-- P9.4. -/
theorem lattice {p : Int} {a b c : Cl} (ha : a.good p = true) (hb : b.good p = true) (hc : c.good p = true) :
    joinC [a, b] = joinC [b, a] ∧ joinC [joinC [a, b], c] = joinC [a, joinC [b, c]] ∧ joinC [a, b, c] = joinC [c, b, a] ∧ joinC [a, a] = a ∧ joinC [a] = a ∧
    (joinC [a, b]).good p = true ∧ withinS a (joinC [a, b]) = true ∧ withinS b (joinC [a, b]) = true ∧ withinS Cl.zero a = true := by
  have ua := good_up ha
  have ub := good_up hb
  have uc := good_up hc
  refine ⟨?_,?_,?_,?_,?_,?_,?_,?_,?_⟩
  · rw [join_two ua, join_two ub, two_comm]
  · rw [join_two (join_upAll _), join_two ua, join_two ua, join_two ub, two_assoc]
  · rw [join_three ua, join_three uc, two_comm c b, two_comm (twoS b c) a, two_assoc]
  · rw [join_two ua, two_self ua]
  · rw [join_one ua]
  · rw [join_two ua]; exact good_two ha hb
  · rw [within_iff ua, join_two ua, ← two_assoc, two_self ua]
  · rw [within_iff ub, join_two ua, two_comm a b, ← two_assoc, two_self ub]
  · rw [within_iff up_zero, two_zero ua]
theorem more {p : Int} {a b c : Cl} (ha : a.good p = true) (hb : b.good p = true) (hc : c.good p = true) (h : withinS a b = true) :
    withinS (joinC [a, c]) (joinC [b, c]) = true ∧ (withinS b a = true → a = b) ∧ (withinS b c = true → withinS a c = true) := by
  have ua := good_up ha
  have ub := good_up hb
  have uc := good_up hc
  have e1 := (within_iff ua).1 h
  refine ⟨?_, fun h2 => ?_, fun h2 => ?_⟩
  · rw [within_iff (join_upAll _), join_two ua, join_two ub, two_comm b c, ← two_assoc, two_assoc a c c, two_self uc, two_comm a c, two_assoc, e1]
  · rw [← (within_iff ub).1 h2, two_comm, e1]
  · have e2 := (within_iff ub).1 h2
    rw [within_iff ua, ← e2, ← two_assoc, e1]

end Go.Proofs.Ytidbjmkfmfojdaa
end

section
namespace Go.Proofs.Ytidbjmkfmfojdaa
open Go.RowKit Go Go.Sort
set_option linter.unusedVariables false
set_option maxRecDepth 20000

def keyS (k : List UInt8) : Int := if k = [] then 2 else if 32 < k.length then 3 else 0
/-- Whether the cell of a group may be. -/
def cgAt (gs : List Grp) (cs : List Cl) (i : Nat) : Bool := (cs.getD i Cl.zero).good (gs.getD i ([], 0)).2
def rgoodS (gs : List Grp) (k : List UInt8) (cs : List Cl) : Int :=
  if ¬ pgoodS gs = 0 then pgoodS gs else if ¬ keyS k = 0 then keyS k else if ¬ cs.length = gs.length then 100 else if (List.range gs.length).all (cgAt gs cs) = true then 0 else 80
theorem rgood_pol {gs : List Grp} {k : List UInt8} {cs : List Cl} (h : ¬ pgoodS gs = 0) : rgoodS gs k cs = pgoodS gs := by unfold rgoodS; rw [if_pos h]
theorem rgood_key {gs : List Grp} {k : List UInt8} {cs : List Cl} (h : pgoodS gs = 0) (h2 : ¬ keyS k = 0) : rgoodS gs k cs = keyS k := by unfold rgoodS; rw [if_neg (by simp [h]), if_pos h2]
theorem rgood_len {gs : List Grp} {k : List UInt8} {cs : List Cl} (h : pgoodS gs = 0) (h2 : keyS k = 0) (h3 : ¬ cs.length = gs.length) : rgoodS gs k cs = 100 := by unfold rgoodS; rw [if_neg (by simp [h]), if_neg (by simp [h2]), if_pos h3]
theorem rgood_bad {gs : List Grp} {k : List UInt8} {cs : List Cl} (h : pgoodS gs = 0) (h2 : keyS k = 0) (h3 : cs.length = gs.length) {j : Nat} (hj : j < gs.length) (hb : cgAt gs cs j = false) : rgoodS gs k cs = 80 := by
  unfold rgoodS
  rw [if_neg (by simp [h]), if_neg (by simp [h2]), if_neg (by simp [h3]), if_neg]
  intro ha
  have := List.all_eq_true.1 ha j (List.mem_range.2 hj)
  rw [hb] at this
  cases this
theorem rgood_yes {gs : List Grp} {k : List UInt8} {cs : List Cl} (h : pgoodS gs = 0) (h2 : keyS k = 0) (h3 : cs.length = gs.length) (ha : ∀ j, j < gs.length → cgAt gs cs j = true) : rgoodS gs k cs = 0 := by
  unfold rgoodS
  rw [if_neg (by simp [h]), if_neg (by simp [h2]), if_neg (by simp [h3]), if_pos]
  exact List.all_eq_true.2 fun j hj => ha j (List.mem_range.1 hj)
theorem rgood_inv {gs : List Grp} {k : List UInt8} {cs : List Cl} (h : rgoodS gs k cs = 0) : pgoodS gs = 0 ∧ keyS k = 0 ∧ cs.length = gs.length ∧ ∀ j, j < gs.length → cgAt gs cs j = true := by
  unfold rgoodS at h
  by_cases h1 : pgoodS gs = 0
  · rw [if_neg (by simp [h1])] at h
    by_cases h2 : keyS k = 0
    · rw [if_neg (by simp [h2])] at h
      by_cases h3 : cs.length = gs.length
      · rw [if_neg (by simp [h3])] at h
        by_cases h4 : (List.range gs.length).all (cgAt gs cs) = true
        · exact ⟨h1, h2, h3, fun j hj => List.all_eq_true.1 h4 j (List.mem_range.2 hj)⟩
        · rw [if_neg h4] at h; cases h
      · rw [if_pos h3] at h; cases h
    · rw [if_pos h2] at h; exact absurd h h2
  · rw [if_pos h1] at h; exact absurd h h1
theorem pgood_len {gs : List Grp} (h : pgoodS gs = 0) : gs.length ≤ 4 := by
  unfold pgoodS at h
  split at h
  · cases h
  · split at h
    · cases h
    · omega
theorem pgood_pol {gs : List Grp} (h : pgoodS gs = 0) : ∀ j, j < gs.length → (gs.getD j ([], 0)).2 = 1 ∨ (gs.getD j ([], 0)).2 = 2 := by
  have key : ∀ (l ahead : List Grp), goodFrom ahead l = 0 → ∀ g ∈ l, g.2 = 1 ∨ g.2 = 2 := by
    intro l
    induction l with
    | nil => intro ahead _ g hg; cases hg
    | cons x r ih =>
      intro ahead hh g hg
      unfold goodFrom at hh
      split at hh
      · cases hh
      · rename_i h1
        split at hh
        · cases hh
        · rcases List.mem_cons.1 hg with rfl | hg
          · exact (Classical.not_not.1 h1).2
          · exact ih _ hh g hg
  unfold pgoodS at h
  split at h
  · cases h
  · split at h
    · cases h
    · intro j hj
      refine key gs [] h _ ?_
      rw [List.getD_eq_getElem?_getD, List.getElem?_eq_getElem hj]
      exact List.getElem_mem _
def bareS (cs : List Cl) : Bool := cs.all (fun c => sameC c Cl.zero)
theorem bare_take (cs : List Cl) (k : Nat) (h : k < cs.length) : bareS (cs.take (k + 1)) = (bareS (cs.take k) && sameC (cs.getD k Cl.zero) Cl.zero) := by
  unfold bareS
  rw [List.take_add_one, List.getElem?_eq_getElem h, List.getD_eq_getElem?_getD, List.getElem?_eq_getElem h, Option.toList_some, List.all_append]
  simp
theorem bare_not {cs : List Cl} {k : Nat} (h : k < cs.length) (hn : sameC (cs.getD k Cl.zero) Cl.zero = false) : bareS cs = false := by
  rw [Bool.eq_false_iff]
  intro ha
  have := List.all_eq_true.1 ha (cs.getD k Cl.zero) (by rw [List.getD_eq_getElem?_getD, List.getElem?_eq_getElem h]; exact List.getElem_mem _)
  rw [hn] at this
  cases this
end Go.Proofs.Ytidbjmkfmfojdaa
end

section
namespace Go.Proofs.Ytidbjmkfmfojdaa
open Go.RowKit Go Go.Sort
set_option linter.unusedVariables false
set_option maxRecDepth 20000

attribute [local go_sem] Oper.semAt_some
/-- What an iterator turns is no block of another type. -/
theorem turn_keep {B k : Nat} {T t : TypeId} {W W' : World} {row : Option Nat} {cs : Array Value} {fr : Nat × Nat} (hg : W.grownBy W' row)
    (hr : ∀ r, row = some r → B ≤ r ∧ ∃ o : Obj, W.heap[r]? = some o ∧ (o.isCells = false ∨ ∃ cs fr, o = .cells cs T fr)) (h : W.heap[k]? = some (.cells cs t fr)) (ht : t ≠ T) : W'.heap[k]? = some (.cells cs t fr) := by
  refine (hg.block k (Array.getElem?_eq_some_iff.1 h).1 (fun e => ?_)).trans h
  obtain ⟨_, o, ho, hc⟩ := hr k e.symm
  rw [h] at ho
  cases ho
  rcases hc with hc | ⟨cs', fr', hc⟩
  · cases hc
  · cases hc; exact ht rfl
theorem turn_row {B B0 s k : Nat} {e T : TypeId} {W W' : World} {row : Option Nat} {v : Value} {xs : List Value} (hg : W.grownBy W' row)
    (hr : ∀ r, row = some r → B ≤ r ∧ ∃ o : Obj, W.heap[r]? = some o ∧ (o.isCells = false ∨ ∃ cs fr, o = .cells cs T fr)) (h : W.ownsRow B0 e s v k xs) (ht : e ≠ T) : W'.ownsRow B0 e s v k xs := by
  refine ⟨h.1, ?_⟩
  rcases h.2 with hn | ⟨g, cap, cur, rfl, hB, hg', rest⟩
  · exact .inl hn
  · exact .inr ⟨g, cap, cur, rfl, hB, turn_keep hg hr hg' ht, rest⟩
theorem turn_below {B n₀ : Nat} {T : TypeId} {w W W' : World} {row : Option Nat} (hg : W.grownBy W' row)
    (hr : ∀ r, row = some r → B ≤ r ∧ ∃ o : Obj, W.heap[r]? = some o ∧ (o.isCells = false ∨ ∃ cs fr, o = .cells cs T fr)) (hB : n₀ ≤ B) (hn : n₀ ≤ W.heap.size) (h : Below n₀ w W) : Below n₀ w W' :=
  h.grown hg hn (fun k e => Nat.le_trans hB (hr k e).1)
theorem below_keeps {B : Nat} {W W' : World} (h : Below W.heap.size W W') : KeepsFrom B W W' := ⟨h.size, fun k o _ hk _ => (h.block k (Array.getElem?_eq_some_iff.1 hk).1).trans hk⟩
/-- What a step leaves as it was that writes the boxes Bs and a row of T at or beyond base. -/
structure LeavesT (T : TypeId) (Bs : Nat → Prop) (base : Nat) (W W' : World) : Prop where
  size : W.heap.size ≤ W'.heap.size
  same : ∀ (j : Nat) (o : Obj), W.heap[j]? = some o → ¬ Bs j → (j < base ∨ ∀ cs fr, o ≠ .cells cs T fr) → W'.heap[j]? = some o
theorem LeavesT.trans {T : TypeId} {Bs : Nat → Prop} {base : Nat} {X Y Z : World} (h : LeavesT T Bs base X Y) (k : LeavesT T Bs base Y Z) : LeavesT T Bs base X Z :=
  ⟨Nat.le_trans h.size k.size, fun j o hj hb ho => k.same j o (h.same j o hj hb ho) hb ho⟩
theorem LeavesT.below {T : TypeId} {Bs : Nat → Prop} {base : Nat} {W W' : World} (h : Below W.heap.size W W') : LeavesT T Bs base W W' :=
  ⟨h.size, fun j o hj _ _ => (h.block j (Array.getElem?_eq_some_iff.1 hj).1).trans hj⟩
theorem LeavesT.setCell {T : TypeId} {Bs : Nat → Prop} {base : Nat} (W : World) {B : Nat} (hB : Bs B) (u : Value) : LeavesT T Bs base W (W.setCell ⟨B, 0, none⟩ u) :=
  ⟨(KeepsWalks.setCell W _ u).size, fun j o hj hb _ => (Below.heap_setCell W ⟨B, 0, none⟩ u j (fun e => by subst e; exact hb hB)).trans hj⟩
theorem LeavesT.alloc {T : TypeId} {Bs : Nat → Prop} {base : Nat} (W : World) (o : Obj) : LeavesT T Bs base W (W.alloc o) :=
  ⟨by simp, fun j o' hj _ _ => (Below.heap_alloc W o j (Array.getElem?_eq_some_iff.1 hj).1).trans hj⟩
theorem LeavesT.append {T : TypeId} {Bs : Nat → Prop} {base s : Nat} {W w1 : World} {v : Value} {k : Nat} {xs : List Value} (hrow : W.ownsRow base T s v k xs) (hgrow : W.grownBy w1 v.ownBlock) : LeavesT T Bs base W w1 := by
  refine ⟨hgrow.size, fun j o hj hb ho => (hgrow.block j (Array.getElem?_eq_some_iff.1 hj).1 ?_).trans hj⟩
  rcases hrow.2 with ⟨rfl, _⟩ | ⟨g, cap, cur, rfl, hbg, hg, _⟩
  · simp [Value.ownBlock]
  · intro e'
    obtain rfl : j = g := by simpa [Value.ownBlock] using e'
    rcases ho with h | h
    · omega
    · rw [hg] at hj; cases hj; exact h _ _ rfl
theorem LeavesT.keeps {T : TypeId} {Bs : Nat → Prop} {base B : Nat} {W W' : World} (h : LeavesT T Bs base W W') (hb : ∀ j, Bs j → j < B) : KeepsFrom B W W' :=
  ⟨h.size, fun j o hB hj ho => h.same j o hj (fun hh => by have := hb j hh; omega) (.inr (fun cs fr e => by subst e; cases ho))⟩
/-- What a round keeps: what lay below, and the boxes named. -/
structure KP (n₀ : Nat) (Bs : Nat → Prop) (W W' : World) : Prop where
  below : Below n₀ W W'
  box : ∀ (k : Nat) (o : Obj), Bs k → W.heap[k]? = some o → W'.heap[k]? = some o
theorem KP.refl (n₀ : Nat) (Bs : Nat → Prop) (W : World) : KP n₀ Bs W W := ⟨Below.refl _ _, fun _ _ _ h => h⟩
theorem KP.trans {n₀ : Nat} {Bs : Nat → Prop} {A B C : World} (h : KP n₀ Bs A B) (k : KP n₀ Bs B C) : KP n₀ Bs A C := ⟨h.below.trans k.below, fun i o hi ho => k.box i o hi (h.box i o hi ho)⟩
theorem KP.of_below {n₀ : Nat} {Bs : Nat → Prop} {W W' : World} (hn : n₀ ≤ W.heap.size) (h : Below W.heap.size W W') : KP n₀ Bs W W' :=
  ⟨h.mono hn, fun k o _ hk => (h.block k (Array.getElem?_eq_some_iff.1 hk).1).trans hk⟩
theorem KP.putObj {n₀ : Nat} {Bs : Nat → Prop} (W : World) (l : Nat) (o o' : Obj) (hl : n₀ ≤ l) (hb : ∀ k, Bs k → k < l) (h : W.heap[l]? = some o) : KP n₀ Bs W (W.putObj l o') :=
  ⟨(Below.refl n₀ W).grown (grownBy_putObj' W l o') (by have := (Array.getElem?_eq_some_iff.1 h).1; omega) (fun k e => by cases e; omega),
   fun k o hk ho => (World.putObj_heap_other (by have := hb k hk; omega)).trans ho⟩
theorem grown_none {W W' : World} (h : Below W.heap.size W W') : W.grownBy W' none := ⟨h.os, h.tape, h.output, h.size, fun i hi _ => h.block i hi⟩
def placeOf : Value → Nat | .int _ n => n.toNat | _ => 0
end Go.Proofs.Ytidbjmkfmfojdaa
end

section
namespace Go.Proofs.Ytidbjmkfmfojdaa
open Go.RowKit Go Go.Sort
set_option linter.unusedVariables false
set_option maxRecDepth 20000

/-- What the iterator hands over, by its number. -/
def penc (gs : List Grp) (cs : List Cl) (k : Nat) : Array Value :=
  #[.agg #[.int .i64 (k : Int), .int .i64 (gs.getD k ([], 0)).2, .int .i64 (cs.getD k Cl.zero).n, .int .i64 (cs.getD k Cl.zero).s, .int .i64 (cs.getD k Cl.zero).a, .int .i64 (cs.getD k Cl.zero).b, .bool (cs.getD k Cl.zero).g, .string (text (cs.getD k Cl.zero).t), .int .i64 (cs.getD k Cl.zero).d, .int .i64 (cs.getD k Cl.zero).e]]
def two9 (x y k : Nat) : Prop := k = x ∨ k = y

set_option maxRecDepth 100000 in
set_option maxHeartbeats 400000 in
theorem places_c {w : World} {x x2 : Option Addr} {n1 cap m cap2 : Nat} {key : ByteArray} :
    Calls Try.prog 85 #[.slice x n1 cap, .agg #[.string key, .slice x2 m cap2]] w fun e w' => e = .returned (.func (.func 107) #[] #[.pointer (some ⟨w.heap.size, 0, none⟩), .pointer (some ⟨w.heap.size + 1, 0, none⟩)]) ∧
      w' = (w.alloc (.cells #[.slice x n1 cap] 60)).alloc (.cells #[.string key, .slice x2 m cap2] 30) := by
  go_enter Try.func85, Try.ntmps85
  go_wp2
  go_ret
  exact ⟨by simp, rfl⟩

set_option maxRecDepth 100000 in
set_option maxHeartbeats 3200000 in
theorem places_tells {w0 w : World} {x x2 : Option Addr} {m cap cap2 : Nat} {gs : List Grp} {cs : List Cl} {key : ByteArray} (hg : Grs w0 x m cap gs) (hl : Cls w0 x2 m cap2 cs) (hw : Below w0.heap.size w0 w) (N Bl Br : Nat) (hBl : Bl < w.heap.size) (hBr : Br < w.heap.size)
    (hcl : w.heap[Bl]? = some (.cells #[.slice x m cap] 60 (0, 0))) (hcr : w.heap[Br]? = some (.cells #[.string key, .slice x2 m cap2] 30 (0, 0))) :
    SeqTells Fence.wide N Try.prog 133 107 #[.pointer (some ⟨Bl, 0, none⟩), .pointer (some ⟨Br, 0, none⟩)] (penc gs cs) (KP w0.heap.size (two9 Bl Br)) (fun pre k => k = pre.length ∧ k < m) (fun _ => True)
      (fun xs _ => xs.length = m) (fun _ _ => True) w := fun q J Jx W hW hJ hY h0 => by
  have hle := hl.le
  have hmax := hl.max
  have hle1 := hg.le
  have hmax1 := hg.max
  refine callsIn_of_wp Try.func107 rfl trivial ?_ rfl
  simp only [Try.ntmps107, List.size_toArray, List.length_cons, List.length_nil, Nat.reduceAdd, Nat.reduceSub, Array.replicate_succ, Array.replicate_zero, List.push_toArray, List.append_toArray, List.nil_append, List.cons_append]
  have hW0 : w0.heap.size ≤ W.heap.size := Nat.le_trans hw.size hW.size
  have hcell : W.cell? ⟨Bl, 0, none⟩ = some (.slice x m cap) := by
    have := (hW.block Bl hBl).trans hcl
    simp [World.cell?, this]
  gi_wp2_with fail
  gi_loopw [8] (fun p wr => ∃ (pre : List Nat) (k : Nat), p = .int .i64 k ∧ k ≤ m ∧ pre.length = k ∧ J pre wr ∧ Below w0.heap.size w0 wr ∧ W.heap.size ≤ wr.heap.size ∧ wr.heap[Bl]? = some (.cells #[.slice x m cap] 60 (0, 0)) ∧ wr.heap[Br]? = some (.cells #[.string key, .slice x2 m cap2] 30 (0, 0)))
    (fun p wr => m - placeOf p)
  case atStart => exact ⟨[], 0, rfl, Nat.zero_le _, rfl, h0, hw.trans (hW.mono hw.size), Nat.le_refl _, (hW.block Bl hBl).trans hcl, (hW.block Br hBr).trans hcr⟩
  case round =>
    clear hcell
    obtain ⟨pre, k, rfl, hk, hpl, hJp, hbw, hsW, hbl, hbr⟩ := hrel
    by_cases hlt : k < m
    · have hki : (k : Int) < (m : Int) := by omega
      have hki1 : (k : Int) < (cap : Int) := by omega
      have hki2 : (k : Int) < (cap2 : Int) := by omega
      obtain ⟨bg, offg, rfl, hatg⟩ := hg.at hlt
      obtain ⟨bk, off, rfl, hat⟩ := hl.at hlt
      obtain ⟨⟨nm, pk⟩, hgk⟩ : ∃ y, gs.getD k ([], 0) = y := ⟨_, rfl⟩
      obtain ⟨y, hck⟩ : ∃ y, cs.getD k Cl.zero = y := ⟨_, rfl⟩
      rw [hck] at hat
      rw [hgk] at hatg
      obtain ⟨n, s, a, b, g, t, d, e⟩ := y
      obtain ⟨m0, m1⟩ := hatg wr hbw
      simp only at m0 m1
      have HGK := Lib.hid hgk
      have HCK := Lib.hid hck
      have HPL := Lib.hid hpl
      have HJ := Lib.hid hJp
      have HBW := Lib.hid hbw
      have HSW := Lib.hid hsW
      have HBL := Lib.hid hbl
      have HBR := Lib.hid hbr
      have HBX := Lib.hid (alloc_below wr (.cells #[.string (text nm), .int .i64 pk] 133))
      have hgn := GrpAt.new wr nm pk
      have HPW0 := Lib.hid hat
      clear hgk hck hpl hJp hbw hsW hbl hbr hat hatg
      gi_wp2_with fail
      obtain ⟨gB, hgB⟩ : ∃ g, wr.heap.size = g := ⟨_, rfl⟩
      rw [hgB] at hgn ⊢
      clear hgB m0 m1
      obtain ⟨W3, hW3⟩ : ∃ X, wr.alloc (.cells #[.string (text nm), .int .i64 pk] 133) = X := ⟨_, rfl⟩
      rw [hW3] at hgn HBX ⊢
      clear hW3
      have HGX := Lib.hid (fun W1 (h : Below W3.heap.size W3 W1) => And.intro (hgn.kept h).c0 (hgn.kept h).c1)
      have HPW := Lib.hid (fun W1 (h : Below W3.heap.size W3 W1) => HPW0.out W1 (HBW.out.trans ((HBX.out.trans (h.mono HBX.out.size)).mono (Nat.le_trans hW0 HSW.out))))
      have HRB := Lib.hid (fun W1 (h : Below W3.heap.size W3 W1) => (show W1.cell? ⟨Br, 1, none⟩ = some (.slice (some ⟨bk, off, none⟩) m cap2) by
        have := ((HBX.out.trans (h.mono HBX.out.size)).block Br (Array.getElem?_eq_some_iff.1 HBR.out).1).trans HBR.out
        rw [cell_of_row _ Br 1 _ _ (0, 0) this]; rfl))
      clear hgn HPW0
      refine wpIn_region_flow (fun x y => Below x.heap.size x y) 10 [none,none,none,none,none,none,none,none,none,none,none,none,none, some 0, some 1, some 2, some 3, some 4, some 5, some 6, some 7, some 8, some 9, none,none,none] (fun i => [u13, u14, u15, u16, u17, u18, u19, u20, u21, u22].getD i undef) [(fun v _ => v = .func (.yield q) #[] #[]), (fun v _ => v = .int .i64 (k : Int)), (fun v _ => v = .pointer (some ⟨gB, 1, none⟩)), (fun v _ => v = .int .i64 pk), (fun v _ => v = .pointer (some ⟨Br, 1, none⟩)), (fun v _ => v = .slice (some ⟨bk, off, none⟩) m cap2), (fun v _ => v = .int .i64 (k : Int)), (fun v _ => v = .pointer (some ⟨bk, off + k * 8, none⟩)), (fun v _ => v = .agg #[.int .i64 n, .int .i64 s, .int .i64 a, .int .i64 b, .bool g, .string (text t), .int .i64 d, .int .i64 e]), (fun v _ => v = .agg #[.int .i64 (k : Int), .int .i64 pk, .int .i64 n, .int .i64 s, .int .i64 a, .int .i64 b, .bool g, .string (text t), .int .i64 d, .int .i64 e])] (fun _ => False) (by kernel_rfl) (by kernel_rfl) (by kernel_rfl) rfl rfl rfl (fun a b c h1 h2 => h1.trans (h2.mono h1.size)) ⟨rfl, rfl, rfl, Nat.le_refl _, fun _ _ => rfl⟩ ?_ ?_ ?_
      · intro g hg v X Y hX hY hv
        simp only [List.mem_cons, List.not_mem_nil, or_false] at hg
        rcases hg with rfl | rfl | rfl | rfl | rfl | rfl | rfl | rfl | rfl | rfl
        all_goals first
          | exact hv
          | exact hv.kept hY
      · simp only [flowOpsI, List.take_succ_cons, List.take_zero, and_true]
        refine ⟨?_,?_,?_,?_,?_,?_,?_,?_,?_,?_⟩
        · intro xs W1 hW hn
          simp only [flowAct, zwc, zwn]
          gi_wp2_with (fail)
          exact ⟨rfl, _, rfl, Below.refl _ _, rfl, fun h => h.elim⟩
        · intro xs W1 hW hn
          simp only [flowAct, zwc, zwn]
          gi_wp2_with (fail)
          exact ⟨rfl, _, rfl, Below.refl _ _, rfl, fun h => h.elim⟩
        · intro xs W1 hW hn
          simp only [flowAct, zwc, zwn]
          gi_wp2_with (fail)
          exact ⟨rfl, _, rfl, Below.refl _ _, rfl, fun h => h.elim⟩
        · intro xs W1 hW hn
          obtain ⟨h0, h1⟩ := HGX.out W1 hW
          simp [flowNeeds, Region.binds] at hn
          simp only [flowAct, zwc, zwn]
          try simp only [hn]
          gi_wp2_with (fail)
          exact ⟨rfl, _, rfl, Below.refl _ _, rfl, fun h => h.elim⟩
        · intro xs W1 hW hn
          simp only [flowAct, zwc, zwn]
          gi_wp2_with (fail)
          exact ⟨rfl, _, rfl, Below.refl _ _, rfl, fun h => h.elim⟩
        · intro xs W1 hW hn
          have rb1 := HRB.out W1 hW
          simp [flowNeeds, Region.binds] at hn
          simp only [flowAct, zwc, zwn]
          try simp only [hn]
          gi_wp2_with (fail)
          exact ⟨rfl, _, rfl, Below.refl _ _, rfl, fun h => h.elim⟩
        · intro xs W1 hW hn
          simp only [flowAct, zwc, zwn]
          gi_wp2_with (fail)
          exact ⟨rfl, _, rfl, Below.refl _ _, rfl, fun h => h.elim⟩
        · intro xs W1 hW hn
          simp [flowNeeds, Region.binds] at hn
          simp only [flowAct, zwc, zwn]
          try simp only [hn]
          gi_wp2_with (fail)
          exact ⟨rfl, _, rfl, Below.refl _ _, rfl, fun h => h.elim⟩
        · intro xs W1 hW hn
          obtain ⟨p0, p1, p2, p3, p4, p5, p6, p7⟩ := HPW.out W1 hW
          simp only at p0 p1 p2 p3 p4 p5 p6 p7
          simp [flowNeeds, Region.binds] at hn
          simp only [flowAct, zwc, zwn]
          try simp only [hn]
          gi_wp2_with (fail)
          exact ⟨rfl, _, rfl, Below.refl _ _, rfl, fun h => h.elim⟩
        · intro xs W1 hW hn
          simp [flowNeeds, Region.binds] at hn
          simp only [flowAct, zwc, zwn]
          try simp only [hn]
          gi_wp2_with (fail)
          exact ⟨rfl, _, rfl, Below.refl _ _, rfl, fun h => h.elim⟩
      · intro xs W1 hW hall hfr
        clear hfr
        simp only [flowAll, and_true, Nat.zero_add, Nat.reduceAdd] at hall
        obtain ⟨e0, -,-,-,-,-,-,-,-, e9⟩ := hall
        simp only [flowAct, zwc, zwn, List.drop_succ_cons, List.drop_zero]
        simp only [e0, e9]
        have hW2 := (HBX.out.trans (hW.mono HBX.out.size))
        obtain ⟨fn, tmps, assign, body, hy, hR⟩ := hY pre k W1 (hJ pre wr _ none HJ.out (grown_none hW2) (fun r e => by cases e)) ⟨HPL.out.symm, hlt⟩
        unfold penc at hy
        rw [HGK.out, HCK.out] at hy
        simp only at hy
        gi_wp2_with fail
        refine ⟨fun h => (by cases h), hR.mono ?_⟩
        rintro e9 W2 (⟨rfl, hJ2, hk2, -⟩ | ⟨rfl, hJx2, hk2⟩)
        · have hbx := hk2.box Bl _ (.inl rfl) ((hW2.block Bl (Array.getElem?_eq_some_iff.1 HBL.out).1).trans HBL.out)
          have hbr := hk2.box Br _ (.inr rfl) ((hW2.block Br (Array.getElem?_eq_some_iff.1 HBR.out).1).trans HBR.out)
          have hb2 : Below w0.heap.size w0 W2 := HBW.out.trans ((hW2.mono (Nat.le_trans hW0 HSW.out)).trans hk2.below)
          have hs2 : W.heap.size ≤ W2.heap.size := Nat.le_trans HSW.out (Nat.le_trans hW2.size hk2.below.size)
          clear hy hR e0 e9
          gi_wp2
          go_roundw
          case rel => exact ⟨pre ++ [k], k + 1, by go_num, by omega, by simp [HPL.out], hJ2, hb2, hs2, hbx, hbr⟩
          case measure => simp [placeOf]; omega
        · clear e0 e9
          gi_wp2
          refine bodyPost_ret (results_none rfl _ _ _) rfl ?_
          exact ⟨⟨_, rfl⟩, .inr ⟨pre ++ [k], trivial, hJx2⟩⟩
    · obtain rfl : k = m := by omega
      gi_wp2
      go_end0
      exact ⟨⟨_, rfl⟩, .inl ⟨pre, hpl, hJp⟩⟩
end Go.Proofs.Ytidbjmkfmfojdaa
end

section
namespace Go.Proofs.Ytidbjmkfmfojdaa
open Go.RowKit Go Go.Sort
set_option linter.unusedVariables false
set_option maxRecDepth 20000

attribute [local go_sem] Oper.semAt_some
theorem res_cell_one {P : Program} {fn : Func} {p : Tmp} {ty : TypeId} (h : fn.results = #[.cell p ty]) (tmps : Array Value) (w : World) (g : Nat) (v : Value) (d : TypeDesc)
    (hp : tmps.getD p undef = .pointer (some ⟨g, 0, none⟩)) (hg : w.cell? ⟨g, 0, none⟩ = some v) (hu : P.underlying ty = some d) (hd : (match d with | .struct _ | .array _ _ => true | _ => false) = false) :
    (results fn tmps).run P w = .ok v w := by
  have hp' : tmps[p]?.getD undef = .pointer (some ⟨g, 0, none⟩) := by simpa using hp
  have hagg : (isAgg ty).run P w = .ok false w := by
    unfold isAgg
    rw [Sem.run_bind, run_underlying hu w]
    cases d <;> simp_all
  simp [results, h, hp', asAddr, loadVar, Sem.run_bind, hagg, go_sem, hg]
theorem text_nilb (k : List UInt8) : ((text k).toList == []) = (k == []) := by rw [text_toList]
theorem key_nil {k : List UInt8} (h : (k == []) = true) : keyS k = 2 := by
  have : k = [] := by simpa using h
  unfold keyS; rw [if_pos this]
theorem key_long {k : List UInt8} (h : (k == []) = false) (h2 : 32 < k.length) : keyS k = 3 := by
  have : ¬ k = [] := by simpa using h
  unfold keyS; rw [if_neg this, if_pos h2]
theorem key_ok {k : List UInt8} (h : (k == []) = false) (h2 : ¬ 32 < k.length) : keyS k = 0 := by
  have : ¬ k = [] := by simpa using h
  unfold keyS; rw [if_neg this, if_neg h2]

theorem mem_getDd {l : List Cl} {k : Nat} (h : k < l.length) : l.getD k Cl.zero ∈ l := by
  rw [List.getD_eq_getElem?_getD, List.getElem?_eq_getElem h]; exact List.getElem_mem _
theorem place_cells {W : World} {q : Nat} {k pk : Int} {n s a b : Int} {g : Bool} {t : List UInt8} {d e : Int} (h : W.heap[q]? = some (.cells #[.int .i64 k, .int .i64 pk, .int .i64 n, .int .i64 s, .int .i64 a, .int .i64 b, .bool g, .string (text t), .int .i64 d, .int .i64 e] 143 (0, 0))) :
    W.cell? ⟨q, 2, none⟩ = some (.int .i64 n) ∧ W.cell? ⟨q, 3, none⟩ = some (.int .i64 s) ∧ W.cell? ⟨q, 4, none⟩ = some (.int .i64 a) ∧ W.cell? ⟨q, 5, none⟩ = some (.int .i64 b) ∧
    W.cell? ⟨q, 6, none⟩ = some (.bool g) ∧ W.cell? ⟨q, 7, none⟩ = some (.string (text t)) ∧ W.cell? ⟨q, 8, none⟩ = some (.int .i64 d) ∧ W.cell? ⟨q, 9, none⟩ = some (.int .i64 e) := by
  refine ⟨?_,?_,?_,?_,?_,?_,?_,?_⟩ <;> (rw [cell_of_row _ q _ _ _ (0, 0) h]; rfl)
theorem putObj_cell {W : World} {D : Nat} {o : Obj} (p : Addr) (h : p.block ≠ D) : (W.putObj D o).cell? p = W.cell? p := by
  have e : (W.putObj D o).heap[p.block]? = W.heap[p.block]? := by first | exact World.putObj_heap_other h | exact World.putObj_heap_other (Ne.symm h)
  unfold World.cell?
  rw [e]

/-- Between two rounds; how a round may leave. -/
def GoodI (gs : List Grp) (cs : List Cl) (n₀ base : Nat) (w : World) (xs : List Nat) (W : World) : Prop :=
  Boxed W (n₀ + 1) 34 (.int .i64 0) ∧ (∀ j, j < xs.length → cgAt gs cs j = true) ∧ Below n₀ w W ∧ base ≤ W.heap.size
def GoodX (gs : List Grp) (cs : List Cl) (m n₀ base : Nat) (w : World) (c : Code) (xs : List Nat) (W : World) : Prop :=
  c = .ret ∧ Boxed W (n₀ + 1) 34 (.int .i64 80) ∧ (∃ j, j < m ∧ cgAt gs cs j = false) ∧ Below n₀ w W ∧ base ≤ W.heap.size
theorem GoodI.own {gs : List Grp} {cs : List Cl} {n₀ base B : Nat} {w : World} (h1 : n₀ ≤ B) (h2 : n₀ ≤ base) : OwnT B 133 (GoodI gs cs n₀ base w) := by
  rintro xs X Y row ⟨hb, hx, hw, hs⟩ hg hr
  exact ⟨turn_keep hg hr hb (by decide), hx, turn_below hg hr h1 (Nat.le_trans h2 hs) hw, Nat.le_trans hs hg.size⟩
theorem GoodX.own {gs : List Grp} {cs : List Cl} {m n₀ base B : Nat} {w : World} (c : Code) (h1 : n₀ ≤ B) (h2 : n₀ ≤ base) : OwnFrom B (GoodX gs cs m n₀ base w c) := by
  have : OwnT B 133 (GoodX gs cs m n₀ base w c) := by
    rintro xs X Y row ⟨hc, hb, hx, hw, hs⟩ hg hr
    exact ⟨hc, turn_keep hg hr hb (by decide), hx, turn_below hg hr h1 (Nat.le_trans h2 hs) hw, Nat.le_trans hs hg.size⟩
  exact this.from
/-- A round's own place: at a block's head. -/
def placeA (gs : List Grp) (cs : List Cl) (k : Nat) : Array Value := #[.int .i64 (k : Int), .int .i64 (gs.getD k ([], 0)).2, .int .i64 (cs.getD k Cl.zero).n, .int .i64 (cs.getD k Cl.zero).s, .int .i64 (cs.getD k Cl.zero).a, .int .i64 (cs.getD k Cl.zero).b, .bool (cs.getD k Cl.zero).g, .string (text (cs.getD k Cl.zero).t), .int .i64 (cs.getD k Cl.zero).d, .int .i64 (cs.getD k Cl.zero).e]
def PlaceA (gs : List Grp) (cs : List Cl) (tm : Nat → Nat → Array Value) (k : Nat) (a' : Act) (W : World) : Prop := ∃ q, W.heap[q]? = some (.cells (placeA gs cs k) 143 (0, 0)) ∧ a' = { tmps := tm q k, defers := [] }
theorem PlaceA.own {gs : List Grp} {cs : List Cl} {tm : Nat → Nat → Array Value} {B : Nat} (k : Nat) (a' : Act) : OwnFrom B (fun (_ : Unit) W => PlaceA gs cs tm k a' W) := by
  rintro s X Y row ⟨q, h1, h2⟩ hg hr
  refine ⟨q, (hg.block q (Array.getElem?_eq_some_iff.1 h1).1 (fun e => ?_)).trans h1, h2⟩
  obtain ⟨_, o, ho, hc⟩ := hr q e.symm
  rw [h1] at ho; cases ho; cases hc

set_option maxRecDepth 100000 in
set_option maxHeartbeats 6400000 in
theorem rowgood_c {w : World} {x x2 : Option Addr} {n1 cap m cap2 : Nat} {gs : List Grp} {cs : List Cl} (hg : Grs w x n1 cap gs) (hs : ∀ g ∈ gs, g.1.length ≤ 9223372036854775807)
    (hl : Cls w x2 m cap2 cs) (hx : ∀ c ∈ cs, c.t.length ≤ 9223372036854775807) (key : List UInt8) (hk : key.length ≤ 9223372036854775807) :
    Calls Try.prog 60 #[.slice x n1 cap, .agg #[.string (text key), .slice x2 m cap2]] w (Tells (.int .i64 (rgoodS gs key cs)) w) := by
  have hgl := hg.len
  have hll := hl.len
  have hle1 := hg.le
  have hmax1 := hg.max
  have hle2 := hl.le
  have hmax2 := hl.max
  have HPG := Lib.hid (fun W (h : Below w.heap.size w W) => pgood_c (hg.below h) hs)
  have hts := text_nilb key
  have hsz : ((text key).size : Int) = (key.length : Int) := by rw [text_size]
  have H0 := Lib.hid (@rgood_pol gs key cs)
  have H1 := Lib.hid (@rgood_key gs key cs)
  have H2 := Lib.hid (@rgood_len gs key cs)
  have H3 := Lib.hid (@rgood_bad gs key cs)
  have H4 := Lib.hid (@rgood_yes gs key cs)
  have HK2 := Lib.hid (@key_nil key)
  have HK3 := Lib.hid (@key_long key)
  have HK0 := Lib.hid (@key_ok key)
  obtain ⟨R, hR⟩ : ∃ z, rgoodS gs key cs = z := ⟨_, rfl⟩
  obtain ⟨P0, hP⟩ : ∃ z, pgoodS gs = z := ⟨_, rfl⟩
  obtain ⟨K0, hK⟩ : ∃ z, keyS key = z := ⟨_, rfl⟩
  obtain ⟨kb, hkb⟩ : ∃ z, (key == []) = z := ⟨_, rfl⟩
  obtain ⟨kl, hkl⟩ : ∃ z, key.length = z := ⟨_, rfl⟩
  obtain ⟨tk, htk⟩ : ∃ z, text key = z := ⟨_, rfl⟩
  simp only [hR, hP, hK, hgl, hll] at H0 H1 H2 H3 H4
  simp only [hP] at HPG
  simp only [hkb, hkl, hK] at HK2 HK3 HK0
  rw [hkb, htk] at hts
  rw [hkl, htk] at hsz
  rw [hR, htk]
  have hB1 := (alloc_below w (.cells #[.string tk, .slice x2 m cap2] 30)).alloc (by simp) (.cells #[.int .i64 0] 34)
  have hr1 : ((w.alloc (.cells #[.string tk, .slice x2 m cap2] 30)).alloc (.cells #[.int .i64 0] 34)).heap[w.heap.size]? = some (.cells #[.string tk, .slice x2 m cap2] 30 (0, 0)) := (Below.heap_alloc _ _ _ (by simp)).trans (heap_alloc_new w _)
  have he1 := Boxed.new (w.alloc (.cells #[.string tk, .slice x2 m cap2] 30)) 34 (.int .i64 0)
  simp only [World.size_alloc] at he1
  clear hR hP hK hkb hkl htk hk
  refine (callsIn_wide (n := 3)).1 ?_
  refine callsIn_of_wp_marks Try.func60 rfl trivial ?_ rfl
  simp only [Try.ntmps60, List.size_toArray, List.length_cons, List.length_nil, Nat.reduceAdd, Nat.reduceSub, Array.replicate_succ, Array.replicate_zero, List.push_toArray, List.append_toArray, List.nil_append, List.cons_append]
  gi_wp2_with fail
  refine ⟨trivial, (callsIn_wide.2 (HPG.out _ hB1)).mono ?_⟩
  rintro e w2 ⟨rfl, hb2⟩
  have hr2 := (hb2.block _ (Array.getElem?_eq_some_iff.1 hr1).1).trans hr1
  have he2 : Boxed w2 (w.heap.size + 1) 34 (.int .i64 0) := (hb2.block _ he1.lt).trans he1
  have hB2 := hB1.trans (hb2.mono hB1.size)
  clear hr1 he1 hB1 hb2 HPG
  obtain ⟨B, hB⟩ : ∃ q, w.heap.size = q := ⟨_, rfl⟩
  have HBe := Lib.hid hB
  rw [hB] at hr2 he2 ⊢
  clear hB
  have r0 : w2.cell? ⟨B, 0, none⟩ = some (.string tk) := by rw [cell_of_row _ B 0 _ _ (0, 0) hr2]; rfl
  have r1 : w2.cell? ⟨B, 1, none⟩ = some (.slice x2 m cap2) := by rw [cell_of_row _ B 1 _ _ (0, 0) hr2]; rfl
  have x0 := he2.cell
  have xf := he2.frozen
  have HE2 := Lib.hid he2
  have HR2 := Lib.hid hr2
  have HB2 := Lib.hid hB2
  have HRES := Lib.hid (fun (z : Int) => Boxed.cell (he2.set (.int .i64 z)))
  have HFIN := Lib.hid (fun (z : Int) => hB2.setCell (p := ⟨B + 1, 0, none⟩) (by have := HBe.out; simp; omega) (.int .i64 z))
  clear hr2 he2 hB2
  by_cases h0 : P0 = 0
  · subst h0
    cases kb with
    | true =>
      have HR := Lib.hid (show R = 2 by have h := H1.out rfl (by rw [HK2.out rfl]; decide); rw [h, HK2.out rfl])
      gi_wp2
      exact ⟨_, res_cell_one rfl _ _ (B + 1) _ _ rfl (HRES.out 2) Try.underlying34 rfl, by rw [HR.out], HFIN.out 2⟩
    | false =>
      by_cases hkl : 32 < kl
      · have hkli : (32 : Int) < (kl : Int) := by omega
        have HR := Lib.hid (show R = 3 by have h := H1.out rfl (by rw [HK3.out rfl hkl]; decide); rw [h, HK3.out rfl hkl])
        gi_wp2
        exact ⟨_, res_cell_one rfl _ _ (B + 1) _ _ rfl (HRES.out 3) Try.underlying34 rfl, by rw [HR.out], HFIN.out 3⟩
      · have hkli : ¬ (32 : Int) < (kl : Int) := by omega
        have HKZ := Lib.hid (HK0.out rfl hkl)
        by_cases hmn : m = n1
        · subst hmn
          gi_wp2_with fail
          refine ⟨trivial, (callsIn_wide.2 places_c).mono ?_⟩
          rintro e w1 ⟨rfl, rfl⟩
          gi_wp2_with fail
          have bL := (heap_alloc_new w2 (.cells #[.slice x m cap] 60))
          have bR := heap_alloc_new (w2.alloc (.cells #[.slice x m cap] 60)) (.cells #[.string tk, .slice x2 m cap2] 30)
          replace bL := (Below.heap_alloc (w2.alloc (.cells #[.slice x m cap] 60)) (.cells #[.string tk, .slice x2 m cap2] 30) w2.heap.size (by simp)).trans bL
          rw [World.size_alloc] at bR
          have hbW := (alloc_below w2 (.cells #[.slice x m cap] 60)).alloc (by simp) (.cells #[.string tk, .slice x2 m cap2] 30)
          have hsz : ((w2.alloc (.cells #[.slice x m cap] 60)).alloc (.cells #[.string tk, .slice x2 m cap2] 30)).heap.size = w2.heap.size + 1 + 1 := by simp
          have hlt2 : B + 1 < w2.heap.size := HE2.out.lt
          obtain ⟨W0, hW0⟩ : ∃ W0, (w2.alloc (.cells #[.slice x m cap] 60)).alloc (.cells #[.string tk, .slice x2 m cap2] 30) = W0 := ⟨_, rfl⟩
          rw [hW0] at bL bR hbW hsz ⊢
          clear hW0
          have hB0 := HB2.out.trans (hbW.mono HB2.out.size)
          have hE0 : Boxed W0 (B + 1) 34 (.int .i64 0) := (hbW.block _ HE2.out.lt).trans HE2.out
          obtain ⟨G, hG⟩ : ∃ q, w2.heap.size = q := ⟨_, rfl⟩
          rw [hG] at bL bR hsz hlt2 ⊢
          have HSZ := Lib.hid hsz
          clear hG hbW
          refine wpIn_range_tells (F := Fence.wide) rfl (by omega) (gf := 107) (lb := #[.pointer (some ⟨G, 0, none⟩), .pointer (some ⟨G + 1, 0, none⟩)]) rfl trivial (enters_of Try.func107 (by kernel_rfl) rfl)
            (places_tells hg hl hB0 2 G (G + 1) (by omega) (by omega) bL bR) KP.trans (fun W l o o' hl h ho _ => KP.putObj W l o o' (by have := hB0.size; omega) (by rintro k (rfl | rfl) <;> omega) h)
            (fun xs X Y row hs hg hr => hs) (fun xs X Y row hs hg hr => hs) (fun _ => rfl)
            (GoodI gs cs w.heap.size W0.heap.size w) (GoodX gs cs m w.heap.size W0.heap.size w) (GoodI.own hB0.size hB0.size) (fun c => GoodX.own c hB0.size hB0.size)
            ⟨by rw [HBe.out]; exact hE0, fun j hj => by simp at hj, hB0, Nat.le_refl _⟩
            (PlaceA gs cs (fun q k => #[.slice x m cap, .agg #[.string tk, .slice x2 m cap2], undef, .pointer (some ⟨B, 0, none⟩), .pointer (some ⟨B + 1, 0, none⟩), .int .i64 0, .pointer (some ⟨q, 0, none⟩), .slice x m cap, .int .i64 0, .int .i64 0, .bool false, undef, .bool false, .pointer (some ⟨B, 0, none⟩), .string tk, .bool false, .bool (decide ((32 : Int) < (kl : Int))), .pointer (some ⟨B, 0, none⟩), .string tk, .int .i64 (kl : Int), .bool (decide ((32 : Int) < (kl : Int))), .bool false, .pointer (some ⟨B, 1, none⟩), .slice x2 m cap2, .int .i64 (m : Int), .slice x m cap, .int .i64 (m : Int), .bool false, .slice x m cap, .agg #[.string tk, .slice x2 m cap2], .func (.func 107) #[] #[.pointer (some ⟨G, 0, none⟩), .pointer (some ⟨G + 1, 0, none⟩)], .agg (placeA gs cs k), undef,undef,undef,undef,undef,undef])) (fun k a' => PlaceA.own k a') ?assign ?body ?done ?stop
          case assign =>
            rintro q pre k W K hI - hK
            obtain ⟨hb, hgd, hw, hs⟩ := hI
            obtain ⟨y, hck⟩ : ∃ y, cs.getD k Cl.zero = y := ⟨_, rfl⟩
            dsimp only [penc]
            rw [hck]
            obtain ⟨n, s, a, b, g, t, d, e⟩ := y
            dsimp only
            gi_wp2
            have h3 := HSZ.out
            refine hK _ _ ((KeepsOthers.alloc _ _).from _) (KP.of_below (by have := hB0.size; omega) ((Below.refl _ W).alloc (Nat.le_refl _) _)) ((GoodI.own (B := W0.heap.size) hB0.size hB0.size).from.alloc _ ⟨hb, hgd, hw, hs⟩) ⟨W.heap.size, ?_,?_⟩
            · unfold placeA; rw [hck]; exact heap_alloc_new W _
            · dsimp only; unfold placeA; rw [hck]; rfl
          case body =>
            rintro q pre k a' W ⟨hb, hgd, hw, hs⟩ ⟨g9, hpq, rfl⟩ ⟨rfl, hlt⟩
            obtain ⟨k, hkp⟩ : ∃ k, pre.length = k := ⟨_, rfl⟩
            rw [hkp] at hlt hpq hgd ⊢
            unfold placeA at hpq
            dsimp only [placeA]
            have hcx := hx (cs.getD k Cl.zero) (mem_getDd (by omega))
            have hC := fun W => cgood_c (gs.getD k ([], 0)).2 (cs.getD k Cl.zero).n (cs.getD k Cl.zero).s (cs.getD k Cl.zero).a (cs.getD k Cl.zero).b (cs.getD k Cl.zero).g (cs.getD k Cl.zero).t (cs.getD k Cl.zero).d (cs.getD k Cl.zero).e hcx W
            have hcg : cgAt gs cs k = cgoodS (gs.getD k ([], 0)).2 (cs.getD k Cl.zero).n (cs.getD k Cl.zero).s (cs.getD k Cl.zero).a (cs.getD k Cl.zero).b (cs.getD k Cl.zero).g (cs.getD k Cl.zero).t (cs.getD k Cl.zero).d (cs.getD k Cl.zero).e := rfl
            obtain ⟨C, hCC⟩ : ∃ z, cgAt gs cs k = z := ⟨_, rfl⟩
            rw [← hcg, hCC] at hC
            have HCC := Lib.hid hCC
            have HC := Lib.hid hC
            clear hcg hC hCC hcx
            obtain ⟨⟨nm, pk⟩, hgk⟩ : ∃ y, gs.getD k ([], 0) = y := ⟨_, rfl⟩
            obtain ⟨y, hck⟩ : ∃ y, cs.getD k Cl.zero = y := ⟨_, rfl⟩
            rw [hgk, hck] at hpq HC ⊢
            obtain ⟨n, s, a, b, g, t, d, e⟩ := y
            dsimp only at hpq HC ⊢
            have e0 : W.cell? ⟨g9, 1, none⟩ = some (.int .i64 pk) := by rw [cell_of_row _ g9 1 _ _ (0, 0) hpq]; rfl
            obtain ⟨c0, c1, c2, c3, c4, c5, c6, c7⟩ := place_cells hpq
            have HH := Lib.hid (And.intro hb (And.intro hgd (And.intro hw hs)))
            clear hb hgd hw hs hgk hck hpq
            gi_wp2_with fail
            refine ⟨trivial, (CallsIn.inRound q (callsIn_wide.2 (HC.out W))).mono ?_⟩
            rintro e w1 ⟨rfl, hb1⟩
            obtain ⟨hb, hgd, hw, hs⟩ := HH.out
            have h3 := HSZ.out
            have hwsz := hB0.size
            cases C with
            | true =>
              have HR := Lib.hid (show RoundPost W0.heap.size (KP w.heap.size (two9 G (G + 1))) (fun _ => True) (GoodI gs cs w.heap.size W0.heap.size w) (GoodX gs cs m w.heap.size W0.heap.size w) pre k W .normal { tmps := #[], defers := [] } w1 from
                ⟨below_keeps hb1, KP.of_below (by omega) hb1, trivial, ⟨(hb1.block _ hb.lt).trans hb, fun j hj => by
                  rw [List.length_append, List.length_singleton, hkp] at hj
                  by_cases e : j = k
                  · subst e; exact HCC.out
                  · exact hgd j (by omega), hw.trans (hb1.mono (by omega)), Nat.le_trans hs hb1.size⟩⟩)
              clear hb hgd hw hs
              gi_wp2
              exact HR.out
            | false =>
              have hb2 : Boxed w1 (w.heap.size + 1) 34 (.int .i64 0) := (hb1.block _ hb.lt).trans hb
              rw [HBe.out] at hb2
              have z0 := hb2.cell
              have zf := hb2.frozen
              have hL : LeavesT 3 (fun j => j = B + 1) W0.heap.size W (w1.setCell ⟨B + 1, 0, none⟩ (.int .i64 80)) := (LeavesT.below hb1).trans (LeavesT.setCell (Bs := fun j => j = B + 1) w1 (B := B + 1) rfl (.int .i64 80))
              have hbW := (hb1.mono (show w.heap.size ≤ W.heap.size by omega)).setCell (p := ⟨B + 1, 0, none⟩) (by have := HBe.out; simp; omega) (.int .i64 80)
              have HR := Lib.hid (show RoundPost W0.heap.size (KP w.heap.size (two9 G (G + 1))) (fun _ => True) (GoodI gs cs w.heap.size W0.heap.size w) (GoodX gs cs m w.heap.size W0.heap.size w) pre k W .ret { tmps := #[], defers := [] } (w1.setCell ⟨B + 1, 0, none⟩ (.int .i64 80)) from
                ⟨hL.keeps (by rintro j rfl; omega), ⟨hbW, fun j o hj ho => hL.same j o ho (by rcases hj with rfl | rfl <;> omega) (.inl (by rcases hj with rfl | rfl <;> omega))⟩, ⟨rfl, by rw [HBe.out]; exact hb2.set _, ⟨k, hlt, HCC.out⟩, hw.trans hbW, Nat.le_trans hs hL.size⟩⟩)
              clear hb hgd hw hs hb2
              gi_wp2
              exact HR.out
          case done =>
            rintro D xs W hD hxs ⟨hb, hgd, hw, hs⟩ hK
            rw [HBe.out] at hb
            have z0 := hb.cell
            have zf := hb.frozen
            have HR := Lib.hid (show R = 0 from H4.out (by first | rfl | trivial) HKZ.out (by first | rfl | trivial) (fun j hj => hgd j (by omega)))
            have HZ := Lib.hid (Boxed.cell (hb.set (.int .i64 0)))
            have HW := Lib.hid (hw.setCell (p := ⟨B + 1, 0, none⟩) (by have := HBe.out; simp; omega) (.int .i64 0))
            have hlD : B + 1 < D := by have := HSZ.out; omega
            have HK := Lib.hid (show (W.setCell ⟨B + 1, 0, none⟩ (.int .i64 0)).heap[D]? = some (.deferred (some [])) from (heap_setCell_other W ⟨B + 1, 0, none⟩ D (.int .i64 0) (by simp; omega)).trans hK)
            clear hb hgd hw hs hK hxs
            gi_wp2
            refine ⟨by simp, .inl ⟨_, _, rfl, run_takeDeferred HK.out, ?_⟩⟩
            refine ⟨_, res_cell_one rfl _ _ (B + 1) (.int .i64 0) _ rfl ?_ Try.underlying34 rfl, by rw [HR.out], ?_⟩
            · rw [putObj_cell ⟨B + 1, 0, none⟩ (by simp; omega)]; exact HZ.out
            · exact HW.out.trans (belowK_b (w := w) (Nat.le_refl _) _ D _ _ (by have := HBe.out; omega) HK.out rfl rfl)
          case stop =>
            rintro D c pre W hD - ⟨rfl, hb, ⟨j, hj, hjb⟩, hw, hs⟩ hK
            rw [HBe.out] at hb
            have HR := Lib.hid (show R = 80 from H3.out (by first | rfl | trivial) HKZ.out (by first | rfl | trivial) hj hjb)
            have hlD : B + 1 < D := by have := HSZ.out; omega
            gi_wp2
            refine ⟨by simp, .inl ⟨_, _, rfl, run_takeDeferred hK, ?_⟩⟩
            refine ⟨_, res_cell_one rfl _ _ (B + 1) (.int .i64 80) _ rfl ?_ Try.underlying34 rfl, by rw [HR.out], ?_⟩
            · rw [putObj_cell ⟨B + 1, 0, none⟩ (by simp; omega)]; exact hb.cell
            · exact hw.trans (belowK_b (w := w) (Nat.le_refl _) W D _ _ (by have := HBe.out; omega) hK rfl rfl)
        · have hmni : ((m : Int) != (n1 : Int)) = true := by rw [bne_iff_ne]; omega
          have HR := Lib.hid (show R = 100 from H2.out rfl HKZ.out hmn)
          gi_wp2
          exact ⟨_, res_cell_one rfl _ _ (B + 1) _ _ rfl (HRES.out 100) Try.underlying34 rfl, by rw [HR.out], HFIN.out 100⟩
  · have h0b : (P0 == 0) = false := by simpa using h0
    have h0n : (P0 != 0) = true := by simpa using h0
    have HR := Lib.hid (show R = P0 from H0.out h0)
    clear h0
    gi_wp2
    exact ⟨_, res_cell_one rfl _ _ (B + 1) _ _ rfl (HRES.out P0) Try.underlying34 rfl, by rw [HR.out], HFIN.out P0⟩
end Go.Proofs.Ytidbjmkfmfojdaa
end

section
namespace Go.Proofs.Ytidbjmkfmfojdaa
open Go.RowKit Go Go.Sort
set_option linter.unusedVariables false
set_option maxRecDepth 20000

abbrev Fld := Int × List UInt8
/-- What is to be seen of a group. -/
def seenAt (gs : List Grp) (cs : List Cl) (i : Nat) : List UInt8 × Bool := cseenS (gs.getD i ([], 0)).2 (cs.getD i Cl.zero).n (cs.getD i Cl.zero).s (cs.getD i Cl.zero).a (cs.getD i Cl.zero).b (cs.getD i Cl.zero).g (cs.getD i Cl.zero).t (cs.getD i Cl.zero).d (cs.getD i Cl.zero).e
def fieldsN (gs : List Grp) (cs : List Cl) : Nat → List Fld
  | 0 => []
  | k + 1 => if (seenAt gs cs k).2 = true then fieldsN gs cs k ++ [((k : Int), (seenAt gs cs k).1)] else fieldsN gs cs k
theorem fieldsN_le (gs : List Grp) (cs : List Cl) : ∀ k, (fieldsN gs cs k).length ≤ k
  | 0 => Nat.le_refl _
  | k + 1 => by
    have := fieldsN_le gs cs k
    unfold fieldsN
    split
    · rw [List.length_append, List.length_singleton]; omega
    · omega
theorem fieldsN_yes {gs : List Grp} {cs : List Cl} {k : Nat} (h : (seenAt gs cs k).2 = true) : fieldsN gs cs (k + 1) = fieldsN gs cs k ++ [((k : Int), (seenAt gs cs k).1)] := by
  show (if _ then _ else _) = _; rw [if_pos h]
theorem fieldsN_no {gs : List Grp} {cs : List Cl} {k : Nat} (h : (seenAt gs cs k).2 = false) : fieldsN gs cs (k + 1) = fieldsN gs cs k := by
  show (if _ then _ else _) = _; rw [if_neg (by rw [h]; decide)]
def viewS (gs : List Grp) (key : List UInt8) (cs : List Cl) : List UInt8 × List Fld × Bool :=
  if rgoodS gs key cs = 0 ∧ (fieldsN gs cs gs.length).length ≠ 0 then (key, fieldsN gs cs gs.length, true) else ([], [], false)
theorem view_bad {gs : List Grp} {key : List UInt8} {cs : List Cl} (h : ¬ rgoodS gs key cs = 0) : viewS gs key cs = ([], [], false) := by unfold viewS; rw [if_neg (fun hh => h hh.1)]
theorem view_none {gs : List Grp} {key : List UInt8} {cs : List Cl} (h : (fieldsN gs cs gs.length).length = 0) : viewS gs key cs = ([], [], false) := by unfold viewS; rw [if_neg (fun hh => hh.2 h)]
theorem view_some {gs : List Grp} {key : List UInt8} {cs : List Cl} (h : rgoodS gs key cs = 0) (h2 : (fieldsN gs cs gs.length).length ≠ 0) : viewS gs key cs = (key, fieldsN gs cs gs.length, true) := by unfold viewS; rw [if_pos ⟨h, h2⟩]
def fCells (l : List Fld) : List Value := l.flatMap (fun g => [.int .i64 g.1, .string (text g.2)])
theorem fCells_append (l m : List Fld) : fCells (l ++ m) = fCells l ++ fCells m := by simp [fCells]
theorem fCells_get : ∀ (l : List Fld) (i : Nat), i < l.length → (fCells l)[i * 2]? = some (.int .i64 (l.getD i (0, [])).1) ∧ (fCells l)[i * 2 + 1]? = some (.string (text (l.getD i (0, [])).2))
  | [], i, h => by simp at h
  | g :: r, 0, _ => ⟨rfl, rfl⟩
  | g :: r, i + 1, h => by
    have := fCells_get r i (by simpa using h)
    have e1 : (i + 1) * 2 = i * 2 + 1 + 1 := by omega
    have e2 : (i + 1) * 2 + 1 = i * 2 + 1 + 1 + 1 := by omega
    rw [e2, e1]
    exact this
/-- A list of fields that lies in memory. -/
structure Flds (w : World) (a : Option Addr) (n cap : Nat) (l : List Fld) : Prop where
  len : l.length = n
  le : n ≤ cap
  max : cap ≤ 9223372036854775807
  adr : cap = 0 ∨ ∃ b off, a = some ⟨b, off, none⟩ ∧ ∀ i, i < n → w.cell? ⟨b, off + i * 2, none⟩ = some (.int .i64 (l.getD i (0, [])).1) ∧ w.cell? ⟨b, off + i * 2 + 1, none⟩ = some (.string (text (l.getD i (0, [])).2))
theorem Flds.below {w w' : World} {a : Option Addr} {n cap : Nat} {l : List Fld} (h : Flds w a n cap l) (hb : Below w.heap.size w w') : Flds w' a n cap l := by
  refine ⟨h.len, h.le, h.max, ?_⟩
  rcases h.adr with h4 | ⟨b, off, rfl, hc⟩
  · exact .inl h4
  · refine .inr ⟨b, off, rfl, fun i hi => ?_⟩
    obtain ⟨h1, h2⟩ := hc i hi
    exact ⟨by rw [hb.cell (World.block_lt_of_cell? w _ h1)]; exact h1, by rw [hb.cell (World.block_lt_of_cell? w _ h2)]; exact h2⟩
theorem Flds.at {w : World} {a : Option Addr} {n cap : Nat} {l : List Fld} (h : Flds w a n cap l) {k : Nat} (hk : k < n) :
    ∃ b off, a = some ⟨b, off, none⟩ ∧ ∀ W, Below w.heap.size w W → W.cell? ⟨b, off + k * 2, none⟩ = some (.int .i64 (l.getD k (0, [])).1) ∧ W.cell? ⟨b, off + k * 2 + 1, none⟩ = some (.string (text (l.getD k (0, [])).2)) := by
  have := h.le
  rcases h.adr with h4 | ⟨b, off, rfl, hc⟩
  · omega
  · exact ⟨b, off, rfl, fun W hb => ⟨by rw [hb.cell (World.block_lt_of_cell? w _ (hc k hk).1)]; exact (hc k hk).1, by rw [hb.cell (World.block_lt_of_cell? w _ (hc k hk).2)]; exact (hc k hk).2⟩⟩
/-- A slice of the call's own that reads as the fields l. -/
def OwnF (w : World) (B : Nat) (v : Value) (l : List Fld) : Prop := w.ownsRow B 96 2 v l.length (fCells l)
theorem OwnF.nil (w : World) (B : Nat) : OwnF w B (.slice none 0 0) [] := World.ownsRow_nil _ _ _ _
theorem OwnF.flds {w : World} {B : Nat} {v : Value} {l : List Fld} (h : OwnF w B v l) : ∃ a cap, v = .slice a l.length cap ∧ Flds w a l.length cap l := by
  obtain ⟨h1, h2⟩ := h
  rcases h2 with ⟨rfl, hn⟩ | ⟨g, cap, cur, rfl, hb, hg, hnc, hcm, hcs, htake⟩
  · exact ⟨none, 0, by rw [hn], rfl, by omega, by omega, .inl rfl⟩
  · refine ⟨_, cap, rfl, rfl, hnc, by unfold maxLen at hcm; omega, .inr ⟨g, 0, rfl, fun i hi => ?_⟩⟩
    obtain ⟨c1, c2⟩ := fCells_get l i hi
    rw [← htake, List.getElem?_take, if_pos (by omega)] at c1
    rw [← htake, List.getElem?_take, if_pos (by omega)] at c2
    rw [Nat.zero_add, cell_of_row w g _ cur _ (0, 0) hg, cell_of_row w g _ cur _ (0, 0) hg]
    exact ⟨by rw [← c1]; simp, by rw [← c2]; simp⟩
theorem OwnF.kept {w w' : World} {B : Nat} {v : Value} {l : List Fld} (h : OwnF w B v l) (hb : Below w.heap.size w w') : OwnF w' B v l := own_kept h hb
theorem OwnF.mono {w : World} {B B' : Nat} {v : Value} {l : List Fld} (h : OwnF w B v l) (hB : B' ≤ B) : OwnF w B' v l := own_mono h hB
theorem Try.infoF : (Try.prog.info? 96).map (fun i => (i.zero, i.size, i.bytes)) = some (some (.agg #[.int .i64 0, .string ⟨#[]⟩]), 2, 24) := by kernel_rfl
/-- What a view tells. -/
def ViewPost (r : List UInt8 × List Fld × Bool) (w : World) (e : Ending) (w' : World) : Prop :=
  ∃ fv, e = .returned (.tuple #[.agg #[.string (text r.1), fv], .bool r.2.2]) ∧ OwnF w' w.heap.size fv r.2.1 ∧ Below w.heap.size w w'
end Go.Proofs.Ytidbjmkfmfojdaa
end

section
namespace Go.Proofs.Ytidbjmkfmfojdaa
open Go.RowKit Go Go.Sort
set_option linter.unusedVariables false
set_option maxRecDepth 20000

theorem view_set {W : World} {q : Nat} {k0 : ByteArray} {v0 : Value} (h : W.heap[q]? = some (.cells #[.string k0, v0] 80 (0, 0))) (k : ByteArray) (v : Value) :
    ((W.setCell ⟨q, 0, none⟩ (.string k)).setCell ⟨q, 1, none⟩ v).heap[q]? = some (.cells #[.string k, v] 80 (0, 0)) := by
  have h0 : (W.setCell ⟨q, 0, none⟩ (.string k)).heap[q]? = some (.cells #[.string k, v0] 80 (0, 0)) := (heap_setCell_same _ q 0 _ _ _ h).trans rfl
  exact (heap_setCell_same _ q 1 _ _ _ h0).trans rfl
theorem own_set {W : World} {q i B s k : Nat} {e t : TypeId} {cs : Array Value} {fr : Nat × Nat} {v u : Value} {xs : List Value} (h : W.heap[q]? = some (.cells cs t fr)) (ht : t ≠ e) (ho : W.ownsRow B e s v k xs) : (W.setCell ⟨q, i, none⟩ u).ownsRow B e s v k xs := by
  refine ⟨ho.1, ?_⟩
  rcases ho.2 with hn | ⟨g, cap, cur, rfl, hB, hg, rest⟩
  · exact .inl hn
  · exact .inr ⟨g, cap, cur, rfl, hB, (Below.heap_setCell W ⟨q, i, none⟩ u g (fun e' => by subst e'; rw [h] at hg; cases hg; exact ht rfl)).trans hg, rest⟩
/-- append(v, f), v of the call's own, fenced. -/
theorem wpListIn_append_fld {F : Fence} {n' : Nat} {w : World} {ops : Array Oper} {rest : List Oper} {o : Oper} {a : Act} {Q : Exit → Act → World → Prop} (hgd : o.guard = none) (s x : Operand)
    (ho : o.op = .call { callee := .builtin .append, args := #[s, x], argTypes := #[78, 78] })
    {base : Nat} {v : Value} {l : List Fld} (hs : a.eval s = v) (hown : OwnF w base v l) {t : ByteArray} (g : List UInt8) {p : Int} (ht : t = text g) {e : TypeId}
    (hx : a.eval x = .slice (some ⟨w.heap.size, 0, none⟩) 1 1) (h63 : l.length ≤ 1000000000) (hbase : base ≤ w.heap.size)
    (h : ∀ g' cap' w', OwnF w' base (.slice (some ⟨g', 0, none⟩) (l.length + 1) cap') (l ++ [(p, g)]) → (w.alloc (.cells #[.int .i64 p, .string t] e)).grownBy w' v.ownBlock → wpListIn F n' Try.prog ops Q rest (a.put o.dst (.slice (some ⟨g', 0, none⟩) (l.length + 1) cap')) w') :
    wpListIn F n' Try.prog ops Q (o :: rest) a (w.alloc (.cells #[.int .i64 p, .string t] e)) := by
  subst ht
  obtain ⟨i0, hi, hz0, hz1, hz2⟩ := info_parts Try.infoF
  refine wpListIn_append_own (P := Try.prog) (w.alloc (.cells #[.int .i64 p, .string (text g)] e)) hgd s x 78 ho base 96 i0 _ 2 24 Try.underlying78 hi hz0 hz1 hz2 rfl (by decide) v l.length (fCells l) hs (World.ownsRow.alloc hown _)
    ⟨w.heap.size, 0, none⟩ 1 1 [.int .i64 p, .string (text g)] hx rfl ?_ ?_ (by unfold maxLen; omega) (by omega) (by simp; omega) ?_
  · intro j u hj
    rw [addr_add, Nat.zero_add, cell_of_row _ _ j #[.int .i64 p, .string (text g)] e (0, 0) (by rw [heap_alloc_new])]
    rw [← hj]; simp
  · intro u hu
    simp only [List.mem_cons, List.not_mem_nil, or_false] at hu
    rcases hu with rfl | rfl <;> rfl
  · intro v' w' h2 h3 _
    obtain ⟨g', cap', rfl⟩ := ownsRow_succ h2
    refine h g' cap' w' ?_ h3
    unfold OwnF
    rw [List.length_append, fCells_append]
    exact h2
attribute [local go_sem] Oper.semAt_some
/-- Between two rounds. -/
def ViewI (gs : List Grp) (cs : List Cl) (ro : Obj) (n₀ B G0 base : Nat) (w : World) (xs : List Nat) (W : World) : Prop :=
  ∃ vb, Boxed W G0 78 vb ∧ W.ownsRow base 96 2 vb (fieldsN gs cs xs.length).length (fCells (fieldsN gs cs xs.length)) ∧ W.heap[B]? = some ro ∧ W.heap[B + 1]? = some (.cells #[.string ⟨#[]⟩, .slice none 0 0] 80 (0, 0)) ∧ Below n₀ w W ∧ base ≤ W.heap.size
theorem ViewI.own {gs : List Grp} {cs : List Cl} {rc : Array Value} {n₀ B G0 base B9 : Nat} {w : World} (h1 : n₀ ≤ B9) (h2 : n₀ ≤ base) : OwnT B9 133 (ViewI gs cs (.cells rc 30 (0, 0)) n₀ B G0 base w) := by
  rintro xs X Y row ⟨vb, hb, ho, hr1, hv, hw, hs⟩ hg hr
  exact ⟨vb, turn_keep hg hr hb (by decide), turn_row hg hr ho (by decide), turn_keep hg hr hr1 (by decide), turn_keep hg hr hv (by decide), turn_below hg hr h1 (Nat.le_trans h2 hs) hw, Nat.le_trans hs hg.size⟩

set_option maxRecDepth 100000 in
set_option maxHeartbeats 6400000 in
theorem view_c {w : World} {x x2 : Option Addr} {n1 cap m cap2 : Nat} {gs : List Grp} {cs : List Cl} (hg : Grs w x n1 cap gs) (hs : ∀ g ∈ gs, g.1.length ≤ 9223372036854775807)
    (hl : Cls w x2 m cap2 cs) (hx : ∀ c ∈ cs, c.t.length ≤ 9223372036854775807) (key : List UInt8) (hk : key.length ≤ 9223372036854775807) :
    Calls Try.prog 92 #[.slice x n1 cap, .agg #[.string (text key), .slice x2 m cap2]] w (ViewPost (viewS gs key cs) w) := by
  have hgl := hg.len
  have hll := hl.len
  have hle1 := hg.le
  have hmax1 := hg.max
  have hle2 := hl.le
  have hmax2 := hl.max
  have hGD := fun W (h : Below w.heap.size w W) => rowgood_c (hg.below h) hs (hl.below h) hx key hk
  have H0 := Lib.hid (@view_bad gs key cs)
  have H1 := Lib.hid (@view_none gs key cs)
  have H2 := Lib.hid (@view_some gs key cs)
  have HIN := Lib.hid (@rgood_inv gs key cs)
  obtain ⟨RV, hRV⟩ : ∃ z, viewS gs key cs = z := ⟨_, rfl⟩
  obtain ⟨R, hR⟩ : ∃ z, rgoodS gs key cs = z := ⟨_, rfl⟩
  rw [hR] at H0 H2 HIN
  simp only [hR] at hGD
  rw [hRV] at H0 H1 H2 ⊢
  have hT0 : text ([] : List UInt8) = ⟨#[]⟩ := rfl
  obtain ⟨tk, htk⟩ : ∃ z, text key = z := ⟨_, rfl⟩
  rw [htk] at hGD ⊢
  have HTK := Lib.hid htk
  have hB1 := (alloc_below w (.cells #[.string tk, .slice x2 m cap2] 30)).alloc (by simp) (.cells #[.string ⟨#[]⟩, .slice none 0 0] 80)
  have hr1 : ((w.alloc (.cells #[.string tk, .slice x2 m cap2] 30)).alloc (.cells #[.string ⟨#[]⟩, .slice none 0 0] 80)).heap[w.heap.size]? = some (.cells #[.string tk, .slice x2 m cap2] 30 (0, 0)) := (Below.heap_alloc _ _ _ (by simp)).trans (heap_alloc_new w _)
  have he1 := heap_alloc_new (w.alloc (.cells #[.string tk, .slice x2 m cap2] 30)) (.cells #[.string ⟨#[]⟩, .slice none 0 0] 80)
  rw [World.size_alloc] at he1
  have HGD := Lib.hid (hGD _ hB1)
  clear hRV hR hGD htk hk
  refine (callsIn_wide (n := 3)).1 ?_
  refine callsIn_of_wp_marks Try.func92 rfl trivial ?_ rfl
  simp only [Try.ntmps92, List.size_toArray, List.length_cons, List.length_nil, Nat.reduceAdd, Nat.reduceSub, Array.replicate_succ, Array.replicate_zero, List.push_toArray, List.append_toArray, List.nil_append, List.cons_append]
  gi_wp2_with fail
  refine ⟨trivial, (callsIn_wide.2 HGD.out).mono ?_⟩
  rintro e w2 ⟨rfl, hb2⟩
  have hr2 := (hb2.block _ (Array.getElem?_eq_some_iff.1 hr1).1).trans hr1
  have he2 := (hb2.block _ (Array.getElem?_eq_some_iff.1 he1).1).trans he1
  have hB2 := hB1.trans (hb2.mono hB1.size)
  clear hr1 he1 hB1 hb2 HGD
  obtain ⟨B, hB⟩ : ∃ q, w.heap.size = q := ⟨_, rfl⟩
  have HBe := Lib.hid hB
  rw [hB] at hr2 he2 ⊢
  clear hB
  have v0 : w2.cell? ⟨B + 1, 0, none⟩ = some (.string ⟨#[]⟩) := by rw [cell_of_row _ (B + 1) 0 _ _ (0, 0) he2]; rfl
  have v1 : w2.cell? ⟨B + 1, 1, none⟩ = some (.slice none 0 0) := by rw [cell_of_row _ (B + 1) 1 _ _ (0, 0) he2]; rfl
  have vf : ∀ i, w2.frozen? ⟨B + 1, i, none⟩ = false := fun i => frozen_of_row _ (B + 1) i _ _ he2
  have HE2 := Lib.hid he2
  have HR2 := Lib.hid hr2
  have HB2 := Lib.hid hB2
  have HSET := Lib.hid (fun (W : World) (h : W.heap[B + 1]? = some (.cells #[.string ⟨#[]⟩, .slice none 0 0] 80 (0, 0))) (k : ByteArray) (v : Value) => view_set h k v)
  clear hr2 he2 hB2
  by_cases h0 : R = 0
  · subst h0
    obtain ⟨hp0, hk0, hlen, hcg⟩ := HIN.out rfl
    obtain rfl : m = n1 := by omega
    clear HIN v0 v1 vf
    have hrA : (w2.alloc (.cells #[.slice none 0 0] 78)).heap[B]? = some (.cells #[.string tk, .slice x2 m cap2] 30 (0, 0)) := (Below.heap_alloc w2 (.cells #[.slice none 0 0] 78) B (Array.getElem?_eq_some_iff.1 HR2.out).1).trans HR2.out
    have r0 : (w2.alloc (.cells #[.slice none 0 0] 78)).cell? ⟨B, 0, none⟩ = some (.string tk) := by rw [cell_of_row _ B 0 _ _ (0, 0) hrA]; rfl
    have r1 : (w2.alloc (.cells #[.slice none 0 0] 78)).cell? ⟨B, 1, none⟩ = some (.slice x2 m cap2) := by rw [cell_of_row _ B 1 _ _ (0, 0) hrA]; rfl
    clear hrA
    gi_wp2_with fail
    refine ⟨trivial, (callsIn_wide.2 places_c).mono ?_⟩
    rintro e w1 ⟨rfl, rfl⟩
    clear r0 r1
    gi_wp2_with fail
    have bF := heap_alloc_new w2 (.cells #[.slice none 0 0] 78)
    have bL := heap_alloc_new (w2.alloc (.cells #[.slice none 0 0] 78)) (.cells #[.slice x m cap] 60)
    have bR := heap_alloc_new ((w2.alloc (.cells #[.slice none 0 0] 78)).alloc (.cells #[.slice x m cap] 60)) (.cells #[.string tk, .slice x2 m cap2] 30)
    replace bL := (Below.heap_alloc ((w2.alloc (.cells #[.slice none 0 0] 78)).alloc (.cells #[.slice x m cap] 60)) (.cells #[.string tk, .slice x2 m cap2] 30) (w2.alloc (.cells #[.slice none 0 0] 78)).heap.size (by simp)).trans bL
    replace bF := (Below.heap_alloc ((w2.alloc (.cells #[.slice none 0 0] 78)).alloc (.cells #[.slice x m cap] 60)) (.cells #[.string tk, .slice x2 m cap2] 30) w2.heap.size (by simp; omega)).trans ((Below.heap_alloc (w2.alloc (.cells #[.slice none 0 0] 78)) (.cells #[.slice x m cap] 60) w2.heap.size (by simp)).trans bF)
    simp only [World.size_alloc] at bR bL
    have hbW := ((alloc_below w2 (.cells #[.slice none 0 0] 78)).alloc (by simp) (.cells #[.slice x m cap] 60)).alloc (by simp; omega) (.cells #[.string tk, .slice x2 m cap2] 30)
    have hsz : (((w2.alloc (.cells #[.slice none 0 0] 78)).alloc (.cells #[.slice x m cap] 60)).alloc (.cells #[.string tk, .slice x2 m cap2] 30)).heap.size = w2.heap.size + 1 + 1 + 1 := by simp
    have hlt2 : B + 1 < w2.heap.size := (Array.getElem?_eq_some_iff.1 HE2.out).1
    obtain ⟨W0, hW0⟩ : ∃ W0, ((w2.alloc (.cells #[.slice none 0 0] 78)).alloc (.cells #[.slice x m cap] 60)).alloc (.cells #[.string tk, .slice x2 m cap2] 30) = W0 := ⟨_, rfl⟩
    rw [hW0] at bF bL bR hbW hsz ⊢
    clear hW0
    have hB0 := HB2.out.trans (hbW.mono HB2.out.size)
    have hE0 := (hbW.block _ (Array.getElem?_eq_some_iff.1 HE2.out).1).trans HE2.out
    have hR0 := (hbW.block _ (Array.getElem?_eq_some_iff.1 HR2.out).1).trans HR2.out
    obtain ⟨G0, hG⟩ : ∃ q, w2.heap.size = q := ⟨_, rfl⟩
    rw [hG] at bF bL bR hsz hlt2 ⊢
    have HSZ := Lib.hid hsz
    have hml := pgood_len hp0
    clear hG hbW
    refine wpIn_range_tells (F := Fence.wide) rfl (by omega) (gf := 107) (lb := #[.pointer (some ⟨G0 + 1, 0, none⟩), .pointer (some ⟨G0 + 1 + 1, 0, none⟩)]) rfl trivial (enters_of Try.func107 (by kernel_rfl) rfl)
      (places_tells hg hl hB0 2 (G0 + 1) (G0 + 1 + 1) (by omega) (by omega) bL bR) KP.trans (fun W l o o' hl h ho _ => KP.putObj W l o o' (by have := hB0.size; omega) (by rintro k (rfl | rfl) <;> omega) h)
      (fun xs X Y row hs hg hr => hs) (fun xs X Y row hs hg hr => hs) (fun _ => rfl)
      (ViewI gs cs (.cells #[.string tk, .slice x2 m cap2] 30 (0, 0)) w.heap.size B G0 W0.heap.size w) (fun _ _ _ => False) (ViewI.own hB0.size hB0.size) (fun c xs X Y row hs hg hr => hs)
      ⟨_, bF, World.ownsRow_nil _ _ _ _, hR0, hE0, hB0, Nat.le_refl _⟩
      (PlaceA gs cs (fun q k => #[.slice x m cap, .agg #[.string tk, .slice x2 m cap2], undef, .pointer (some ⟨B, 0, none⟩), .pointer (some ⟨B + 1, 0, none⟩), .bool false, .pointer (some ⟨G0, 0, none⟩), .pointer (some ⟨q, 0, none⟩), undef,undef, .slice x m cap, .agg #[.string tk, .slice x2 m cap2], .int .i64 0, .bool false, undef, .slice x m cap, .agg #[.string tk, .slice x2 m cap2], .func (.func 107) #[] #[.pointer (some ⟨G0 + 1, 0, none⟩), .pointer (some ⟨G0 + 1 + 1, 0, none⟩)], .agg (placeA gs cs k), undef,undef,undef,undef,undef,undef,undef,undef,undef,undef,undef,undef,undef,undef,undef,undef,undef,undef,undef,undef,undef,undef,undef,undef])) (fun k a' => PlaceA.own k a') ?assign ?body ?done ?stop
    case assign =>
      rintro q pre k W K hI - hK
      obtain ⟨vb, hb, ho, hr1, hv, hw, hs⟩ := hI
      obtain ⟨y, hck⟩ : ∃ y, cs.getD k Cl.zero = y := ⟨_, rfl⟩
      dsimp only [penc]
      rw [hck]
      obtain ⟨n, s, a, b, g, t, d, e⟩ := y
      dsimp only
      gi_wp2
      have h3 := HSZ.out
      refine hK _ _ ((KeepsOthers.alloc _ _).from _) (KP.of_below (by have := hB0.size; omega) ((Below.refl _ W).alloc (Nat.le_refl _) _)) ((ViewI.own (B9 := W0.heap.size) hB0.size hB0.size).from.alloc _ ⟨vb, hb, ho, hr1, hv, hw, hs⟩) ⟨W.heap.size, ?_,?_⟩
      · unfold placeA; rw [hck]; exact heap_alloc_new W _
      · dsimp only; unfold placeA; rw [hck]; rfl
    case body =>
      rintro q pre k a' W ⟨vb, hb, ho, hr1, hv, hw, hs⟩ ⟨g9, hpq, rfl⟩ ⟨rfl, hlt⟩
      obtain ⟨k, hkp⟩ : ∃ k, pre.length = k := ⟨_, rfl⟩
      rw [hkp] at hlt hpq ho ⊢
      unfold placeA at hpq
      dsimp only [placeA]
      have hcx := hx (cs.getD k Cl.zero) (mem_getDd (by omega))
      have hC := fun W => cseen_c (gs.getD k ([], 0)).2 (cs.getD k Cl.zero).n (cs.getD k Cl.zero).s (cs.getD k Cl.zero).a (cs.getD k Cl.zero).b (cs.getD k Cl.zero).g (cs.getD k Cl.zero).t (cs.getD k Cl.zero).d (cs.getD k Cl.zero).e hcx W
      have hcg : seenAt gs cs k = cseenS (gs.getD k ([], 0)).2 (cs.getD k Cl.zero).n (cs.getD k Cl.zero).s (cs.getD k Cl.zero).a (cs.getD k Cl.zero).b (cs.getD k Cl.zero).g (cs.getD k Cl.zero).t (cs.getD k Cl.zero).d (cs.getD k Cl.zero).e := rfl
      have hFY := @fieldsN_yes gs cs k
      have hFN := @fieldsN_no gs cs k
      have hnl := fieldsN_le gs cs k
      obtain ⟨⟨C1, C2⟩, hCC⟩ : ∃ z, seenAt gs cs k = z := ⟨_, rfl⟩
      rw [hCC] at hFY hFN
      rw [← hcg, hCC] at hC
      dsimp only at hFY hFN hC
      obtain ⟨tc, htc⟩ : ∃ z, text C1 = z := ⟨_, rfl⟩
      rw [htc] at hC
      have HTC := Lib.hid htc
      have HFY := Lib.hid hFY
      have HFN := Lib.hid hFN
      have HNL := Lib.hid hnl
      have HC := Lib.hid hC
      clear hcg hC hCC hcx hFY hFN hnl htc
      obtain ⟨⟨nm, pk⟩, hgk⟩ : ∃ y, gs.getD k ([], 0) = y := ⟨_, rfl⟩
      obtain ⟨y, hck⟩ : ∃ y, cs.getD k Cl.zero = y := ⟨_, rfl⟩
      rw [hgk, hck] at hpq HC ⊢
      obtain ⟨n, s, a, b, g, t, d, e⟩ := y
      dsimp only at hpq HC ⊢
      have e0 : W.cell? ⟨g9, 1, none⟩ = some (.int .i64 pk) := by rw [cell_of_row _ g9 1 _ _ (0, 0) hpq]; rfl
      obtain ⟨c0, c1, c2, c3, c4, c5, c6, c7⟩ := place_cells hpq
      have HH := Lib.hid (And.intro hb (And.intro ho (And.intro hr1 (And.intro hv (And.intro hw (And.intro hs hpq))))))
      clear hb ho hr1 hv hw hs hgk hck hpq
      gi_wp2_with fail
      refine ⟨trivial, (CallsIn.inRound q (callsIn_wide.2 (HC.out W))).mono ?_⟩
      rintro e w1 ⟨rfl, hb1⟩
      obtain ⟨hb, ho, hr1, hv, hw, hs, hpq⟩ := HH.out
      have h3 := HSZ.out
      have hwsz := hB0.size
      clear e0 c0 c1 c2 c3 c4 c5 c6 c7
      cases C2 with
      | false =>
        have HST2 := Lib.hid (HFN.out rfl)
        have HR := Lib.hid (show RoundPost W0.heap.size (KP w.heap.size (two9 (G0 + 1) (G0 + 1 + 1))) (fun _ => True) (ViewI gs cs (.cells #[.string tk, .slice x2 m cap2] 30 (0, 0)) w.heap.size B G0 W0.heap.size w) (fun _ _ _ => False) pre k W .normal { tmps := #[], defers := [] } w1 from
          ⟨below_keeps hb1, KP.of_below (by omega) hb1, trivial, ⟨vb, (hb1.block _ hb.lt).trans hb, by rw [List.length_append, List.length_singleton, hkp, HST2.out]; exact own_kept ho hb1, (hb1.block _ (Array.getElem?_eq_some_iff.1 hr1).1).trans hr1, (hb1.block _ (Array.getElem?_eq_some_iff.1 hv).1).trans hv, hw.trans (hb1.mono (by omega)), Nat.le_trans hs hb1.size⟩⟩)
        clear hb ho hr1 hv hw hs hpq
        gi_wp2
        exact HR.out
      | true =>
        have HST2 := Lib.hid (HFY.out rfl)
        have hb1x : Boxed w1 G0 78 vb := (hb1.block _ hb.lt).trans hb
        have ho1 : OwnF w1 W0.heap.size vb (fieldsN gs cs k) := own_kept ho hb1
        have hr1x := (hb1.block _ (Array.getElem?_eq_some_iff.1 hr1).1).trans hr1
        have hv1x := (hb1.block _ (Array.getElem?_eq_some_iff.1 hv).1).trans hv
        have hw1 := hw.trans (hb1.mono (by omega))
        have h4 := hb1.size
        have hpq1 := (hb1.block _ (Array.getElem?_eq_some_iff.1 hpq).1).trans hpq
        have e0 : w1.cell? ⟨g9, 0, none⟩ = some (.int .i64 (k : Int)) := by rw [cell_of_row _ g9 0 _ _ (0, 0) hpq1]; rfl
        have cb := hb1x.cell
        have hnx : (fieldsN gs cs k).length ≤ 1000000000 := by have := HNL.out; omega
        obtain ⟨Z, hZ⟩ : ∃ z, fieldsN gs cs k = z := ⟨_, rfl⟩
        rw [hZ] at ho1 hnx HST2
        have HBX := Lib.hid hb1x
        have HO1 := Lib.hid ho1
        have HX1 := Lib.hid hr1x
        have HV1 := Lib.hid hv1x
        have HW1 := Lib.hid hw1
        have HB01 := Lib.hid hb1
        have HS := Lib.hid hs
        have H4 := Lib.hid h4
        clear hb ho hr1 hv hw hb1 hb1x hr1x hv1x hw1 hZ hpq hpq1 hs h4
        gi_wp2_with (gi_at_builtin; refine wpListIn_append_fld rfl _ _ rfl (v := vb) rfl HO1.out C1 HTC.out.symm rfl hnx (by have := HS.out; have := H4.out; omega) ?_; intro g' cap' w2' hown' hgrow; have hx2 : Boxed w2' G0 78 vb := (HBX.out.alloc _).kept hgrow (HBX.out.not_row (by decide) HO1.out); have hL : LeavesT 96 (fun j => j = G0) W0.heap.size w1 w2' := (LeavesT.alloc w1 _).trans (LeavesT.append (HO1.out.alloc _) hgrow); have cx2 := hx2.cell; have fx2 := hx2.frozen)
        have hL2 := (LeavesT.below HB01.out).trans (hL.trans (LeavesT.setCell (Bs := fun j => j = G0) w2' (B := G0) rfl (.slice (some ⟨g', 0, none⟩) (Z.length + 1) cap')))
        obtain ⟨hb, ho, hr1, hv, hw, hs, hpq⟩ := HH.out
        have h4 := H4.out
        have hb3 := (((Below.refl w.heap.size w1).alloc (by omega) _).grown hgrow (by simp; omega) (fun k e => by have := (World.ownsRow.lt HO1.out k e).1; omega)).setCell (p := ⟨G0, 0, none⟩) (by have := HBe.out; simp; omega) (.slice (some ⟨g', 0, none⟩) (Z.length + 1) cap')
        have ho2 := own_set (i := 0) (u := .slice (some ⟨g', 0, none⟩) (Z.length + 1) cap') hx2 (by decide) hown'
        refine ⟨hL2.keeps (by rintro j rfl; omega), ⟨(HB01.out.mono (by omega)).trans hb3, fun j o hj ho => hL2.same j o ho (by rcases hj with rfl | rfl <;> omega) (.inl (by rcases hj with rfl | rfl <;> omega))⟩, trivial, ⟨_, hx2.set _, ?_, hL2.same _ _ hr1 (by omega) (.inl (by omega)), hL2.same _ _ hv (by omega) (.inl (by omega)), HW1.out.trans hb3, Nat.le_trans hs hL2.size⟩⟩
        rw [List.length_append, List.length_singleton, hkp, HST2.out]
        exact ho2
    case done =>
      rintro D xs W hD hxs ⟨vb, hb, ho, hr1, hv, hw, hs⟩ hK
      have hlx : xs.length = gs.length := by omega
      rw [hlx] at ho
      obtain ⟨a9, cap9, rfl, -⟩ := OwnF.flds ho
      have cb := hb.cell
      have r0 : W.cell? ⟨B, 0, none⟩ = some (.string tk) := by rw [cell_of_row _ B 0 _ _ (0, 0) hr1]; rfl
      have v0 : W.cell? ⟨B + 1, 0, none⟩ = some (.string ⟨#[]⟩) := by rw [cell_of_row _ (B + 1) 0 _ _ (0, 0) hv]; rfl
      have v1 : W.cell? ⟨B + 1, 1, none⟩ = some (.slice none 0 0) := by rw [cell_of_row _ (B + 1) 1 _ _ (0, 0) hv]; rfl
      have vf : ∀ i, W.frozen? ⟨B + 1, i, none⟩ = false := fun i => frozen_of_row _ (B + 1) i _ _ hv
      have HDB := Lib.hid (show B + 1 < D by have := HSZ.out; omega)
      have HFIN := Lib.hid (fun (X : World) (k0 : ByteArray) (u : Value) (hX : X = ((W.setCell ⟨B + 1, 0, none⟩ (.string k0)).setCell ⟨B + 1, 1, none⟩ u)) => 
        And.intro (show (X.putObj D (.deferred none)).heap[B + 1]? = some (.cells #[.string k0, u] 80 (0, 0)) by
          subst hX
          exact (World.putObj_heap_other (by have := HDB.out; omega)).trans (HSET.out W hv k0 u))
        (show Below w.heap.size w (X.putObj D (.deferred none)) by
          have hkX : X.heap[D]? = some (.deferred (some [])) := by
            subst hX
            exact (Below.heap_setCell _ ⟨B + 1, 1, none⟩ u D (by have := HDB.out; simp; omega)).trans ((Below.heap_setCell _ ⟨B + 1, 0, none⟩ (.string k0) D (by have := HDB.out; simp; omega)).trans hK)
          have hwX : Below w.heap.size w X := by
            subst hX
            exact (hw.setCell (p := ⟨B + 1, 0, none⟩) (by have := HBe.out; simp; omega) _).setCell (p := ⟨B + 1, 1, none⟩) (by have := HBe.out; simp; omega) _
          exact hwX.trans (belowK_b (w := w) (Nat.le_refl _) X D _ _ (by have := HDB.out; have := HBe.out; omega) hkX rfl rfl)))
      have HKX := Lib.hid (fun (k0 : ByteArray) (u : Value) => (show ((W.setCell ⟨B + 1, 0, none⟩ (.string k0)).setCell ⟨B + 1, 1, none⟩ u).heap[D]? = some (.deferred (some [])) from (Below.heap_setCell _ ⟨B + 1, 1, none⟩ u D (by have := HDB.out; simp; omega)).trans ((Below.heap_setCell _ ⟨B + 1, 0, none⟩ (.string k0) D (by have := HDB.out; simp; omega)).trans hK)))
      have HOW := Lib.hid (fun (k0 : ByteArray) (u : Value) => (show ((W.setCell ⟨B + 1, 0, none⟩ (.string k0)).setCell ⟨B + 1, 1, none⟩ u).ownsRow W0.heap.size 96 2 (.slice a9 (fieldsN gs cs gs.length).length cap9) (fieldsN gs cs gs.length).length (fCells (fieldsN gs cs gs.length)) by
        have h1 := own_set (i := 0) (u := .string k0) hv (by decide) ho
        have hv1 : (W.setCell ⟨B + 1, 0, none⟩ (.string k0)).heap[B + 1]? = some (.cells #[.string k0, .slice none 0 0] 80 (0, 0)) := (heap_setCell_same _ (B + 1) 0 _ _ _ hv).trans rfl
        exact own_set (i := 1) (u := u) hv1 (by decide) h1))
      obtain ⟨F, hF⟩ : ∃ z, fieldsN gs cs gs.length = z := ⟨_, rfl⟩
      rw [hF] at HOW H1 H2 cb
      obtain ⟨f, hf⟩ : ∃ z, F.length = z := ⟨_, rfl⟩
      rw [hf] at HOW H1 H2 cb
      have HF := Lib.hid hf
      have HH2 := Lib.hid (fun h : f ≠ 0 => H2.out (by first | rfl | trivial) h)
      have hB5 := hB0.size
      clear hb ho hr1 hv hw hs hK hxs hF hf hlx H2
      by_cases hz : f = 0
      · subst hz
        have HR := Lib.hid (H1.out (by first | rfl | trivial))
        gi_wp2
        refine ⟨by simp, .inl ⟨_, _, rfl, run_takeDeferred (HKX.out _ _), ?_⟩⟩
        obtain ⟨q1, q2⟩ := HFIN.out _ ⟨#[]⟩ (.slice none 0 0) rfl
        refine ⟨_, res_cell_tmp rfl _ _ (B + 1) 80 _ (0, 0) _ _ rfl rfl q1 Try.underlying80 rfl (by kernel_rfl), ?_⟩
        rw [HR.out]
        exact ⟨_, rfl, OwnF.nil _ _, q2⟩
      · have hzi : ((f : Int) == 0) = false := by rw [beq_eq_false_iff_ne]; omega
        have hzj : ¬ (f : Int) = 0 := by omega
        have HR := Lib.hid (HH2.out hz)
        gi_wp2
        refine ⟨by simp, .inl ⟨_, _, rfl, run_takeDeferred (HKX.out _ _), ?_⟩⟩
        obtain ⟨q1, q2⟩ := HFIN.out _ tk (.slice a9 f cap9) rfl
        refine ⟨_, res_cell_tmp rfl _ _ (B + 1) 80 _ (0, 0) _ _ rfl rfl q1 Try.underlying80 rfl (by kernel_rfl), ?_⟩
        rw [HR.out]
        refine ⟨_, by rw [HTK.out]; rfl, ?_, q2⟩
        show World.ownsRow _ _ _ _ _ F.length _
        rw [HF.out]
        exact own_mono (ownsRow_putObj (HOW.out tk _) (.deferred none) (HKX.out _ _) rfl) (by omega)
    case stop => exact fun D c pre W hD _ hf => hf.elim
  · have h0n : (R != 0) = true := by simpa using h0
    have HR := Lib.hid (H0.out h0)
    clear h0
    gi_wp2
    have hst := HSET.out w2 HE2.out ⟨#[]⟩ (.slice none 0 0)
    refine ⟨_, res_cell_tmp rfl _ _ (B + 1) 80 _ (0, 0) _ _ rfl rfl hst Try.underlying80 rfl (by kernel_rfl), ?_⟩
    rw [HR.out]
    exact ⟨_, rfl, OwnF.nil _ _, (HB2.out.setCell (p := ⟨B + 1, 0, none⟩) (by have := HBe.out; simp; omega) _).setCell (p := ⟨B + 1, 1, none⟩) (by have := HBe.out; simp; omega) _⟩
end Go.Proofs.Ytidbjmkfmfojdaa
end

section
namespace Go.Proofs.Ytidbjmkfmfojdaa
open Go.RowKit Go Go.Sort
set_option linter.unusedVariables false
set_option maxRecDepth 20000

def zerosC (n : Nat) : List Cl := List.replicate n Cl.zero
theorem zerosC_cells (n : Nat) (h : n ≤ 4) : (madeCells (Value.agg #[.int .i64 0, .int .i64 0, .int .i64 0, .int .i64 0, .bool false, .string ⟨#[]⟩, .int .i64 0, .int .i64 0]).cells (n * 8)).toList = cCells (zerosC n) := by
  rcases (by omega : n = 0 ∨ n = 1 ∨ n = 2 ∨ n = 3 ∨ n = 4) with rfl | rfl | rfl | rfl | rfl <;> kernel_rfl
/-- A new row, or why there is none. -/
def rnewS (gs : List Grp) (key : List UInt8) : List UInt8 × List Cl × Int :=
  if rgoodS gs key (zerosC (min gs.length 4)) = 0 then (key, zerosC (min gs.length 4), 0) else ([], [], rgoodS gs key (zerosC (min gs.length 4)))
/-- A row with cells of the call's own, and a number. -/
def RowPost (r : List UInt8 × List Cl × Int) (w : World) (e : Ending) (w' : World) : Prop :=
  ∃ v, e = .returned (.tuple #[.agg #[.string (text r.1), v], .int .i64 r.2.2]) ∧ OwnC w' w.heap.size v r.2.1 ∧ Below w.heap.size w w'
theorem row_set {W : World} {q : Nat} {k0 : ByteArray} {v0 : Value} (h : W.heap[q]? = some (.cells #[.string k0, v0] 30 (0, 0))) (k : ByteArray) (v : Value) :
    ((W.setCell ⟨q, 0, none⟩ (.string k)).setCell ⟨q, 1, none⟩ v).heap[q]? = some (.cells #[.string k, v] 30 (0, 0)) := by
  have h0 : (W.setCell ⟨q, 0, none⟩ (.string k)).heap[q]? = some (.cells #[.string k, v0] 30 (0, 0)) := (heap_setCell_same _ q 0 _ _ _ h).trans rfl
  exact (heap_setCell_same _ q 1 _ _ _ h0).trans rfl
theorem row_cells {W : World} {q : Nat} {k0 : ByteArray} {v0 : Value} (h : W.heap[q]? = some (.cells #[.string k0, v0] 30 (0, 0))) :
    W.cell? ⟨q, 0, none⟩ = some (.string k0) ∧ W.cell? ⟨q, 1, none⟩ = some v0 ∧ ∀ i, W.frozen? ⟨q, i, none⟩ = false :=
  ⟨by rw [cell_of_row _ q 0 _ _ (0, 0) h]; rfl, by rw [cell_of_row _ q 1 _ _ (0, 0) h]; rfl, fun i => frozen_of_row _ q i _ _ h⟩

set_option maxRecDepth 100000 in
set_option maxHeartbeats 3200000 in
theorem rownew_c {w : World} {x : Option Addr} {n1 cap : Nat} {gs : List Grp} (hg : Grs w x n1 cap gs) (hs : ∀ g ∈ gs, g.1.length ≤ 9223372036854775807) (key : List UInt8) (hk : key.length ≤ 9223372036854775807) :
    Calls Try.prog 119 #[.slice x n1 cap, .string (text key)] w (RowPost (rnewS gs key) w) := by
  have hgl := hg.len
  obtain ⟨i0, hi, hz0, hz1, hz2⟩ := info_parts Try.infoC
  obtain ⟨N, hN⟩ : ∃ N, min gs.length 4 = N := ⟨_, rfl⟩
  have hN4 : N ≤ 4 := by omega
  have hmin : min (n1 : Int) 4 = (N : Int) := by omega
  have hZC := zerosC_cells N hN4
  have hzl : (zerosC N).length = N := by simp [zerosC]
  have hGD := fun W (h : Below w.heap.size w W) (a : Option Addr) (c : Nat) (hl : Cls W a N c (zerosC N)) => rowgood_c (hg.below h) hs hl (fun c hc => by rw [List.eq_of_mem_replicate hc]; decide) key hk
  have hRV : rnewS gs key = if rgoodS gs key (zerosC N) = 0 then (key, zerosC N, 0) else ([], [], rgoodS gs key (zerosC N)) := by unfold rnewS; rw [hN]
  obtain ⟨R, hR⟩ : ∃ z, rgoodS gs key (zerosC N) = z := ⟨_, rfl⟩
  simp only [hR] at hGD hRV
  obtain ⟨tk, htk⟩ : ∃ z, text key = z := ⟨_, rfl⟩
  rw [htk] at hGD ⊢
  have HTK := Lib.hid htk
  have hr0 := heap_alloc_new w (.cells #[.string ⟨#[]⟩, .slice none 0 0] 30)
  have hb0 := alloc_below w (.cells #[.string ⟨#[]⟩, .slice none 0 0] 30)
  have HGD := Lib.hid hGD
  have HRV := Lib.hid hRV
  have HZC := Lib.hid hZC
  have HZL := Lib.hid hzl
  clear hGD hRV hZC hR htk hk hN hzl
  go_enter Try.func119, Try.ntmps119
  go_upto_region 1 with (fail)
  have HBe := Lib.hid (rfl : w.heap.size = w.heap.size)
  obtain ⟨W1, hW1⟩ : ∃ X, w.alloc (.cells #[.string ⟨#[]⟩, .slice none 0 0] 30) = X := ⟨_, rfl⟩
  rw [hW1] at hr0 hb0 ⊢
  clear hW1
  have HR0 := Lib.hid hr0
  have HB0 := Lib.hid hb0
  clear hr0 hb0
  go_upto_region 2 with (fail)
  go_upto_region 3 with (refine wpList_make_full _ rfl _ _ _ rfl w.heap.size 75 i0 _ 8 Try.underlying28 hi hz0 hz1 .i64 .i64 _ _ N rfl rfl rfl rfl (by rw [hz2]; omega) (by unfold maxLen; omega) HB0.out.size ?_; intro w2 ho2 hg2)
  rw [HZC.out] at ho2
  obtain ⟨S1, hS1⟩ : ∃ q, W1.heap.size = q := ⟨_, rfl⟩
  rw [hS1] at ho2 ⊢
  have hoc : OwnC w2 w.heap.size (.slice (some ⟨S1, 0, none⟩) N N) (zerosC N) := by unfold OwnC; rw [HZL.out]; exact ho2
  have hb2 := HB0.out.grown hg2 HB0.out.size (fun k e => by cases e)
  have hr2 := (hg2.block _ (Array.getElem?_eq_some_iff.1 HR0.out).1 (fun e => by cases e)).trans HR0.out
  have hr3 := heap_alloc_new w2 (.cells #[.string tk, .slice (some ⟨S1, 0, none⟩) N N] 30)
  have hb3 := hb2.alloc hb2.size (.cells #[.string tk, .slice (some ⟨S1, 0, none⟩) N N] 30)
  have hoc3 := hoc.kept (alloc_below w2 (.cells #[.string tk, .slice (some ⟨S1, 0, none⟩) N N] 30))
  have hr23 := ((alloc_below w2 (.cells #[.string tk, .slice (some ⟨S1, 0, none⟩) N N] 30)).block _ (Array.getElem?_eq_some_iff.1 hr2).1).trans hr2
  have hlt := (Array.getElem?_eq_some_iff.1 hr2).1
  obtain ⟨S2, hS2⟩ : ∃ q, w2.heap.size = q := ⟨_, rfl⟩
  rw [hS2] at hr3 hlt ⊢
  obtain ⟨W3, hW3⟩ : ∃ X, w2.alloc (.cells #[.string tk, .slice (some ⟨S1, 0, none⟩) N N] 30) = X := ⟨_, rfl⟩
  rw [hW3] at hr3 hb3 hoc3 hr23 ⊢
  clear hW3 hS2 hS1 ho2 hoc hb2 hr2 hg2 HZC
  obtain ⟨p0, p1, pf⟩ := row_cells hr3
  obtain ⟨a9, c9, ev9, hcls⟩ := hoc3.cls
  rw [HZL.out] at ev9 hcls
  cases ev9
  have HC := Lib.hid (HGD.out W3 hb3 _ _ hcls)
  have HR3 := Lib.hid hr3
  have HB3 := Lib.hid hb3
  have HO3 := Lib.hid hoc3
  have HR0 := Lib.hid hr23
  have HLT := Lib.hid hlt
  clear hr3 hb3 hoc3 hr23 hlt hcls HGD HB0 pf
  go_upto_region 4 with (go_at_call 60; (with_reducible refine HC.out.mono ?_); rintro e9 w4 ⟨rfl, hb4⟩)
  have hr4 := (hb4.block _ (Array.getElem?_eq_some_iff.1 HR3.out).1).trans HR3.out
  have hr04 := (hb4.block _ (Array.getElem?_eq_some_iff.1 HR0.out).1).trans HR0.out
  have HB4 := Lib.hid (HB3.out.trans (hb4.mono HB3.out.size))
  have HO4 := Lib.hid (HO3.out.kept hb4)
  clear hb4 p0 p1 HC
  obtain ⟨p0, p1, -⟩ := row_cells hr4
  obtain ⟨q0, q1, qf⟩ := row_cells hr04
  have HS := Lib.hid (fun (k : ByteArray) (v : Value) => row_set hr04 k v)
  have HX := Lib.hid (fun (k : ByteArray) (v : Value) => (HB4.out.setCell (p := ⟨w.heap.size, 0, none⟩) (by simp) (.string k)).setCell (p := ⟨w.heap.size, 1, none⟩) (by simp) v)
  have HOX := Lib.hid (fun (k : ByteArray) (v : Value) => (own_set (i := 1) (u := v) (show (w4.setCell ⟨w.heap.size, 0, none⟩ (.string k)).heap[w.heap.size]? = _ from (heap_setCell_same _ _ 0 _ _ _ hr04).trans rfl) (by decide) (own_set (i := 0) (u := .string k) hr04 (by decide) HO4.out) : OwnC _ w.heap.size (.slice (some ⟨S1, 0, none⟩) N N) (zerosC N)))
  clear hr4 hr04 HR3 HR0 HB3 HO3 HB4 HO4
  by_cases h0 : R = 0
  · subst h0
    have HV := Lib.hid (show rnewS gs key = (key, zerosC N, 0) by rw [HRV.out]; rfl)
    clear HRV
    go_wp2

    refine bodyPost_ret (res_cell_tmp rfl _ _ w.heap.size 30 _ (0, 0) _ (.int .i64 0) rfl rfl (HS.out tk (.slice (some ⟨S1, 0, none⟩) N N)) Try.underlying30 rfl (by kernel_rfl)) rfl ?_
    rw [HV.out]
    exact ⟨_, by rw [HTK.out], HOX.out _ _, HX.out _ _⟩
  · have h0n : (R != 0) = true := by simpa using h0
    have HV := Lib.hid (show rnewS gs key = ([], [], R) by rw [HRV.out, if_neg h0])
    clear HRV h0
    go_wp2
    refine bodyPost_ret (res_cell_tmp rfl _ _ w.heap.size 30 _ (0, 0) _ (.int .i64 R) rfl rfl (HS.out ⟨#[]⟩ (.slice none 0 0)) Try.underlying30 rfl (by kernel_rfl)) rfl ?_
    rw [HV.out]
    exact ⟨_, rfl, OwnC.nil _ _, HX.out _ _⟩
end Go.Proofs.Ytidbjmkfmfojdaa
end

section
namespace Go.Proofs.Ytidbjmkfmfojdaa
open Go.RowKit Go Go.Sort
set_option linter.unusedVariables false
set_option maxRecDepth 20000

/-- Rows in memory, one behind the other. -/
def RowsAt (W : World) (q : Nat) (rows : List (List UInt8 × List Cl)) : Prop :=
  ∀ i, i < rows.length → ∃ a m c, W.cell? ⟨q, i * 2, none⟩ = some (.string (text (rows.getD i ([], [])).1)) ∧ W.cell? ⟨q, i * 2 + 1, none⟩ = some (.slice a m c) ∧ Cls W a m c (rows.getD i ([], [])).2
theorem RowsAt.below {W W' : World} {q : Nat} {rows : List (List UInt8 × List Cl)} (h : RowsAt W q rows) (hb : Below W.heap.size W W') : RowsAt W' q rows := by
  intro i hi
  obtain ⟨a, m, c, h1, h2, h3⟩ := h i hi
  exact ⟨a, m, c, by rw [hb.cell (World.block_lt_of_cell? W _ h1)]; exact h1, by rw [hb.cell (World.block_lt_of_cell? W _ h2)]; exact h2, h3.below hb⟩
end Go.Proofs.Ytidbjmkfmfojdaa
end

section
namespace Go.Proofs.Ytidbjmkfmfojdaa
open Go.RowKit Go Go.Sort
set_option linter.unusedVariables false
set_option maxRecDepth 20000

set_option maxHeartbeats 1600000 in
theorem rkey_c (key : List UInt8) (hk : key.length ≤ 9223372036854775807) (w : World) : Calls Try.prog 88 #[.string (text key)] w (fun e w' => e = .returned (.int .i64 (keyS key)) ∧ w' = w) := by
  have hts := text_nilb key
  have hsz : ((text key).size : Int) = (key.length : Int) := by rw [text_size]
  have HK2 := Lib.hid (@key_nil key)
  have HK3 := Lib.hid (@key_long key)
  have HK0 := Lib.hid (@key_ok key)
  obtain ⟨K0, hK⟩ : ∃ z, keyS key = z := ⟨_, rfl⟩
  obtain ⟨kb, hkb⟩ : ∃ z, (key == []) = z := ⟨_, rfl⟩
  obtain ⟨kl, hkl⟩ : ∃ z, key.length = z := ⟨_, rfl⟩
  obtain ⟨tk, htk⟩ : ∃ z, text key = z := ⟨_, rfl⟩
  rw [hK, htk]
  simp only [hkb, hkl, hK] at HK2 HK3 HK0
  rw [hkb, htk] at hts
  rw [hkl, htk] at hsz
  clear hK hkb hkl htk hk
  cases kb with
  | true =>
    have HR := Lib.hid (HK2.out rfl)
    go_enter Try.func88, Try.ntmps88
    go_wp2
    go_ret
    exact ⟨by rw [HR.out]; rfl, rfl⟩
  | false =>
    by_cases h2 : 32 < kl
    · have h2i : (32 : Int) < (kl : Int) := by omega
      have HR := Lib.hid (HK3.out rfl h2)
      go_enter Try.func88, Try.ntmps88
      go_wp2
      go_ret
      exact ⟨by rw [HR.out]; rfl, rfl⟩
    · have h2i : ¬ (32 : Int) < (kl : Int) := by omega
      have HR := Lib.hid (HK0.out rfl h2)
      go_enter Try.func88, Try.ntmps88
      go_wp2
      go_ret
      exact ⟨by rw [HR.out]; rfl, rfl⟩

set_option maxRecDepth 100000 in
set_option maxHeartbeats 6400000 in
theorem rrowgood_c {w : World} {x x2 : Option Addr} {n1 cap m cap2 : Nat} {gs : List Grp} {cs : List Cl} (hg : Grs w x n1 cap gs) (hs : ∀ g ∈ gs, g.1.length ≤ 9223372036854775807)
    (hl : Cls w x2 m cap2 cs) (hx : ∀ c ∈ cs, c.t.length ≤ 9223372036854775807) (key : List UInt8) (hk : key.length ≤ 9223372036854775807) :
    Calls Try.prog 63 #[.slice x n1 cap, .agg #[.string (text key), .slice x2 m cap2]] w (Tells (.int .i64 (rgoodS gs key cs)) w) := by
  have hgl := hg.len
  have hll := hl.len
  have hle1 := hg.le
  have hmax1 := hg.max
  have hle2 := hl.le
  have hmax2 := hl.max
  have hPG := fun W (h : Below w.heap.size w W) => rpgood_c (hg.below h) hs
  have hKY := fun W => rkey_c key hk W
  have H0 := Lib.hid (@rgood_pol gs key cs)
  have H1 := Lib.hid (@rgood_key gs key cs)
  have H2 := Lib.hid (@rgood_len gs key cs)
  have H3 := Lib.hid (@rgood_bad gs key cs)
  have H4 := Lib.hid (@rgood_yes gs key cs)
  have HG := Lib.hid hg
  have HL := Lib.hid hl
  obtain ⟨R, hR⟩ : ∃ z, rgoodS gs key cs = z := ⟨_, rfl⟩
  obtain ⟨P0, hP⟩ : ∃ z, pgoodS gs = z := ⟨_, rfl⟩
  obtain ⟨K0, hK⟩ : ∃ z, keyS key = z := ⟨_, rfl⟩
  obtain ⟨tk, htk⟩ : ∃ z, text key = z := ⟨_, rfl⟩
  simp only [hR, hP, hK, hgl, hll] at H0 H1 H2 H3 H4
  simp only [hP] at hPG
  simp only [hK, htk] at hKY
  rw [hR, htk]
  have HPG := Lib.hid hPG
  have HKY := Lib.hid hKY
  have hb := alloc_below w (.cells #[.string tk, .slice x2 m cap2] 30)
  have hr := heap_alloc_new w (.cells #[.string tk, .slice x2 m cap2] 30)
  clear hR hP hK htk hk hPG hKY hg hl
  go_enter Try.func63, Try.ntmps63
  go_upto_region 1 with (fail)
  obtain ⟨B, hB⟩ : ∃ q, w.heap.size = q := ⟨_, rfl⟩
  have HBe := Lib.hid hB
  rw [hB] at hr ⊢
  clear hB
  generalize w.alloc (.cells #[.string tk, .slice x2 m cap2] 30) = W1 at *
  have HR1 := Lib.hid hr
  have HB1 := Lib.hid hb
  clear hr hb
  go_upto_region 2 with (go_at_call 62; (with_reducible refine (HPG.out _ HB1.out).mono ?_); rintro e9 w2 ⟨rfl, hb2⟩)
  have HR2 := Lib.hid ((hb2.block _ (Array.getElem?_eq_some_iff.1 HR1.out).1).trans HR1.out)
  have HB2 := Lib.hid (HB1.out.trans (hb2.mono HB1.out.size))
  have r0 : w2.cell? ⟨B, 0, none⟩ = some (.string tk) := by rw [cell_of_row _ B 0 _ _ (0, 0) HR2.out]; rfl
  have r1 : w2.cell? ⟨B, 1, none⟩ = some (.slice x2 m cap2) := by rw [cell_of_row _ B 1 _ _ (0, 0) HR2.out]; rfl
  clear hb2 HR1 HB1 HPG
  by_cases h0 : P0 = 0
  · subst h0
    by_cases h1 : K0 = 0
    · subst h1
      by_cases hmn : m = n1
      · subst hmn
        have HKZ := Lib.hid (show (0 : Int) = 0 from rfl)
        have hmi : ((m : Int) != (m : Int)) = false := by simp
        go_wp2_with (go_at_call 88; (with_reducible refine (HKY.out _).mono ?_); rintro e9 w9 ⟨rfl, rfl⟩)
        clear r0 r1
        go_loopw [6] (fun i wr => ∃ k : Nat, k ≤ m ∧ i = .int .i64 k ∧ (∀ j, j < k → cgAt gs cs j = true) ∧ Below w.heap.size w wr ∧ wr.heap[B]? = some (.cells #[.string tk, .slice x2 m cap2] 30 (0, 0))) (fun i _ => m - (intOf i).toNat)
        case atStart => exact ⟨0, by omega, rfl, fun j hj => by omega, HB2.out, HR2.out⟩
        case round =>
          clear HB2 HR2
          obtain ⟨i, hk, rfl, hgd, hB, hr⟩ := hrel
          by_cases hlt : i < m
          · have hki : (i : Int) < (m : Int) := by omega
            have hki1 : (i : Int) < (cap : Int) := by omega
            have hki2 : (i : Int) < (cap2 : Int) := by omega
            obtain ⟨bg, offg, rfl, hatg⟩ := HG.out.at hlt
            obtain ⟨bk, off, rfl, hat⟩ := HL.out.at hlt
            have hcx := hx (cs.getD i Cl.zero) (mem_getDd (by omega))
            have hcg : cgAt gs cs i = (cs.getD i Cl.zero).good (gs.getD i ([], 0)).2 := rfl
            obtain ⟨⟨nm, pk⟩, hgk⟩ : ∃ y, gs.getD i ([], 0) = y := ⟨_, rfl⟩
            obtain ⟨y, hck⟩ : ∃ y, cs.getD i Cl.zero = y := ⟨_, rfl⟩
            rw [hck] at hat hcx hcg
            rw [hgk] at hatg hcg
            obtain ⟨n, s, a, b, g, t, d, e⟩ := y
            simp only at hcx
            have hC := fun W => rcgood_c pk n s a b g t d e hcx W
            obtain ⟨C, hCC⟩ : ∃ z, cgAt gs cs i = z := ⟨_, rfl⟩
            rw [show cgoodS pk n s a b g t d e = C from by rw [← hCC, hcg]; rfl] at hC
            have HCC := Lib.hid hCC
            have HC := Lib.hid hC
            have HGD := Lib.hid hgd
            have HB := Lib.hid hB
            have HR := Lib.hid hr
            have HGW := Lib.hid (fun W (h : Below wr.heap.size wr W) => hatg W (hB.trans (h.mono hB.size)))
            have HPW := Lib.hid (fun W (h : Below wr.heap.size wr W) => hat W (hB.trans (h.mono hB.size)))
            have HRB := Lib.hid (fun W (h : Below wr.heap.size wr W) => (show W.cell? ⟨B, 1, none⟩ = some (.slice (some ⟨bk, off, none⟩) m cap2) by rw [cell_of_row _ B 1 _ _ (0, 0) ((h.block _ (Array.getElem?_eq_some_iff.1 hr).1).trans hr)]; rfl))
            clear hgd hB hr hat hatg hcx hcg hC hCC hgk hck
            go_upto_region 12 with (fail)
            refine wp_region_flow [none,none,none,none,none,none,none,none,none,none,none,none,none,none,none,none,none,none,none,none,none,none,none,none,none,none,none,none,none,none, some 0, some 1, some 2, some 3, some 4, some 5, some 6, some 7, some 8, some 9, some 10, some 11] (fun i => [u30, u31, u32, u33, u34, u35, u36, u37, u38, u39, u40, u41].getD i undef) [(fun v _ => v = .slice (some ⟨bg, offg, none⟩) m cap), (fun v _ => v = .int .i64 (i : Int)), (fun v _ => v = .pointer (some ⟨bg, offg + i * 2, none⟩)), (fun v _ => v = .pointer (some ⟨bg, offg + i * 2 + 1, none⟩)), (fun v _ => v = .int .i64 pk), (fun v _ => v = .pointer (some ⟨B, 1, none⟩)), (fun v _ => v = .slice (some ⟨bk, off, none⟩) m cap2), (fun v _ => v = .int .i64 (i : Int)), (fun v _ => v = .pointer (some ⟨bk, off + i * 8, none⟩)), (fun v _ => v = .agg #[.int .i64 n, .int .i64 s, .int .i64 a, .int .i64 b, .bool g, .string (text t), .int .i64 d, .int .i64 e]), (fun v _ => v = .bool C), (fun v _ => v = .bool (!C))] (by kernel_rfl) (by kernel_rfl) rfl rfl rfl ?_ ?_ ?_
            · intro g hg v X Y hX hY hv
              simp only [List.mem_cons, List.not_mem_nil, or_false] at hg
              rcases hg with rfl | rfl | rfl | rfl | rfl | rfl | rfl | rfl | rfl | rfl | rfl | rfl
              all_goals first
                | exact hv
                | exact hv.kept hY
            · simp only [flowOps, and_true]
              refine ⟨?_,?_,?_,?_,?_,?_,?_,?_,?_,?_,?_,?_⟩
              · intro xs W hW hn
                simp only [flowAct, zwc, zwn]
                go_wp2_with (fail)
                exact ⟨rfl, _, rfl, Below.refl _ _, rfl⟩
              · intro xs W hW hn
                simp only [flowAct, zwc, zwn]
                go_wp2_with (fail)
                exact ⟨rfl, _, rfl, Below.refl _ _, rfl⟩
              · intro xs W hW hn
                simp [flowNeeds, Region.binds] at hn
                simp only [flowAct, zwc, zwn]
                try simp only [hn]
                go_wp2_with (fail)
                exact ⟨rfl, _, rfl, Below.refl _ _, rfl⟩
              · intro xs W hW hn
                simp [flowNeeds, Region.binds] at hn
                simp only [flowAct, zwc, zwn]
                try simp only [hn]
                go_wp2_with (fail)
                exact ⟨rfl, _, rfl, Below.refl _ _, rfl⟩
              · intro xs W hW hn
                obtain ⟨g0, g1⟩ := HGW.out W hW
                simp only at g0 g1
                simp [flowNeeds, Region.binds] at hn
                simp only [flowAct, zwc, zwn]
                try simp only [hn]
                go_wp2_with (fail)
                exact ⟨rfl, _, rfl, Below.refl _ _, rfl⟩
              · intro xs W hW hn
                simp only [flowAct, zwc, zwn]
                go_wp2_with (fail)
                exact ⟨rfl, _, rfl, Below.refl _ _, rfl⟩
              · intro xs W hW hn
                have rb1 := HRB.out W hW
                simp [flowNeeds, Region.binds] at hn
                simp only [flowAct, zwc, zwn]
                try simp only [hn]
                go_wp2_with (fail)
                exact ⟨rfl, _, rfl, Below.refl _ _, rfl⟩
              · intro xs W hW hn
                simp only [flowAct, zwc, zwn]
                go_wp2_with (fail)
                exact ⟨rfl, _, rfl, Below.refl _ _, rfl⟩
              · intro xs W hW hn
                simp [flowNeeds, Region.binds] at hn
                simp only [flowAct, zwc, zwn]
                try simp only [hn]
                go_wp2_with (fail)
                exact ⟨rfl, _, rfl, Below.refl _ _, rfl⟩
              · intro xs W hW hn
                obtain ⟨p0, p1, p2, p3, p4, p5, p6, p7⟩ := HPW.out W hW
                simp only at p0 p1 p2 p3 p4 p5 p6 p7
                simp [flowNeeds, Region.binds] at hn
                simp only [flowAct, zwc, zwn]
                try simp only [hn]
                go_wp2_with (fail)
                exact ⟨rfl, _, rfl, Below.refl _ _, rfl⟩
              · intro xs W hW hn
                simp [flowNeeds, Region.binds] at hn
                simp only [flowAct, zwc, zwn]
                simp only [hn]
                go_wp2_with (go_at_call 89; (with_reducible refine (HC.out _).mono ?_); rintro e9 w9 ⟨rfl, hb9⟩)
                exact ⟨rfl, _, rfl, hb9, rfl⟩
              · intro xs W hW hn
                simp [flowNeeds, Region.binds] at hn
                simp only [flowAct, zwc, zwn]
                try simp only [hn]
                go_wp2_with (fail)
                exact ⟨rfl, _, rfl, Below.refl _ _, rfl⟩
            · intro xs W hW hall
              simp only [flowAll, and_true, Nat.zero_add, Nat.reduceAdd] at hall
              obtain ⟨-,-,-,-,-,-,-,-,-,-,-, e11⟩ := hall
              simp only [flowAct, zwc, zwn]
              simp only [e11]
              cases C with
              | true =>
                have HNX := Lib.hid (fun j (hj : j < i + 1) => if e : j = i then (by rw [e]; exact HCC.out : cgAt gs cs j = true) else HGD.out j (by omega))
                go_wp2
                go_roundw
                case rel => exact ⟨i + 1, by omega, by go_num, HNX.out, HB.out.trans (hW.mono HB.out.size), (hW.block _ (Array.getElem?_eq_some_iff.1 HR.out).1).trans HR.out⟩
                case measure => simp [intOf]; omega
              | false =>
                have HRR := Lib.hid (show R = 80 from H3.out (by first | rfl | trivial) HKZ.out (by first | rfl | trivial) hlt HCC.out)
                go_wp2
                go_ret
                exact ⟨by rw [HRR.out]; rfl, HB.out.trans (hW.mono HB.out.size)⟩
          · obtain rfl : i = m := by omega
            have HRR := Lib.hid (show R = 0 from H4.out (by first | rfl | trivial) HKZ.out (by first | rfl | trivial) hgd)
            have HB := Lib.hid hB
            clear hgd hB hr
            go_wp2
            go_ret
            exact ⟨by rw [HRR.out]; rfl, HB.out⟩
      · have hmi : ((m : Int) != (n1 : Int)) = true := by rw [bne_iff_ne]; omega
        have HRR := Lib.hid (show R = 100 from H2.out (by first | rfl | trivial) rfl hmn)
        go_wp2_with (go_at_call 88; (with_reducible refine (HKY.out _).mono ?_); rintro e9 w9 ⟨rfl, rfl⟩)
        go_ret
        exact ⟨by rw [HRR.out]; rfl, HB2.out⟩
    · have h1n : (K0 != 0) = true := by simpa using h1
      have HRR := Lib.hid (show R = K0 from H1.out (by first | rfl | trivial) h1)
      clear h1
      go_wp2_with (go_at_call 88; (with_reducible refine (HKY.out _).mono ?_); rintro e9 w9 ⟨rfl, rfl⟩)
      go_ret
      exact ⟨by rw [HRR.out]; rfl, HB2.out⟩
  · have h0n : (P0 != 0) = true := by simpa using h0
    have HRR := Lib.hid (show R = P0 from H0.out h0)
    clear h0
    go_wp2
    go_ret
    exact ⟨by rw [HRR.out]; rfl, HB2.out⟩
end Go.Proofs.Ytidbjmkfmfojdaa
end

section
namespace Go.Proofs.Ytidbjmkfmfojdaa
open Go.RowKit Go Go.Sort
set_option linter.unusedVariables false
set_option maxRecDepth 20000

theorem own_ne {W : World} {q B s k : Nat} {e t : TypeId} {cs : Array Value} {fr : Nat × Nat} {v : Value} {xs : List Value} (h : W.heap[q]? = some (.cells cs t fr)) (ht : t ≠ e) (ho : W.ownsRow B e s v k xs) : some q ≠ v.ownBlock := by
  rcases ho.2 with ⟨rfl, _⟩ | ⟨g, cap, cur, rfl, _, hgb, _⟩
  · simp [Value.ownBlock]
  · intro e'
    obtain rfl : q = g := by simpa [Value.ownBlock] using e'
    rw [h] at hgb; cases hgb; exact ht rfl
theorem heap_grown {W W' : World} {q : Nat} {o : Obj} {r : Option Nat} (h : W.heap[q]? = some o) (hg : W.grownBy W' r) (hr : some q ≠ r) : W'.heap[q]? = some o :=
  (hg.block q (Array.getElem?_eq_some_iff.1 h).1 (fun e => hr e)).trans h
theorem cg_zero {p : Int} (h : p = 1 ∨ p = 2) : Cl.zero.good p = true := by rcases h with rfl | rfl <;> decide +kernel
theorem new_yes {gs : List Grp} {key : List UInt8} (h : pgoodS gs = 0) (h2 : keyS key = 0) : rnewS gs key = (key, zerosC gs.length, 0) := by
  have hm : min gs.length 4 = gs.length := by have := pgood_len h; omega
  have hR : rgoodS gs key (zerosC gs.length) = 0 := rgood_yes h h2 (by simp [zerosC]) fun j hj => by
    unfold cgAt
    have e : (zerosC gs.length).getD j Cl.zero = Cl.zero := by simp [zerosC, hj]
    rw [e]
    exact cg_zero (pgood_pol h j hj)
  unfold rnewS
  rw [hm, if_pos hR]
end Go.Proofs.Ytidbjmkfmfojdaa
end

section
namespace Go.Proofs.Ytidbjmkfmfojdaa
open Go.RowKit Go Go.Sort
set_option linter.unusedVariables false
set_option maxRecDepth 20000

theorem cells_put_below {w W : World} {B g k : Nat} (hb : Below B w W) (hg : B ≤ g) (n9 s9 a9 b9 : Int) (g9 : Bool) (t9 : List UInt8) (d9 e9 : Int) : Below B w (((((((((W.setCell ⟨g, k * 8, none⟩ (.int .i64 n9)).setCell ⟨g, k * 8 + 1, none⟩ (.int .i64 s9)).setCell ⟨g, k * 8 + 2, none⟩ (.int .i64 a9)).setCell ⟨g, k * 8 + 3, none⟩ (.int .i64 b9)).setCell ⟨g, k * 8 + 4, none⟩ (.bool g9)).setCell ⟨g, k * 8 + 5, none⟩ (.string (text t9))).setCell ⟨g, k * 8 + 6, none⟩ (.int .i64 d9)).setCell ⟨g, k * 8 + 7, none⟩ (.int .i64 e9))) :=
  (((((((hb.setCell (p := ⟨g, k * 8, none⟩) hg _).setCell (p := ⟨g, k * 8 + 1, none⟩) hg _).setCell (p := ⟨g, k * 8 + 2, none⟩) hg _).setCell (p := ⟨g, k * 8 + 3, none⟩) hg _).setCell (p := ⟨g, k * 8 + 4, none⟩) hg _).setCell (p := ⟨g, k * 8 + 5, none⟩) hg _).setCell (p := ⟨g, k * 8 + 6, none⟩) hg _).setCell (p := ⟨g, k * 8 + 7, none⟩) hg _
theorem take_cell {cur : Array Value} {cs : List Cl} (ht : cur.toList.take (cs.length * 8) = cCells cs) {j : Nat} (hj : j < cs.length * 8) : cur[j]? = (cCells cs)[j]? := by
  rw [← ht, List.getElem?_take, if_pos hj]
  simp
/-- A cell put into a row of the call's own. -/
theorem own_put {W : World} {B g m c k : Nat} {cs : List Cl} (h : OwnC W B (.slice (some ⟨g, 0, none⟩) m c) cs) (hk : k < cs.length) (n9 s9 a9 b9 : Int) (g9 : Bool) (t9 : List UInt8) (d9 e9 : Int) :
    OwnC (((((((((W.setCell ⟨g, k * 8, none⟩ (.int .i64 n9)).setCell ⟨g, k * 8 + 1, none⟩ (.int .i64 s9)).setCell ⟨g, k * 8 + 2, none⟩ (.int .i64 a9)).setCell ⟨g, k * 8 + 3, none⟩ (.int .i64 b9)).setCell ⟨g, k * 8 + 4, none⟩ (.bool g9)).setCell ⟨g, k * 8 + 5, none⟩ (.string (text t9))).setCell ⟨g, k * 8 + 6, none⟩ (.int .i64 d9)).setCell ⟨g, k * 8 + 7, none⟩ (.int .i64 e9))) B (.slice (some ⟨g, 0, none⟩) m c) (cs.set k ⟨n9, s9, a9, b9, g9, t9, d9, e9⟩) := by
  obtain ⟨hlen, ⟨ev, -⟩ | ⟨g', cap, cur, ev, hB, hg, hnc, hcm, hcs, htake⟩⟩ := h
  · cases ev
  · injection ev with e1 e2 e3
    injection e1 with e1
    injection e1 with e1
    subst e1 e2 e3
    have h0 := heap_setCell_same W g (k * 8) _ _ (.int .i64 n9) hg
    have h1 := heap_setCell_same _ g (k * 8 + 1) _ _ (.int .i64 s9) h0
    have h2 := heap_setCell_same _ g (k * 8 + 2) _ _ (.int .i64 a9) h1
    have h3 := heap_setCell_same _ g (k * 8 + 3) _ _ (.int .i64 b9) h2
    have h4 := heap_setCell_same _ g (k * 8 + 4) _ _ (.bool g9) h3
    have h5 := heap_setCell_same _ g (k * 8 + 5) _ _ (.string (text t9)) h4
    have h6 := heap_setCell_same _ g (k * 8 + 6) _ _ (.int .i64 d9) h5
    have h7 := heap_setCell_same _ g (k * 8 + 7) _ _ (.int .i64 e9) h6
    have hl2 : (cs.set k (⟨n9, s9, a9, b9, g9, t9, d9, e9⟩ : Cl)).length = cs.length := List.length_set
    refine ⟨by rw [cCells_length], .inr ⟨g, c, _, by rw [hl2], hB, h7, by rw [hl2]; exact hnc, hcm, by simpa using hcs, ?_⟩⟩
    rw [hl2]
    apply List.ext_getElem?
    intro j
    have hcl := cCells_length cs
    have hcl2 := cCells_length (cs.set k ⟨n9, s9, a9, b9, g9, t9, d9, e9⟩)
    rw [hl2] at hcl2
    rw [List.getElem?_take]
    by_cases hj : j < cs.length * 8
    · rw [if_pos hj]
      have hc := take_cell htake hj
      have hsz : cs.length * 8 ≤ cur.size := by
        have h9 := congrArg List.length htake
        rw [List.length_take, hcl] at h9
        simp at h9
        omega
      simp only [Array.getElem?_toList, Array.getElem?_setIfInBounds, Array.size_setIfInBounds]
      have hd : j / 8 < cs.length := by omega
      have hm : j % 8 < 8 := Nat.mod_lt _ (by omega)
      have e8 : j / 8 * 8 + j % 8 = j := by omega
      have g1 := cCells_get cs (j / 8) (j % 8) hd hm
      have g2 := cCells_get (cs.set k ⟨n9, s9, a9, b9, g9, t9, d9, e9⟩) (j / 8) (j % 8) (by rw [hl2]; exact hd) hm
      rw [e8] at g1 g2
      rw [g2, hc, g1]
      obtain ⟨r, hr⟩ : ∃ r, j % 8 = r := ⟨_, rfl⟩
      rw [hr] at hm e8 ⊢
      by_cases hq : j / 8 = k
      · rw [hq] at e8 ⊢
        have e9 : (cs.set k (⟨n9, s9, a9, b9, g9, t9, d9, e9⟩ : Cl)).getD k Cl.zero = ⟨n9, s9, a9, b9, g9, t9, d9, e9⟩ := by simp [hk]
        rw [e9]
        subst e8
        have hk8 : k * 8 + 7 < cs.length * 8 := by omega
        rcases (by omega : r = 0 ∨ r = 1 ∨ r = 2 ∨ r = 3 ∨ r = 4 ∨ r = 5 ∨ r = 6 ∨ r = 7) with rfl | rfl | rfl | rfl | rfl | rfl | rfl | rfl
        all_goals
          repeat rw [if_neg (by omega)]
          rw [if_pos (by omega), if_pos (by omega)]
          rfl
      · have e9 : (cs.set k (⟨n9, s9, a9, b9, g9, t9, d9, e9⟩ : Cl)).getD (j / 8) Cl.zero = cs.getD (j / 8) Cl.zero := by
          simp only [List.getD_eq_getElem?_getD, List.getElem?_set]
          rw [if_neg (fun e => hq e.symm)]
        rw [e9]
        repeat rw [if_neg (by omega)]
    · rw [if_neg hj, List.getElem?_eq_none (by omega)]
/-- What a row of the call's own holds at a place. -/
theorem own_at {W : World} {B m c g : Nat} {cs : List Cl} (h : OwnC W B (.slice (some ⟨g, 0, none⟩) m c) cs) {k : Nat} (hk : k < cs.length) : ∀ W', Below W.heap.size W W' → W'.cell? ⟨g, k * 8, none⟩ = some (.int .i64 (cs.getD k Cl.zero).n) ∧ W'.cell? ⟨g, k * 8 + 1, none⟩ = some (.int .i64 (cs.getD k Cl.zero).s) ∧ W'.cell? ⟨g, k * 8 + 2, none⟩ = some (.int .i64 (cs.getD k Cl.zero).a) ∧ W'.cell? ⟨g, k * 8 + 3, none⟩ = some (.int .i64 (cs.getD k Cl.zero).b) ∧
    W'.cell? ⟨g, k * 8 + 4, none⟩ = some (.bool (cs.getD k Cl.zero).g) ∧ W'.cell? ⟨g, k * 8 + 5, none⟩ = some (.string (text (cs.getD k Cl.zero).t)) ∧ W'.cell? ⟨g, k * 8 + 6, none⟩ = some (.int .i64 (cs.getD k Cl.zero).d) ∧ W'.cell? ⟨g, k * 8 + 7, none⟩ = some (.int .i64 (cs.getD k Cl.zero).e) := by
  obtain ⟨a, cap, ev, hc⟩ := h.cls
  injection ev with e1 e2 e3
  subst e1 e2 e3
  intro W' hb
  obtain ⟨b, off, e, hat⟩ := hc.at hk
  injection e with e
  injection e with e4 e5
  subst e4 e5
  have := hat W' hb
  rw [Nat.zero_add] at this
  exact this
/-- The block of a row of the call's own is not frozen. -/
theorem own_fz {W : World} {B m c g : Nat} {cs : List Cl} (h : OwnC W B (.slice (some ⟨g, 0, none⟩) m c) cs) (i : Nat) : W.frozen? ⟨g, i, none⟩ = false := by
  obtain ⟨hlen, ⟨ev, -⟩ | ⟨g', cap, cur, ev, hB, hg, hnc, hcm, hcs, htake⟩⟩ := h
  · cases ev
  · injection ev with e1 e2 e3
    injection e1 with e1
    injection e1 with e1
    subst e1
    exact frozen_of_row _ g i _ _ hg
theorem own_some {W : World} {B : Nat} {v : Value} {cs : List Cl} (h : OwnC W B v cs) (hp : 0 < cs.length) : ∃ g c, v = .slice (some ⟨g, 0, none⟩) cs.length c ∧ B ≤ g ∧ cs.length ≤ c ∧ g < W.heap.size := by
  obtain ⟨hlen, ⟨ev, hn⟩ | ⟨g', cap, cur, ev, hB, hg, hnc, hcm, hcs, htake⟩⟩ := h
  · omega
  · exact ⟨g', cap, ev, hB, hnc, (Array.getElem?_eq_some_iff.1 hg).1⟩
/-- A row of the call's own, whose block nobody else turned. -/
theorem OwnC.of_block {w w' : World} {B : Nat} {v : Value} {l : List Cl} (h : OwnC w B v l) (hb : ∀ q, v.ownBlock = some q → w'.heap[q]? = w.heap[q]?) : OwnC w' B v l := by
  obtain ⟨hlen, ⟨ev, hn⟩ | ⟨g, cap, cur, ev, hB, hg, hnc, hcm, hcs, htake⟩⟩ := h
  · exact ⟨hlen, .inl ⟨ev, hn⟩⟩
  · exact ⟨hlen, .inr ⟨g, cap, cur, ev, hB, (hb g (by subst ev; rfl)).trans hg, hnc, hcm, hcs, htake⟩⟩
/-- A world that differs in one value's own block alone. -/
structure OnlyV (v : Value) (W W' : World) : Prop where
  os : W'.os = W.os
  tape : W'.tape = W.tape
  output : W'.output = W.output
  size : W'.heap.size = W.heap.size
  rest : ∀ q, some q ≠ v.ownBlock → W'.heap[q]? = W.heap[q]?
theorem OnlyV.refl (v : Value) (W : World) : OnlyV v W W := ⟨rfl, rfl, rfl, rfl, fun _ _ => rfl⟩
theorem OnlyV.cell {g m c : Nat} {W W' : World} (h : OnlyV (.slice (some ⟨g, 0, none⟩) m c) W W') (i : Nat) (u : Value) : OnlyV (.slice (some ⟨g, 0, none⟩) m c) W (W'.setCell ⟨g, i, none⟩ u) := by
  have hb := (Below.refl 0 W').setCell (p := ⟨g, i, none⟩) (Nat.zero_le _) u
  refine ⟨hb.os.trans h.os, hb.tape.trans h.tape, hb.output.trans h.output, (World.size_setCell _ _ _).trans h.size, fun q hq => (Below.heap_setCell W' ⟨g, i, none⟩ u q (fun e => hq (by subst e; rfl))).trans (h.rest q hq)⟩
theorem OnlyV.below {v : Value} {W W' : World} (h : OnlyV v W W') {B : Nat} (hB : ∀ q, v.ownBlock = some q → B ≤ q) : Below B W W' :=
  ⟨h.os, h.tape, h.output, Nat.le_of_eq h.size.symm, fun k hk => h.rest k (fun e => by have := hB k e.symm; omega)⟩
theorem OnlyV.own {v u : Value} {W W' : World} (h : OnlyV v W W') {B : Nat} {l : List Cl} (ho : OwnC W B u l) (hne : ∀ q, u.ownBlock = some q → some q ≠ v.ownBlock) : OwnC W' B u l := ho.of_block fun q hq => h.rest q (hne q hq)
theorem OnlyV.at {v : Value} {W W' : World} (h : OnlyV v W W') {q : Nat} {o : Obj} (ho : W.heap[q]? = some o) (hne : some q ≠ v.ownBlock) : W'.heap[q]? = some o := (h.rest q hne).trans ho
/-- A row, with its slice of cells as it stands in memory. -/
structure Rw where
  k : List UInt8
  u : Value
  cs : List Cl
def Rw.zero : Rw := ⟨[], .slice none 0 0, []⟩
def Rw.arr (r : Rw) : Array Value := #[.string (text r.k), r.u]
def Rw.pr (r : Rw) : List UInt8 × List Cl := (r.k, r.cs)
theorem rw_size (r : Rw) : r.arr.size = 2 := rfl
/-- Rows of the call's own, each with cells of its own, and no two with the same. -/
structure OwnRw (W : World) (B n1 : Nat) (v : Value) (L : List Rw) : Prop where
  row : OwnL 2 30 Rw.arr W B v L
  own : ∀ j, j < L.length → OwnC W B (L.getD j Rw.zero).u (L.getD j Rw.zero).cs ∧ (L.getD j Rw.zero).cs.length = n1
  apart : ∀ i j, i < j → j < L.length → (L.getD i Rw.zero).u.ownBlock ≠ (L.getD j Rw.zero).u.ownBlock
theorem OwnRw.nil (W : World) (B n1 : Nat) : OwnRw W B n1 (.slice none 0 0) [] := ⟨OwnL.nil _ _ _, fun j hj => by simp at hj, fun i j _ hj => by simp at hj⟩
theorem OwnRw.kept {W W' : World} {B n1 : Nat} {v : Value} {L : List Rw} (h : OwnRw W B n1 v L) (hb : Below W.heap.size W W') : OwnRw W' B n1 v L := ⟨h.row.kept hb, fun j hj => ⟨(h.own j hj).1.kept hb, (h.own j hj).2⟩, h.apart⟩
theorem own_block {W : World} {B : Nat} {u : Value} {cs : List Cl} (h : OwnC W B u cs) {q : Nat} (hq : u.ownBlock = some q) : ∃ cur fr, W.heap[q]? = some (.cells cur 75 fr) := by
  obtain ⟨hlen, ⟨ev, hn⟩ | ⟨g, cap, cur, ev, hB, hg, hnc, hcm, hcs, htake⟩⟩ := h
  · subst ev; cases hq
  · subst ev
    obtain rfl : q = g := by
      have : some g = some q := hq
      injection this with e; exact e.symm
    exact ⟨_, _, hg⟩
theorem own_kinds {W : World} {B B' : Nat} {u v : Value} {cs : List Cl} {L : List Rw} (h : OwnC W B u cs) (hr : OwnL 2 30 Rw.arr W B' v L) {q : Nat} (hq : u.ownBlock = some q) : some q ≠ v.ownBlock := by
  obtain ⟨cur, fr, hc⟩ := own_block h hq
  exact own_ne hc (by decide) hr
/-- Cells of the call's own while rows grow. -/
theorem OwnC.turn {W W' : World} {B B' : Nat} {u v : Value} {cs : List Cl} {L : List Rw} (h : OwnC W B u cs) (hr : OwnL 2 30 Rw.arr W B' v L) (o : Obj) (hg : (W.alloc o).grownBy W' v.ownBlock) : OwnC W' B u cs :=
  h.of_block fun q hq => (hg.block q (by have := (h.lt q hq).2; simp; omega) (fun e => own_kinds h hr hq e)).trans (Below.heap_alloc W o q (h.lt q hq).2)
theorem getD_push {L : List Rw} {r : Rw} {j : Nat} : (L ++ [r]).getD j Rw.zero = if j < L.length then L.getD j Rw.zero else if j = L.length then r else Rw.zero := by
  rw [List.getD_eq_getElem?_getD, List.getD_eq_getElem?_getD]
  by_cases h : j < L.length
  · rw [if_pos h, List.getElem?_append_left h]
  · rw [if_neg h, List.getElem?_append_right (by omega)]
    by_cases e : j = L.length
    · subst e; simp
    · rw [if_neg e, List.getElem?_eq_none (by simp; omega)]; rfl
/-- One more row, whose cells are younger than all. -/
theorem OwnRw.push {W W' : World} {B B2 n1 : Nat} {v v' u : Value} {L : List Rw} {k : List UInt8} {cs : List Cl} (h : OwnRw W B n1 v L) (hn : cs.length = n1) (hc : OwnC W B2 u cs) (h1 : 0 < n1) (hB : B ≤ B2) (hlt : ∀ j, j < L.length → ∀ q, (L.getD j Rw.zero).u.ownBlock = some q → q < B2) (o : Obj)
    (hr : OwnL 2 30 Rw.arr W' B v' (L ++ [⟨k, u, cs⟩])) (hg : (W.alloc o).grownBy W' v.ownBlock) : OwnRw W' B n1 v' (L ++ [⟨k, u, cs⟩]) := by
  refine ⟨hr, fun j hj => ?_, fun i j hij hj => ?_⟩
  · rw [getD_push]
    by_cases e : j < L.length
    · rw [if_pos e]; exact ⟨(h.own j e).1.turn h.row o hg, (h.own j e).2⟩
    · rw [if_neg e, if_pos (by simp at hj; omega)]
      exact ⟨(hc.turn h.row o hg).mono hB, hn⟩
  · rw [getD_push, getD_push]
    have hi : i < L.length := by simp at hj; omega
    rw [if_pos hi]
    by_cases e : j < L.length
    · rw [if_pos e]; exact h.apart i j hij e
    · rw [if_neg e, if_pos (by simp at hj; omega)]
      obtain ⟨g, c, ev, hge, -,-⟩ := own_some hc (by omega)
      intro e2
      have e3 : u.ownBlock = some g := by rw [ev]; rfl
      have e4 : (L.getD i Rw.zero).u.ownBlock = some g := e2.trans e3
      have := hlt i hi g e4
      omega
theorem lCells_map {L M : List Rw} (h : L.map Rw.arr = M.map Rw.arr) : lCells Rw.arr L = lCells Rw.arr M := by
  unfold lCells
  have e : ∀ N : List Rw, N.flatMap (fun c => (Rw.arr c).toList) = (N.map Rw.arr).flatMap Array.toList := fun N => by rw [List.flatMap_map]
  rw [e, e, h]
theorem getD_set {L : List Rw} {r : Rw} {i j : Nat} (hj : j < L.length) : (L.set i r).getD j Rw.zero = if i = j then r else L.getD j Rw.zero := by
  rw [List.getD_eq_getElem?_getD, List.getD_eq_getElem?_getD, List.getElem?_set]
  by_cases e : i = j
  · subst e; rw [if_pos rfl, if_pos rfl, if_pos hj]; rfl
  · rw [if_neg e, if_neg e]
/-- Other cells in one row. -/
theorem OwnRw.store {W W' : World} {B n1 : Nat} {v : Value} {L : List Rw} {j : Nat} {cs' : List Cl} (h : OwnRw W B n1 v L) (hj : j < L.length) (ho : OnlyV (L.getD j Rw.zero).u W W') (hc : OwnC W' B (L.getD j Rw.zero).u cs') (hn : cs'.length = n1) (h1 : 0 < n1) : OwnRw W' B n1 v (L.set j ⟨(L.getD j Rw.zero).k, (L.getD j Rw.zero).u, cs'⟩) := by
  obtain ⟨g, c, eu, -,-,-⟩ := own_some (h.own j hj).1 (by have := (h.own j hj).2; omega)
  have eg : (L.getD j Rw.zero).u.ownBlock = some g := by rw [eu]; rfl
  have hmap : (L.set j ⟨(L.getD j Rw.zero).k, (L.getD j Rw.zero).u, cs'⟩).map Rw.arr = L.map Rw.arr := by
    rw [List.map_set]
    apply List.ext_getElem (by simp)
    intro i h2 h3
    rw [List.getElem_set]
    split
    · rename_i e; subst e
      rw [List.getElem_map]
      show Rw.arr _ = _
      rw [List.getD_eq_getElem?_getD, List.getElem?_eq_getElem hj]; rfl
    · rfl
  refine ⟨?_, fun i hi => ?_, fun i k hik hk => ?_⟩
  · have h2 : OwnL 2 30 Rw.arr W' B v L := h.row.of_block fun q hq => ho.rest q (by
      rw [eg]; intro e
      have e : q = g := by injection e
      subst e
      exact own_kinds (h.own j hj).1 h.row eg hq.symm)
    unfold OwnL at h2 ⊢
    rw [List.length_set, lCells_map hmap]
    exact h2
  · rw [List.length_set] at hi
    rw [getD_set hi]
    by_cases e : j = i
    · subst e; rw [if_pos rfl]; exact ⟨hc, hn⟩
    · rw [if_neg e]
      refine ⟨ho.own (h.own i hi).1 fun q hq e2 => ?_, (h.own i hi).2⟩
      rcases Nat.lt_or_gt_of_ne e with h2 | h2
      · exact h.apart j i h2 hi (e2.symm.trans hq.symm)
      · exact h.apart i j h2 hj (hq.trans e2)
  · rw [List.length_set] at hk
    rw [getD_set hk, getD_set (by omega)]
    have e1 : (if j = i then (⟨(L.getD j Rw.zero).k, (L.getD j Rw.zero).u, cs'⟩ : Rw) else L.getD i Rw.zero).u = (L.getD i Rw.zero).u := by
      split
      · rename_i e; subst e; rfl
      · rfl
    have e2 : (if j = k then (⟨(L.getD j Rw.zero).k, (L.getD j Rw.zero).u, cs'⟩ : Rw) else L.getD k Rw.zero).u = (L.getD k Rw.zero).u := by
      split
      · rename_i e; subst e; rfl
      · rfl
    rw [e1, e2]
    exact h.apart i k hik hk
theorem Try.infoRw : (Try.prog.info? 30).map (fun i => (i.zero, i.size, i.bytes)) = some (some (.agg #[.string ⟨#[]⟩, .slice none 0 0]), 2, 40) := by kernel_rfl
/-- append of one row. -/
theorem wpList_append_rw {w : World} {ops : Array Oper} {rest : List Oper} {o : Oper} {ac : Act} {Q : Exit → Act → World → Prop} (hgd : o.guard = none) (os ox : Operand)
    (ho : o.op = .call { callee := .builtin .append, args := #[os, ox], argTypes := #[27, 27] })
    {base : Nat} {u : Value} {l : List Rw} (hs : ac.eval os = u) (hown : OwnL 2 30 Rw.arr w base u l) (k : List UInt8) (a9 : Option Addr) (n9 c9 : Nat) (cs : List Cl) {e9 : TypeId}
    (hx : ac.eval ox = .slice (some ⟨w.heap.size, 0, none⟩) 1 1) (h63 : l.length ≤ 1000000000) (hbase : base ≤ w.heap.size)
    (h : ∀ v' w', OwnL 2 30 Rw.arr w' base v' (l ++ [⟨k, .slice a9 n9 c9, cs⟩]) → (w.alloc (.cells #[.string (text k), .slice a9 n9 c9] e9)).grownBy w' u.ownBlock → wpList Try.prog ops Q rest (ac.put o.dst v') w') :
    wpList Try.prog ops Q (o :: rest) ac (w.alloc (.cells #[.string (text k), .slice a9 n9 c9] e9)) := by
  obtain ⟨i0, hi, hz0, hz1, hz2⟩ := info_parts Try.infoRw
  refine wpList_append_el hgd os ox 27 30 i0 _ 40 ho Try.underlying27 hi hz0 hz1 hz2 rfl (by decide) hs hown ⟨k, .slice a9 n9 c9, cs⟩ rfl rfl ?_ hx (by unfold maxLen; omega) (by omega) hbase h
  intro u hu
  have hu : u ∈ [Value.string (text k), .slice a9 n9 c9] := hu
  simp only [List.mem_cons, List.not_mem_nil, or_false] at hu
  rcases hu with rfl | rfl <;> rfl
end Go.Proofs.Ytidbjmkfmfojdaa
end

section
namespace Go.Proofs.Ytidbjmkfmfojdaa
open Go.RowKit Go Go.Sort
set_option linter.unusedVariables false
set_option maxRecDepth 20000

set_option maxHeartbeats 6400000 in
theorem rsame_c (n s a b : Int) (g : Bool) (t : List UInt8) (d e : Int) (n' s' a' b' : Int) (g' : Bool) (t' : List UInt8) (d' e' : Int) (w : World) : Calls Try.prog 53 #[.agg #[.int .i64 n, .int .i64 s, .int .i64 a, .int .i64 b, .bool g, .string (text t), .int .i64 d, .int .i64 e], .agg #[.int .i64 n', .int .i64 s', .int .i64 a', .int .i64 b', .bool g', .string (text t'), .int .i64 d', .int .i64 e']] w (Tells (.bool (sameC ⟨n, s, a, b, g, t, d, e⟩ ⟨n', s', a', b', g', t', d', e'⟩)) w) := by
  have hp := (Cel.new w n s a b g t d e).alloc (.cells #[.int .i64 n', .int .i64 s', .int .i64 a', .int .i64 b', .bool g', .string (text t'), .int .i64 d', .int .i64 e'] 75)
  have hq := Cel.new (w.alloc (.cells #[.int .i64 n, .int .i64 s, .int .i64 a, .int .i64 b, .bool g, .string (text t), .int .i64 d, .int .i64 e] 75)) n' s' a' b' g' t' d' e'
  rw [World.size_alloc] at hq
  have HB := Lib.hid ((alloc_below w (.cells #[.int .i64 n, .int .i64 s, .int .i64 a, .int .i64 b, .bool g, .string (text t), .int .i64 d, .int .i64 e] 75)).alloc (by simp) (.cells #[.int .i64 n', .int .i64 s', .int .i64 a', .int .i64 b', .bool g', .string (text t'), .int .i64 d', .int .i64 e'] 75))
  have HV := Lib.hid (show sameC ⟨n, s, a, b, g, t, d, e⟩ ⟨n', s', a', b', g', t', d', e'⟩ = (((n == n') && (s == s')) && (((a == a') && (b == b')) && ((g == g') && (decide (t = t') && ((d == d') && (e == e')))))) from rfl)
  obtain ⟨r, hr⟩ : ∃ r, sameC ⟨n, s, a, b, g, t, d, e⟩ ⟨n', s', a', b', g', t', d', e'⟩ = r := ⟨_, rfl⟩
  rw [hr] at HV ⊢
  have hng := stamp_eqg
  have hvg := vec_eqg
  have hte : ((text t).toList == (text t').toList) = decide (t = t') := by rw [text_eqb, Bool.eq_iff_iff]; simp
  obtain ⟨c0, c1, c2, c3, c4, c5, c6, c7⟩ := hp.cs
  obtain ⟨k0, k1, k2, k3, k4, k5, k6, k7⟩ := hq.cs
  obtain ⟨u, hu⟩ : ∃ u, text t = u := ⟨_, rfl⟩
  obtain ⟨v, hv⟩ : ∃ u, text t' = u := ⟨_, rfl⟩
  rw [hu, hv] at c0 c1 c2 c3 c4 c5 c6 c7 k0 k1 k2 k3 k4 k5 k6 k7 hte HB
  rw [hu, hv]
  obtain ⟨q1, h1⟩ : ∃ q, ((n == n') && (s == s')) = q := ⟨_, rfl⟩
  obtain ⟨q2, h2⟩ : ∃ q, ((a == a') && (b == b')) = q := ⟨_, rfl⟩
  obtain ⟨q3, h3⟩ : ∃ q, (g == g') = q := ⟨_, rfl⟩
  obtain ⟨q4, h4⟩ : ∃ q, decide (t = t') = q := ⟨_, rfl⟩
  obtain ⟨q5, h5⟩ : ∃ q, ((d == d') && (e == e')) = q := ⟨_, rfl⟩
  have e1 := stamp_eqb n s n' s' _ h1
  have e2 := vec_eqb a b a' b' _ h2
  have e5 := vec_eqb d e d' e' _ h5
  rw [h1, h2, h3, h4, h5] at HV
  rw [h4] at hte
  clear hp hq hr hu hv h1 h2 h4 h5
  cases q1 with
  | false =>
    go_enter Try.func53, Try.ntmps53
    go_wp2
    go_ret
    exact ⟨by rw [HV.out]; rfl, HB.out⟩
  | true =>
  cases q2 with
  | false =>
    go_enter Try.func53, Try.ntmps53
    go_wp2
    go_ret
    exact ⟨by rw [HV.out]; rfl, HB.out⟩
  | true =>
  cases q3 with
  | false =>
    go_enter Try.func53, Try.ntmps53
    go_wp2
    go_ret
    exact ⟨by rw [HV.out]; rfl, HB.out⟩
  | true =>
  cases q4 with
  | false =>
    go_enter Try.func53, Try.ntmps53
    go_wp2
    go_ret
    exact ⟨by rw [HV.out]; rfl, HB.out⟩
  | true =>
    go_enter Try.func53, Try.ntmps53
    go_wp2
    go_ret
    exact ⟨by rw [HV.out]; cases q5 <;> rfl, HB.out⟩
end Go.Proofs.Ytidbjmkfmfojdaa
end

section
namespace Go.Proofs.Ytidbjmkfmfojdaa
open Go.RowKit Go Go.Sort
set_option linter.unusedVariables false
set_option maxRecDepth 20000

/-- Rows as they lie in memory, each with its cells. -/
def RwsAt (W : World) (a : Option Addr) (m cap : Nat) (L : List Rw) : Prop := Ls 2 Rw.arr Rw.zero W a m cap L ∧ ∀ j, j < m → ∃ a' c, (L.getD j Rw.zero).u = .slice a' (L.getD j Rw.zero).cs.length c ∧ Cls W a' (L.getD j Rw.zero).cs.length c (L.getD j Rw.zero).cs
theorem OwnRw.at {W : World} {B n1 : Nat} {v : Value} {L : List Rw} (h : OwnRw W B n1 v L) : ∃ a cap, v = .slice a L.length cap ∧ RwsAt W a L.length cap L := by
  obtain ⟨a, cap, ev, hl⟩ := h.row.ls (z := Rw.zero) rw_size
  exact ⟨a, cap, ev, hl, fun j hj => (h.own j hj).1.cls⟩
theorem RwsAt.below {w w' : World} {a : Option Addr} {m cap : Nat} {L : List Rw} (h : RwsAt w a m cap L) (hb : Below w.heap.size w w') : RwsAt w' a m cap L :=
  ⟨h.1.below hb, fun j hj => by obtain ⟨a', c, e, hc⟩ := h.2 j hj; exact ⟨a', c, e, hc.below hb⟩⟩
theorem RwsAt.place {w : World} {a : Option Addr} {m cap : Nat} {L : List Rw} (h : RwsAt w a m cap L) {k : Nat} (hk : k < m) : ∃ b off a' n' c', a = some ⟨b, off, none⟩ ∧ (L.getD k Rw.zero).u = .slice a' n' c' ∧ n' = (L.getD k Rw.zero).cs.length ∧ Cls w a' n' c' (L.getD k Rw.zero).cs ∧
    ∀ W, Below w.heap.size w W → W.cell? ⟨b, off + k * 2, none⟩ = some (.string (text (L.getD k Rw.zero).k)) ∧ W.cell? ⟨b, off + k * 2 + 1, none⟩ = some (.slice a' n' c') := by
  obtain ⟨b, off, e, hat⟩ := h.1.at hk
  obtain ⟨a', c', eu, hc⟩ := h.2 k hk
  exact ⟨b, off, a', _, c', e, eu, rfl, hc, fun W hb => ⟨hat W hb 0 _ rfl, (hat W hb 1 (L.getD k Rw.zero).u rfl).trans (by rw [eu])⟩⟩
end Go.Proofs.Ytidbjmkfmfojdaa
end

section
namespace Go.Proofs.Ytidbjmkfmfojdaa
open Go.RowKit Go Go.Sort
set_option linter.unusedVariables false
set_option maxRecDepth 20000

set_option maxRecDepth 100000 in
set_option maxHeartbeats 3200000 in
theorem bare_c {w : World} {x2 : Option Addr} {m cap2 : Nat} {cs : List Cl} (hl : Cls w x2 m cap2 cs) (key : ByteArray) :
    Calls Try.prog 61 #[.agg #[.string key, .slice x2 m cap2]] w (Tells (.bool (bareS cs)) w) := by
  have hll := hl.len
  have hle2 := hl.le
  have hmax2 := hl.max
  have HL := Lib.hid hl
  have HBT := Lib.hid (@bare_take cs)
  have HBN := Lib.hid (fun (k : Nat) => @bare_not cs k)
  have hnil : text ([] : List UInt8) = ⟨#[]⟩ := rfl
  obtain ⟨R, hR⟩ : ∃ z, bareS cs = z := ⟨_, rfl⟩
  rw [hR]
  have HRV := Lib.hid hR
  have hb := alloc_below w (.cells #[.string key, .slice x2 m cap2] 30)
  have hr := heap_alloc_new w (.cells #[.string key, .slice x2 m cap2] 30)
  clear hR hl
  go_enter Try.func61, Try.ntmps61
  go_upto_region 1 with (fail)
  obtain ⟨B, hB⟩ : ∃ q, w.heap.size = q := ⟨_, rfl⟩
  have HBe := Lib.hid hB
  rw [hB] at hr ⊢
  clear hB
  generalize w.alloc (.cells #[.string key, .slice x2 m cap2] 30) = W1 at *
  have HR1 := Lib.hid hr
  have HB1 := Lib.hid hb
  have r1 : W1.cell? ⟨B, 1, none⟩ = some (.slice x2 m cap2) := by rw [cell_of_row _ B 1 _ _ (0, 0) hr]; rfl
  clear hr hb
  go_wp2
  clear r1
  go_loopw [8] (fun i wr => ∃ k : Nat, k ≤ m ∧ i = .int .i64 k ∧ bareS (cs.take k) = true ∧ Below w.heap.size w wr ∧ wr.heap[B]? = some (.cells #[.string key, .slice x2 m cap2] 30 (0, 0))) (fun i _ => m - (intOf i).toNat)
  case atStart => exact ⟨0, by omega, rfl, rfl, HB1.out, HR1.out⟩
  case round =>
    clear HB1 HR1
    obtain ⟨i, hk, rfl, hbt, hB, hr⟩ := hrel
    have r1 : wr.cell? ⟨B, 1, none⟩ = some (.slice x2 m cap2) := by rw [cell_of_row _ B 1 _ _ (0, 0) hr]; rfl
    by_cases hlt : i < m
    · have hki : (i : Int) < (m : Int) := by omega
      have hki2 : (i : Int) < (cap2 : Int) := by omega
      obtain ⟨bk, off, rfl, hat⟩ := HL.out.at hlt
      have hst := HBT.out i (by omega)
      have hno := HBN.out i (by omega)
      obtain ⟨y, hck⟩ : ∃ y, cs.getD i Cl.zero = y := ⟨_, rfl⟩
      rw [hck] at hat hst hno
      obtain ⟨n, s, a, b, g, t, d, e⟩ := y
      obtain ⟨p0, p1, p2, p3, p4, p5, p6, p7⟩ := hat wr hB
      simp only at p0 p1 p2 p3 p4 p5 p6 p7
      obtain ⟨C, hC⟩ : ∃ z, sameC ⟨n, s, a, b, g, t, d, e⟩ Cl.zero = z := ⟨_, rfl⟩
      rw [hC] at hst hno
      rw [hbt] at hst
      have HST := Lib.hid hst
      have HNO := Lib.hid hno
      have HB := Lib.hid hB
      have HR := Lib.hid hr
      have hcn := cell_neb n s a b g t d e 0 0 0 0 false [] 0 0 C hC
      rw [hnil] at hcn
      have hceg := cell_eqg
      clear hck hC hst hno hB hr hat hbt
      go_upto_region 4 with (fail)
      have hx2 := Cel.new wr n s a b g t d e
      have HB2 := Lib.hid (HB.out.alloc HB.out.size (.cells #[.int .i64 n, .int .i64 s, .int .i64 a, .int .i64 b, .bool g, .string (text t), .int .i64 d, .int .i64 e] 75))
      have HR2 := Lib.hid ((Below.heap_alloc wr (.cells #[.int .i64 n, .int .i64 s, .int .i64 a, .int .i64 b, .bool g, .string (text t), .int .i64 d, .int .i64 e] 75) B (Array.getElem?_eq_some_iff.1 HR.out).1).trans HR.out)
      obtain ⟨gx, hgx⟩ : ∃ g, wr.heap.size = g := ⟨_, rfl⟩
      rw [hgx] at hx2 ⊢
      generalize wr.alloc (.cells #[.int .i64 n, .int .i64 s, .int .i64 a, .int .i64 b, .bool g, .string (text t), .int .i64 d, .int .i64 e] 75) = W2 at *
      obtain ⟨k0, k1, k2, k3, k4, k5, k6, k7⟩ := hx2.cs
      clear hx2 p0 p1 p2 p3 p4 p5 p6 p7 HB HR hgx r1
      cases C with
      | true =>
        go_wp2
        go_roundw
        case rel => exact ⟨i + 1, by omega, by go_num, HST.out, HB2.out, HR2.out⟩
        case measure => simp [intOf]; omega
      | false =>
        have HRR := Lib.hid (show R = false by rw [← HRV.out]; exact HNO.out rfl)
        go_wp2
        go_ret
        exact ⟨by rw [HRR.out]; rfl, HB2.out⟩
    · obtain rfl : i = m := by omega
      rw [List.take_of_length_le (by omega)] at hbt
      have HRR := Lib.hid (show R = true by rw [← HRV.out]; exact hbt)
      have HB := Lib.hid hB
      clear hbt hB hr
      go_wp2
      go_ret
      exact ⟨by rw [HRR.out]; rfl, HB.out⟩

set_option maxRecDepth 100000 in
set_option maxHeartbeats 3200000 in
theorem rbare_c {w : World} {x2 : Option Addr} {m cap2 : Nat} {cs : List Cl} (hl : Cls w x2 m cap2 cs) (key : ByteArray) :
    Calls Try.prog 64 #[.agg #[.string key, .slice x2 m cap2]] w (Tells (.bool (bareS cs)) w) := by
  have hll := hl.len
  have hle2 := hl.le
  have hmax2 := hl.max
  have HL := Lib.hid hl
  have HBT := Lib.hid (@bare_take cs)
  have HBN := Lib.hid (fun (k : Nat) => @bare_not cs k)
  have hnil : text ([] : List UInt8) = ⟨#[]⟩ := rfl
  obtain ⟨R, hR⟩ : ∃ z, bareS cs = z := ⟨_, rfl⟩
  rw [hR]
  have HRV := Lib.hid hR
  have hb := alloc_below w (.cells #[.string key, .slice x2 m cap2] 30)
  have hr := heap_alloc_new w (.cells #[.string key, .slice x2 m cap2] 30)
  clear hR hl
  go_enter Try.func64, Try.ntmps64
  go_upto_region 1 with (fail)
  obtain ⟨B, hB⟩ : ∃ q, w.heap.size = q := ⟨_, rfl⟩
  have HBe := Lib.hid hB
  rw [hB] at hr ⊢
  clear hB
  generalize w.alloc (.cells #[.string key, .slice x2 m cap2] 30) = W1 at *
  have HR1 := Lib.hid hr
  have HB1 := Lib.hid hb
  have r1 : W1.cell? ⟨B, 1, none⟩ = some (.slice x2 m cap2) := by rw [cell_of_row _ B 1 _ _ (0, 0) hr]; rfl
  clear hr hb
  go_wp2
  clear r1
  go_loopw [3] (fun i wr => ∃ k : Nat, k ≤ m ∧ i = .int .i64 k ∧ bareS (cs.take k) = true ∧ Below w.heap.size w wr ∧ wr.heap[B]? = some (.cells #[.string key, .slice x2 m cap2] 30 (0, 0))) (fun i _ => m - (intOf i).toNat)
  case atStart => exact ⟨0, by omega, rfl, rfl, HB1.out, HR1.out⟩
  case round =>
    clear HB1 HR1
    obtain ⟨i, hk, rfl, hbt, hB, hr⟩ := hrel
    have r1 : wr.cell? ⟨B, 1, none⟩ = some (.slice x2 m cap2) := by rw [cell_of_row _ B 1 _ _ (0, 0) hr]; rfl
    by_cases hlt : i < m
    · have hki : (i : Int) < (m : Int) := by omega
      have hki2 : (i : Int) < (cap2 : Int) := by omega
      obtain ⟨bk, off, rfl, hat⟩ := HL.out.at hlt
      have hst := HBT.out i (by omega)
      have hno := HBN.out i (by omega)
      obtain ⟨y, hck⟩ : ∃ y, cs.getD i Cl.zero = y := ⟨_, rfl⟩
      rw [hck] at hat hst hno
      obtain ⟨n, s, a, b, g, t, d, e⟩ := y
      obtain ⟨p0, p1, p2, p3, p4, p5, p6, p7⟩ := hat wr hB
      simp only at p0 p1 p2 p3 p4 p5 p6 p7
      obtain ⟨C, hC⟩ : ∃ z, sameC ⟨n, s, a, b, g, t, d, e⟩ Cl.zero = z := ⟨_, rfl⟩
      rw [hC] at hst hno
      rw [hbt] at hst
      have HST := Lib.hid hst
      have HNO := Lib.hid hno
      have HB := Lib.hid hB
      have HR := Lib.hid hr
      have hs := fun W => rsame_c n s a b g t d e 0 0 0 0 false [] 0 0 W
      rw [show sameC ⟨n, s, a, b, g, t, d, e⟩ ⟨0, 0, 0, 0, false, [], 0, 0⟩ = C from hC, hnil] at hs
      have HS := Lib.hid hs
      clear hck hC hst hno hB hr hat hbt hs
      cases C with
      | true =>
        go_wp2_with (go_at_call 53; (with_reducible refine (HS.out _).mono ?_); rintro e9 w9 ⟨rfl, hb9⟩)
        go_roundw
        case rel => exact ⟨i + 1, by omega, by go_num, HST.out, HB.out.trans (hb9.mono HB.out.size), (hb9.block _ (Array.getElem?_eq_some_iff.1 HR.out).1).trans HR.out⟩
        case measure => simp [intOf]; omega
      | false =>
        have HRR := Lib.hid (show R = false by rw [← HRV.out]; exact HNO.out rfl)
        go_wp2_with (go_at_call 53; (with_reducible refine (HS.out _).mono ?_); rintro e9 w9 ⟨rfl, hb9⟩)
        go_ret
        exact ⟨by rw [HRR.out]; rfl, HB.out.trans (hb9.mono HB.out.size)⟩
    · obtain rfl : i = m := by omega
      rw [List.take_of_length_le (by omega)] at hbt
      have HRR := Lib.hid (show R = true by rw [← HRV.out]; exact hbt)
      have HB := Lib.hid hB
      clear hbt hB hr
      go_wp2
      go_ret
      exact ⟨by rw [HRR.out]; rfl, HB.out⟩
end Go.Proofs.Ytidbjmkfmfojdaa
end

section
namespace Go.Proofs.Ytidbjmkfmfojdaa
open Go.RowKit Go Go.Sort
set_option linter.unusedVariables false
set_option maxRecDepth 20000

/-- The example's schema. -/
def exG : List Grp := [([97], 1), ([98], 2)]
def schO : Obj := .cells #[.string ⟨#[97]⟩, .int .i64 1, .string ⟨#[98]⟩, .int .i64 2] 133 (0, 0)
/-- The schema in memory. -/
def SchV (v : Value) (W : World) : Prop := ∃ q, v = .slice (some ⟨q, 0, none⟩) 2 2 ∧ W.heap[q]? = some schO
theorem SchV.kept {v : Value} {X Y : World} (h : SchV v X) (hb : Below X.heap.size X Y) : SchV v Y := by
  obtain ⟨q, h1, h2⟩ := h
  exact ⟨q, h1, (hb.block _ (Array.getElem?_eq_some_iff.1 h2).1).trans h2⟩
theorem SchV.grs {v : Value} {W : World} (h : SchV v W) : ∃ q, v = .slice (some ⟨q, 0, none⟩) 2 2 ∧ Grs W (some ⟨q, 0, none⟩) 2 2 exG := by
  obtain ⟨q, h1, h2⟩ := h
  refine ⟨q, h1, rfl, Nat.le_refl _, by omega, .inr ⟨q, 0, rfl, fun i hi => ?_⟩⟩
  have hc := fun j => cell_of_row W q j #[.string ⟨#[97]⟩, .int .i64 1, .string ⟨#[98]⟩, .int .i64 2] 133 (0, 0) h2
  rcases (by omega : i = 0 ∨ i = 1) with rfl | rfl
  · exact ⟨(hc 0).trans rfl, (hc 1).trans rfl⟩
  · exact ⟨(hc 2).trans rfl, (hc 3).trans rfl⟩
end Go.Proofs.Ytidbjmkfmfojdaa
end

section
namespace Go.Proofs.Ytidbjmkfmfojdaa
open Go.RowKit Go Go.Sort
set_option linter.unusedVariables false
set_option maxRecDepth 20000

theorem heap_below {W W' : World} {q : Nat} {o : Obj} (h : W.heap[q]? = some o) (hb : Below W.heap.size W W') : W'.heap[q]? = some o := (hb.block _ (Array.getElem?_eq_some_iff.1 h).1).trans h
/-- New and View, as a law's walk wants them. -/
theorem RowPost.cells {r : List UInt8 × List Cl × Int} {w : World} {e : Ending} {w' : World} (h : RowPost r w e w') : ∃ a c, e = .returned (.tuple #[.agg #[.string (text r.1), .slice a r.2.1.length c], .int .i64 r.2.2]) ∧ Cls w' a r.2.1.length c r.2.1 ∧ Below w.heap.size w w' := by
  obtain ⟨v, rfl, ho, hb⟩ := h
  obtain ⟨a, c, rfl, hc⟩ := ho.cls
  exact ⟨a, c, rfl, hc, hb⟩
end Go.Proofs.Ytidbjmkfmfojdaa
end

section
namespace Go.Proofs.Ytidbjmkfmfojdaa
open Go.RowKit Go Go.Sort
set_option linter.unusedVariables false
set_option maxRecDepth 20000

theorem run_copy_wide (P : Program) (w : World) (dT sT ty elem : TypeId) (g dLen dCap : Nat) (sp : Option Addr) (sLen sCap sz : Nat) (cur : Array Value) (t : TypeId) (cs : List Value)
    (hu : P.underlying dT = some (.slice elem)) (hs : (P.info? elem).map (·.size) = some sz)
    (hg : w.heap[g]? = some (.cells cur t (0, 0))) (hn : cs.length = Nat.min sLen dLen * sz)
    (hsrc : cs = [] ∧ sLen = 0 ∨ ∃ a, sp = some a ∧ ∀ j v, cs[j]? = some v → w.cell? (a.add j) = some v) (hfit : cs.length ≤ cur.size) (h1 : ∀ v ∈ cs, v.oneCell' = true) :
    (Builtin.copy_ #[dT, sT] ty #[.slice (some ⟨g, 0, none⟩) dLen dCap, .slice sp sLen sCap]).run P w =
      .ok (goInt (Nat.min sLen dLen)) (w.setRow g (cs ++ cur.toList.drop cs.length).toArray) := by
  have hst := run_storeCells_at P g 0 t cs 0 cur w hg (by simpa using hfit) h1
  simp only [Nat.zero_add, List.take_zero, List.nil_append] at hst
  cases hq : P.info? elem with
  | none => simp [hq] at hs
  | some i =>
    have hi : i.size = sz := by simpa [hq] using hs
    rcases hsrc with ⟨rfl, rfl⟩ | ⟨a, rfl, hsrc⟩
    · have e0 : Nat.min 0 dLen = 0 := Nat.zero_min _
      cases sp with
      | none => simp [Builtin.copy_, run_underlying hu, Builtin.lenOf, Builtin.firstCells, sizeOf, typeInfo, hq, e0, hst]
      | some a =>
        have hl := run_loadCells_list (P := P) w a [] (by simp)
        simp only [List.length_nil] at hl
        simp [Builtin.copy_, run_underlying hu, Builtin.lenOf, Builtin.firstCells, sizeOf, typeInfo, hq, e0, hl, hst]
    · have hl := run_loadCells_list (P := P) w a cs hsrc
      rw [hn] at hl
      simp [Builtin.copy_, run_underlying hu, Builtin.lenOf, Builtin.firstCells, sizeOf, typeInfo, hq, hi, hl, hst]

theorem wpList_copy_wide {P : Program} {w : World} {ops : Array Oper} {rest : List Oper} {o : Oper} {a : Act} {Q : Exit → Act → World → Prop} (hgd : o.guard = none) (d s : Operand) (dT sT : TypeId)
    (ho : o.op = .call { callee := .builtin .copy, args := #[d, s], argTypes := #[dT, sT] }) (elem : TypeId) (hu : P.underlying dT = some (.slice elem)) (sz : Nat) (hsz : (P.info? elem).map (·.size) = some sz)
    (g dLen dCap : Nat) (sp : Option Addr) (sLen sCap : Nat) (hd : a.eval d = .slice (some ⟨g, 0, none⟩) dLen dCap) (hs : a.eval s = .slice sp sLen sCap)
    (cur : Array Value) (t : TypeId) (hg : w.heap[g]? = some (.cells cur t (0, 0))) (cs : List Value) (hn : cs.length = Nat.min sLen dLen * sz)
    (hsrc : cs = [] ∧ sLen = 0 ∨ ∃ a, sp = some a ∧ ∀ j v, cs[j]? = some v → w.cell? (a.add j) = some v) (hfit : cs.length ≤ cur.size) (h1 : ∀ v ∈ cs, v.oneCell' = true)
    (h : wpList P ops Q rest (a.put o.dst (goInt (Nat.min sLen dLen))) (w.setRow g (cs ++ cur.toList.drop cs.length).toArray)) : wpList P ops Q (o :: rest) a w := by
  refine wpList_plain hgd fun K hK => ?_
  have hrun := run_copy_wide P w dT sT o.type elem g dLen dCap sp sLen sCap sz cur t cs hu hsz hg hn hsrc hfit h1
  unfold Oper.wp
  simp [execOp, ho, resolve, invoke, builtin, hd, hs, hrun, Result.andThen]
  exact hK _ _ h
theorem Cls.src {w : World} {x : Option Addr} {m cap : Nat} {cs : List Cl} (h : Cls w x m cap cs) : cCells cs = [] ∧ m = 0 ∨ ∃ a, x = some a ∧ ∀ j v, (cCells cs)[j]? = some v → w.cell? (a.add j) = some v := by
  have hl := h.len
  by_cases h0 : m = 0
  · left
    obtain rfl : cs = [] := List.eq_nil_of_length_eq_zero (by omega)
    exact ⟨rfl, h0⟩
  · right
    obtain ⟨b, off, rfl, _⟩ := h.at (k := 0) (by omega)
    refine ⟨_, rfl, fun j v hj => ?_⟩
    have hjl := (List.getElem?_eq_some_iff.1 hj).1
    rw [cCells_length] at hjl
    have hk : j / 8 < m := by omega
    obtain ⟨b', off', e, hat⟩ := h.at hk
    obtain ⟨rfl, rfl⟩ : b = b' ∧ off = off' := by
      have := Option.some.inj e
      injection this with e1 e2
      exact ⟨e1, e2⟩
    have hc := hat w (Below.refl _ _)
    have hg := cCells_get cs (j / 8) (j % 8) (by omega) (Nat.mod_lt _ (by omega))
    have e8 : j / 8 * 8 + j % 8 = j := by omega
    rw [e8, hj] at hg
    rw [addr_add]
    obtain ⟨c0, c1, c2, c3, c4, c5, c6, c7⟩ := hc
    have hm : j % 8 < 8 := Nat.mod_lt _ (by omega)
    obtain ⟨r, hr⟩ : ∃ r, j % 8 = r := ⟨_, rfl⟩
    rw [hr] at hg hm e8
    rw [show off + j = off + j / 8 * 8 + r by omega]
    generalize cs.getD (j / 8) Cl.zero = c at *
    generalize off + j / 8 * 8 = z at *
    rcases (by omega : r = 0 ∨ r = 1 ∨ r = 2 ∨ r = 3 ∨ r = 4 ∨ r = 5 ∨ r = 6 ∨ r = 7) with rfl | rfl | rfl | rfl | rfl | rfl | rfl | rfl
    · rw [Nat.add_zero, c0, hg]; rfl
    · rw [c1, hg]; rfl
    · rw [c2, hg]; rfl
    · rw [c3, hg]; rfl
    · rw [c4, hg]; rfl
    · rw [c5, hg]; rfl
    · rw [c6, hg]; rfl
    · rw [c7, hg]; rfl
theorem cCells_one (cs : List Cl) : ∀ v ∈ cCells cs, v.oneCell' = true := by
  intro v hv
  obtain ⟨c, _, h⟩ := List.mem_flatMap.1 hv
  simp [Cl.arr] at h
  rcases h with rfl | rfl | rfl | rfl | rfl | rfl | rfl | rfl <;> rfl

set_option maxRecDepth 100000 in
set_option maxHeartbeats 3200000 in
theorem copied_c {w : World} {x : Option Addr} {m cap : Nat} {cs : List Cl} (hl : Cls w x m cap cs) (hm : m ≤ 1000000) (key : ByteArray) :
    Calls Try.prog 103 #[.agg #[.string key, .slice x m cap]] w (fun e w' => ∃ g, e = .returned (.agg #[.string key, .slice (some ⟨g, 0, none⟩) m m]) ∧ w.heap.size ≤ g ∧ w'.heap[g]? = some (.cells (cCells cs).toArray 75 (0, 0)) ∧ Below w.heap.size w w') := by
  have hll := hl.len
  have hle := hl.le
  have hmax := hl.max
  obtain ⟨i0, hi, hz0, hz1, hz2⟩ := info_parts Try.infoC
  have hb := (alloc_below w (.cells #[.string key, .slice x m cap] 30)).alloc (by simp) (.cells #[.string ⟨#[]⟩, .slice none 0 0] 30)
  have hr0 : ((w.alloc (.cells #[.string key, .slice x m cap] 30)).alloc (.cells #[.string ⟨#[]⟩, .slice none 0 0] 30)).heap[w.heap.size]? = some (.cells #[.string key, .slice x m cap] 30 (0, 0)) := (Below.heap_alloc _ _ _ (by simp)).trans (heap_alloc_new w _)
  have hr1 := heap_alloc_new (w.alloc (.cells #[.string key, .slice x m cap] 30)) (.cells #[.string ⟨#[]⟩, .slice none 0 0] 30)
  rw [World.size_alloc] at hr1
  have HL := Lib.hid hl
  clear hl
  go_enter Try.func103, Try.ntmps103
  go_upto_region 1 with (fail)
  obtain ⟨B, hB⟩ : ∃ q, w.heap.size = q := ⟨_, rfl⟩
  have HBe := Lib.hid hB
  rw [hB] at hr0 hr1 ⊢
  clear hB
  generalize (w.alloc (.cells #[.string key, .slice x m cap] 30)).alloc (.cells #[.string ⟨#[]⟩, .slice none 0 0] 30) = W1 at *
  obtain ⟨r0, r1, -⟩ := row_cells hr0
  have HR0 := Lib.hid hr0
  have HR1 := Lib.hid hr1
  have HB1 := Lib.hid hb
  clear hr0 hr1 hb
  go_upto_region 2 with (refine wpList_make_full _ rfl _ _ _ rfl w.heap.size 75 i0 _ 8 Try.underlying28 hi hz0 hz1 .i64 .i64 _ _ m rfl rfl rfl rfl (by rw [hz2]; omega) (by unfold maxLen; omega) HB1.out.size ?_; intro w2 ho2 hg2)
  obtain ⟨-, ⟨ev, -⟩ | ⟨g, c, cur, ev, hBg, hgc, -,-, hcs, -⟩⟩ := ho2
  · cases ev
  · injection ev with e1 e2 e3
    injection e1 with e1
    injection e1 with e1
    subst e3
    rw [e1]
    have hlt := (Array.getElem?_eq_some_iff.1 hgc).1
    have hb2 := HB1.out.grown hg2 HB1.out.size (fun k e => by cases e)
    have hr2 := heap_grown HR0.out hg2 (by simp)
    have he2 := heap_grown HR1.out hg2 (by simp)
    have hgB : g ≠ B := fun e => by rw [e, hr2] at hgc; cases hgc
    have hgB1 : g ≠ B + 1 := fun e => by rw [e, he2] at hgc; cases hgc
    have hsrc := (HL.out.below hb2).src
    have hccl := cCells_length cs
    rw [hll] at hccl
    have h1c := cCells_one cs
    obtain ⟨r0, r1, -⟩ := row_cells hr2
    obtain ⟨X, hX⟩ : ∃ X, cCells cs = X := ⟨_, rfl⟩
    rw [hX] at hsrc hccl h1c
    have HX := Lib.hid hX
    clear hX
    have hdr : (X ++ cur.toList.drop X.length).toArray = X.toArray := by rw [List.drop_of_length_le (by simp; omega), List.append_nil]
    have HB3 := Lib.hid (below_setRow hb2 hBg X.toArray)
    have hr3 := (setRow_other w2 g B X.toArray (fun e => hgB e.symm)).trans hr2
    have he3 := (setRow_other w2 g (B + 1) X.toArray (fun e => hgB1 e.symm)).trans he2
    have HG3 := Lib.hid (setRow_heap w2 g cur X.toArray _ _ hgc)
    have hbg := hBg
    go_upto_region 3 with (refine wpList_copy_wide rfl _ _ 28 28 rfl 75 Try.underlying28 8 (by kernel_rfl) g m m x m cap rfl rfl cur 75 hgc X (by rw [hccl]; congr 1; exact (Nat.min_self m).symm) hsrc (by omega) h1c ?_; rw [hdr])
    obtain ⟨s0, s1, -⟩ := row_cells hr3
    obtain ⟨z0, z1, zf⟩ := row_cells he3
    have HS := Lib.hid (row_set he3 key (.slice (some ⟨g, 0, none⟩) m m))
    have HW := Lib.hid ((HB3.out.setCell (p := ⟨B + 1, 0, none⟩) (by have := HBe.out; simp; omega) (.string key)).setCell (p := ⟨B + 1, 1, none⟩) (by have := HBe.out; simp; omega) (.slice (some ⟨g, 0, none⟩) m m))
    have HGW := Lib.hid ((Below.heap_setCell ((w2.setRow g X.toArray).setCell ⟨B + 1, 0, none⟩ (.string key)) ⟨B + 1, 1, none⟩ (.slice (some ⟨g, 0, none⟩) m m) g (by simp; omega)).trans ((Below.heap_setCell (w2.setRow g X.toArray) ⟨B + 1, 0, none⟩ (.string key) g (by simp; omega)).trans HG3.out))
    clear hr3 he3 hr2 he2 hgc hsrc h1c hdr hb2 hg2 r0 r1
    go_wp2
    exact bodyPost_ret (results_cell_row rfl _ _ (B + 1) 30 _ (0, 0) _ rfl HS.out Try.underlying30 rfl (by kernel_rfl)) rfl ⟨g, rfl, hbg, by rw [HX.out]; exact HGW.out, HW.out⟩
end Go.Proofs.Ytidbjmkfmfojdaa
end

section
namespace Go.Proofs.Ytidbjmkfmfojdaa
open Go.RowKit Go Go.Sort
set_option linter.unusedVariables false
set_option maxRecDepth 20000

theorem zeros (W : World) : CelC (W.alloc (.cells #[.int .i64 0, .int .i64 0, .int .i64 0, .int .i64 0, .bool false, .string ⟨#[]⟩, .int .i64 0, .int .i64 0] 75)) W.heap.size Cl.zero := Cel.new W 0 0 0 0 false [] 0 0
theorem CelC.cs {W : World} {q : Nat} {n s a b : Int} {g : Bool} {t : List UInt8} {d e : Int} (h : CelC W q ⟨n, s, a, b, g, t, d, e⟩) : CelAt W q 0 ⟨n, s, a, b, g, t, d, e⟩ := by
  have := Cel.cs h
  simpa [CelAt] using this

set_option maxHeartbeats 6400000 in
theorem join_c {w : World} {x : Option Addr} {m cap : Nat} {l : List Cl} (hl : Cls w x m cap l) : Calls Try.prog 104 #[.slice x m cap] w (Tells (.agg (joinC l).arr) w) := by
  have hln := hl.len
  have hnle := hl.le
  have hnm := hl.max
  have ho := (zeros w).alloc (.cells #[.int .i64 0, .int .i64 0, .int .i64 0, .int .i64 0, .bool false, .string ⟨#[]⟩, .int .i64 0, .int .i64 0] 75)
  have hq := zeros (w.alloc (.cells #[.int .i64 0, .int .i64 0, .int .i64 0, .int .i64 0, .bool false, .string ⟨#[]⟩, .int .i64 0, .int .i64 0] 75))
  simp only [World.size_alloc] at hq
  have hb := (alloc_below w (.cells #[.int .i64 0, .int .i64 0, .int .i64 0, .int .i64 0, .bool false, .string ⟨#[]⟩, .int .i64 0, .int .i64 0] 75)).alloc (by simp) (.cells #[.int .i64 0, .int .i64 0, .int .i64 0, .int .i64 0, .bool false, .string ⟨#[]⟩, .int .i64 0, .int .i64 0] 75)
  have hmf := mkf
  have HL := Lib.hid hl
  clear hl
  go_enter Try.func104, Try.ntmps104
  go_upto_region 2 with (fail)
  have HB := Lib.hid hb
  obtain ⟨B, hB⟩ : ∃ q, w.heap.size = q := ⟨_, rfl⟩
  have HBe := Lib.hid hB
  rw [hB] at ho hq ⊢
  clear hB hb
  generalize (w.alloc (.cells #[.int .i64 0, .int .i64 0, .int .i64 0, .int .i64 0, .bool false, .string ⟨#[]⟩, .int .i64 0, .int .i64 0] 75)).alloc (.cells #[.int .i64 0, .int .i64 0, .int .i64 0, .int .i64 0, .bool false, .string ⟨#[]⟩, .int .i64 0, .int .i64 0] 75) = W1 at *
  have HQ := Lib.hid hq
  have HO := Lib.hid ho
  clear hq ho
  go_wp2
  go_loopw [10] (fun i wr => ∃ k : Nat, k ≤ m ∧ i = .int .i64 k ∧ CelC wr (B + 1) (joinC (l.take k)) ∧ CelC wr B Cl.zero ∧ Below w.heap.size w wr) (fun i _ => m - (intOf i).toNat)
  case atStart => exact ⟨0, by omega, rfl, HQ.out, HO.out, HB.out⟩
  case round =>
    clear HQ HO HB
    obtain ⟨i, hk, rfl, hq, ho, hB⟩ := hrel
    by_cases hlt : i < m
    · have hki : (i : Int) < (m : Int) := by omega
      have hki2 : (i : Int) < (cap : Int) := by omega
      obtain ⟨bk, off, rfl, hat⟩ := HL.out.at hlt
      have HJ := Lib.hid (join_take l i (by omega))
      obtain ⟨y, hy⟩ : ∃ y, l.getD i Cl.zero = y := ⟨_, rfl⟩
      obtain ⟨j, hj⟩ : ∃ j, joinC (l.take i) = j := ⟨_, rfl⟩
      rw [hy] at HJ hat
      rw [hj] at hq HJ
      obtain ⟨n, s, a, b, g, t, d, e⟩ := j
      obtain ⟨n', s', a', b', g', t', d', e'⟩ := y
      obtain ⟨p0, p1, p2, p3, p4, p5, p6, p7⟩ := hat wr hB
      simp only at p0 p1 p2 p3 p4 p5 p6 p7
      have HQ := Lib.hid hq
      have HO := Lib.hid ho
      have HB := Lib.hid hB
      have HC := Lib.hid (fun W h => join1_c n s a b g t d e n' s' a' b' g' t' d' e' (B + 1) (w := W) h)
      clear hat hy hj hq ho hB
      go_upto_region 6 with (fail)
      have hq2 := HQ.out.alloc (.cells #[.int .i64 n', .int .i64 s', .int .i64 a', .int .i64 b', .bool g', .string (text t'), .int .i64 d', .int .i64 e'] 75)
      have hx2 := Cel.new wr n' s' a' b' g' t' d' e'
      have hlo := hq2.lt
      have hgr := HQ.out.lt
      have HO2 := Lib.hid (HO.out.alloc (.cells #[.int .i64 n', .int .i64 s', .int .i64 a', .int .i64 b', .bool g', .string (text t'), .int .i64 d', .int .i64 e'] 75))
      have HB2 := Lib.hid (HB.out.alloc HB.out.size (.cells #[.int .i64 n', .int .i64 s', .int .i64 a', .int .i64 b', .bool g', .string (text t'), .int .i64 d', .int .i64 e'] 75))
      have HS := Lib.hid (show B + 1 < (wr.alloc (.cells #[.int .i64 n', .int .i64 s', .int .i64 a', .int .i64 b', .bool g', .string (text t'), .int .i64 d', .int .i64 e'] 75)).heap.size by simp; omega)
      obtain ⟨gx, hgx⟩ : ∃ g, wr.heap.size = g := ⟨_, rfl⟩
      rw [hgx] at hx2 ⊢
      generalize wr.alloc (.cells #[.int .i64 n', .int .i64 s', .int .i64 a', .int .i64 b', .bool g', .string (text t'), .int .i64 d', .int .i64 e'] 75) = W2 at *
      have HF := Lib.hid (show Cel W2 (B + 1) n s a b g t d e from hq2)
      obtain ⟨c0, c1, c2, c3, c4, c5, c6, c7⟩ := HF.out.cs
      obtain ⟨k0, k1, k2, k3, k4, k5, k6, k7⟩ := hx2.cs
      clear hq2 hx2 p0 p1 p2 p3 p4 p5 p6 p7 HQ HO HB hgx hlo hgr
      go_wp2_with (go_at_call 123; (with_reducible refine (HC.out _ HF.out).mono ?_); rintro e9 w3 ⟨rfl, hw3⟩)
      have HV := Lib.hid (show CelC w3 (B + 1) (twoS ⟨n, s, a, b, g, t, d, e⟩ ⟨n', s', a', b', g', t', d', e'⟩) from hw3.cell)
      have HO3 := Lib.hid (show CelC w3 B Cl.zero from hw3.cel HO2.out (by omega))
      have HB3 := Lib.hid (HB2.out.trans (hw3.below (by have := HBe.out; omega) (Nat.le_of_lt HS.out)))
      clear hw3 c0 c1 c2 c3 c4 c5 c6 c7 k0 k1 k2 k3 k4 k5 k6 k7
      go_wp2
      go_roundw
      case rel => exact ⟨i + 1, by omega, rfl, by rw [HJ.out]; exact HV.out, HO3.out, HB3.out⟩
      case measure => simp [intOf]; omega
    · obtain rfl : i = m := by omega
      rw [List.take_of_length_le (by omega)] at hq
      obtain ⟨J, hJ⟩ : ∃ j, joinC l = j := ⟨_, rfl⟩
      rw [hJ] at hq
      obtain ⟨n, s, a, b, g, t, d, e⟩ := J
      have hq' : Cel wr (B + 1) n s a b g t d e := hq
      have ho' : Cel wr B 0 0 0 0 false [] 0 0 := ho
      obtain ⟨c0, c1, c2, c3, c4, c5, c6, c7⟩ := hq'.cs
      obtain ⟨o0, o1, o2, o3, o4, o5, o6, o7⟩ := ho'.cs
      have ofz := ho'.fz
      have HO := Lib.hid ho'
      have HB := Lib.hid hB
      have HJ2 := Lib.hid hJ
      clear hq ho hB hq' ho' hJ
      go_wp2
      refine bodyPost_ret (results_cell_row rfl _ _ B 75 _ (0, 0) _ rfl (HO.out.put n s a b g t d e) Try.underlying75 rfl (sizeC n s a b g t d e)) rfl ⟨by rw [HJ2.out]; rfl, put_below HB.out (by have := HBe.out; omega) n s a b g t d e⟩
end Go.Proofs.Ytidbjmkfmfojdaa
end

section
namespace Go.Proofs.Ytidbjmkfmfojdaa
open Go.RowKit Go Go.Sort
set_option linter.unusedVariables false
set_option maxRecDepth 20000

theorem cells_put {W : World} {g k : Nat} {cs : List Cl} (hg : W.heap[g]? = some (.cells (cCells cs).toArray 75 (0, 0))) (hk : k < cs.length) (n9 s9 a9 b9 : Int) (g9 : Bool) (t9 : List UInt8) (d9 e9 : Int) :
    (((((((((W.setCell ⟨g, k * 8, none⟩ (.int .i64 n9)).setCell ⟨g, k * 8 + 1, none⟩ (.int .i64 s9)).setCell ⟨g, k * 8 + 2, none⟩ (.int .i64 a9)).setCell ⟨g, k * 8 + 3, none⟩ (.int .i64 b9)).setCell ⟨g, k * 8 + 4, none⟩ (.bool g9)).setCell ⟨g, k * 8 + 5, none⟩ (.string (text t9))).setCell ⟨g, k * 8 + 6, none⟩ (.int .i64 d9)).setCell ⟨g, k * 8 + 7, none⟩ (.int .i64 e9))).heap[g]? = some (.cells (cCells (cs.set k ⟨n9, s9, a9, b9, g9, t9, d9, e9⟩)).toArray 75 (0, 0)) := by
  have h0 := heap_setCell_same W g (k * 8) _ _ (.int .i64 n9) hg
  have h1 := heap_setCell_same _ g (k * 8 + 1) _ _ (.int .i64 s9) h0
  have h2 := heap_setCell_same _ g (k * 8 + 2) _ _ (.int .i64 a9) h1
  have h3 := heap_setCell_same _ g (k * 8 + 3) _ _ (.int .i64 b9) h2
  have h4 := heap_setCell_same _ g (k * 8 + 4) _ _ (.bool g9) h3
  have h5 := heap_setCell_same _ g (k * 8 + 5) _ _ (.string (text t9)) h4
  have h6 := heap_setCell_same _ g (k * 8 + 6) _ _ (.int .i64 d9) h5
  have h7 := heap_setCell_same _ g (k * 8 + 7) _ _ (.int .i64 e9) h6
  rw [h7]
  refine congrArg (fun z => some (Obj.cells z 75 (0, 0))) ?_
  apply Array.ext_getElem?
  intro j
  have hl := cCells_length cs
  have hl2 := cCells_length (cs.set k ⟨n9, s9, a9, b9, g9, t9, d9, e9⟩)
  rw [List.length_set] at hl2
  simp only [Array.getElem?_setIfInBounds, List.getElem?_toArray, Array.size_setIfInBounds, List.size_toArray, hl]
  by_cases hj : j < cs.length * 8
  · have hd : j / 8 < cs.length := by omega
    have hm : j % 8 < 8 := Nat.mod_lt _ (by omega)
    have e8 : j / 8 * 8 + j % 8 = j := by omega
    have g1 := cCells_get cs (j / 8) (j % 8) hd hm
    have g2 := cCells_get (cs.set k ⟨n9, s9, a9, b9, g9, t9, d9, e9⟩) (j / 8) (j % 8) (by rw [List.length_set]; exact hd) hm
    rw [e8] at g1 g2
    rw [g2, g1]
    obtain ⟨r, hr⟩ : ∃ r, j % 8 = r := ⟨_, rfl⟩
    rw [hr] at hm e8 ⊢
    by_cases hq : j / 8 = k
    · rw [hq] at e8 ⊢
      have e9 : (cs.set k ⟨n9, s9, a9, b9, g9, t9, d9, e9⟩).getD k Cl.zero = ⟨n9, s9, a9, b9, g9, t9, d9, e9⟩ := by simp [hk]
      rw [e9]
      subst e8
      have hk8 : k * 8 + 7 < cs.length * 8 := by omega
      rcases (by omega : r = 0 ∨ r = 1 ∨ r = 2 ∨ r = 3 ∨ r = 4 ∨ r = 5 ∨ r = 6 ∨ r = 7) with rfl | rfl | rfl | rfl | rfl | rfl | rfl | rfl
      all_goals
        repeat rw [if_neg (by omega)]
        rw [if_pos (by omega), if_pos (by omega)]
        rfl
    · have e9 : (cs.set k ⟨n9, s9, a9, b9, g9, t9, d9, e9⟩).getD (j / 8) Cl.zero = cs.getD (j / 8) Cl.zero := by
        simp only [List.getD_eq_getElem?_getD, List.getElem?_set]
        rw [if_neg (fun e => hq e.symm)]
      rw [e9]
      repeat rw [if_neg (by omega)]
  · rw [List.getElem?_eq_none (by omega), List.getElem?_eq_none (by omega)]
    repeat rw [if_neg (by omega)]
theorem cells_put_other {W : World} {g k q : Nat} (hq : q ≠ g) (n9 s9 a9 b9 : Int) (g9 : Bool) (t9 : List UInt8) (d9 e9 : Int) : (((((((((W.setCell ⟨g, k * 8, none⟩ (.int .i64 n9)).setCell ⟨g, k * 8 + 1, none⟩ (.int .i64 s9)).setCell ⟨g, k * 8 + 2, none⟩ (.int .i64 a9)).setCell ⟨g, k * 8 + 3, none⟩ (.int .i64 b9)).setCell ⟨g, k * 8 + 4, none⟩ (.bool g9)).setCell ⟨g, k * 8 + 5, none⟩ (.string (text t9))).setCell ⟨g, k * 8 + 6, none⟩ (.int .i64 d9)).setCell ⟨g, k * 8 + 7, none⟩ (.int .i64 e9))).heap[q]? = W.heap[q]? :=
  (Below.heap_setCell _ ⟨g, k * 8 + 7, none⟩ _ q hq).trans ((Below.heap_setCell _ ⟨g, k * 8 + 6, none⟩ _ q hq).trans ((Below.heap_setCell _ ⟨g, k * 8 + 5, none⟩ _ q hq).trans ((Below.heap_setCell _ ⟨g, k * 8 + 4, none⟩ _ q hq).trans ((Below.heap_setCell _ ⟨g, k * 8 + 3, none⟩ _ q hq).trans ((Below.heap_setCell _ ⟨g, k * 8 + 2, none⟩ _ q hq).trans ((Below.heap_setCell _ ⟨g, k * 8 + 1, none⟩ _ q hq).trans (Below.heap_setCell _ ⟨g, k * 8, none⟩ _ q hq)))))))
def ClsV (l : List Cl) (v : Value) (W : World) : Prop := ∃ a n c, v = .slice a n c ∧ Cls W a n c l
theorem ClsV.kept {l : List Cl} {v : Value} {X Y : World} (h : ClsV l v X) (hb : Below X.heap.size X Y) : ClsV l v Y := by
  obtain ⟨a, n, c, rfl, h⟩ := h
  exact ⟨a, n, c, rfl, h.below hb⟩
theorem own_lit {W : World} {g B m : Nat} {cs : List Cl} (hg : W.heap[g]? = some (.cells (cCells cs).toArray 75 (0, 0))) (hB : B ≤ g) (hm : cs.length = m) (h : m ≤ 1000000) : OwnC W B (.slice (some ⟨g, 0, none⟩) m m) cs := by
  subst hm
  refine ⟨by simp [cCells_length], .inr ⟨g, cs.length, (cCells cs).toArray, rfl, hB, hg, Nat.le_refl _, by unfold maxLen; omega, by simp [cCells_length], ?_⟩⟩
  rw [List.take_of_length_le (by simp [cCells_length])]

end Go.Proofs.Ytidbjmkfmfojdaa
end

