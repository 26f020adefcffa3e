/-
  Join: the program's Needed.
-/
import Derived.Test.YtkjpmdpljdgcjaaYH
import Derived.Maps.AppendAt
namespace Go.Proofs.Ytkjpmdpljdgcjaa
open Go.RowKit Go Go.Sort
set_option linter.unusedVariables false
set_option maxRecDepth 20000

attribute [local go_sem] Oper.semAt_some
theorem wpIn_scope_wide {n : Nat} {P : Program} {Q : Exit → Act → World → Prop} {a : Act} {w : World} {c : Code} (h : c.wpIn Fence.wide n P (Exit.noGoto Q) a w) : (Code.scope c).wpIn Fence.wide n P Q a w :=
  wpIn_wide.2 (wp_scope_straight (wpIn_wide.1 h))
/-- What an iterator turns is no block of another type. -/
theorem turn_keep {B k : Nat} {T t : TypeId} {W W' : World} {row : Option Nat} {cs : Array Value} {fr : Nat × Nat} (hg : W.grownBy W' row)
    (hr : ∀ r, row = some r → B ≤ r ∧ ∃ o : Obj, W.heap[r]? = some o ∧ (o.isCells = false ∨ ∃ cs fr, o = .cells cs T fr)) (h : W.heap[k]? = some (.cells cs t fr)) (ht : t ≠ T) : W'.heap[k]? = some (.cells cs t fr) := by
  refine (hg.block k (Array.getElem?_eq_some_iff.1 h).1 (fun e => ?_)).trans h
  obtain ⟨_, o, ho, hc⟩ := hr k e.symm
  rw [h] at ho
  cases ho
  rcases hc with hc | ⟨cs', fr', hc⟩
  · cases hc
  · cases hc; exact ht rfl
theorem turn_row {B B0 s k : Nat} {e T : TypeId} {W W' : World} {row : Option Nat} {v : Value} {xs : List Value} (hg : W.grownBy W' row)
    (hr : ∀ r, row = some r → B ≤ r ∧ ∃ o : Obj, W.heap[r]? = some o ∧ (o.isCells = false ∨ ∃ cs fr, o = .cells cs T fr)) (h : W.ownsRow B0 e s v k xs) (ht : e ≠ T) : W'.ownsRow B0 e s v k xs := by
  refine ⟨h.1, ?_⟩
  rcases h.2 with hn | ⟨g, cap, cur, rfl, hB, hg', rest⟩
  · exact .inl hn
  · exact .inr ⟨g, cap, cur, rfl, hB, turn_keep hg hr hg' ht, rest⟩
theorem turn_below {B n₀ : Nat} {T : TypeId} {w W W' : World} {row : Option Nat} (hg : W.grownBy W' row)
    (hr : ∀ r, row = some r → B ≤ r ∧ ∃ o : Obj, W.heap[r]? = some o ∧ (o.isCells = false ∨ ∃ cs fr, o = .cells cs T fr)) (hB : n₀ ≤ B) (hn : n₀ ≤ W.heap.size) (h : Below n₀ w W) : Below n₀ w W' :=
  h.grown hg hn (fun k e => Nat.le_trans hB (hr k e).1)

theorem below_keeps {B : Nat} {W W' : World} (h : Below W.heap.size W W') : KeepsFrom B W W' := ⟨h.size, fun k o _ hk _ => (h.block k (Array.getElem?_eq_some_iff.1 hk).1).trans hk⟩
/-- What a step leaves as it was that writes the boxes Bs and a row of T at or beyond base. -/
structure LeavesT (T : TypeId) (Bs : Nat → Prop) (base : Nat) (W W' : World) : Prop where
  size : W.heap.size ≤ W'.heap.size
  same : ∀ (j : Nat) (o : Obj), W.heap[j]? = some o → ¬ Bs j → (j < base ∨ ∀ cs fr, o ≠ .cells cs T fr) → W'.heap[j]? = some o
theorem LeavesT.trans {T : TypeId} {Bs : Nat → Prop} {base : Nat} {X Y Z : World} (h : LeavesT T Bs base X Y) (k : LeavesT T Bs base Y Z) : LeavesT T Bs base X Z :=
  ⟨Nat.le_trans h.size k.size, fun j o hj hb ho => k.same j o (h.same j o hj hb ho) hb ho⟩
theorem LeavesT.below {T : TypeId} {Bs : Nat → Prop} {base : Nat} {W W' : World} (h : Below W.heap.size W W') : LeavesT T Bs base W W' :=
  ⟨h.size, fun j o hj _ _ => (h.block j (Array.getElem?_eq_some_iff.1 hj).1).trans hj⟩
theorem LeavesT.setCell {T : TypeId} {Bs : Nat → Prop} {base : Nat} (W : World) {B : Nat} (hB : Bs B) (u : Value) : LeavesT T Bs base W (W.setCell ⟨B, 0, none⟩ u) :=
  ⟨(KeepsWalks.setCell W _ u).size, fun j o hj hb _ => (Below.heap_setCell W ⟨B, 0, none⟩ u j (fun e => by subst e; exact hb hB)).trans hj⟩
theorem LeavesT.alloc {T : TypeId} {Bs : Nat → Prop} {base : Nat} (W : World) (o : Obj) : LeavesT T Bs base W (W.alloc o) :=
  ⟨by simp, fun j o' hj _ _ => (Below.heap_alloc W o j (Array.getElem?_eq_some_iff.1 hj).1).trans hj⟩
theorem LeavesT.append {T : TypeId} {Bs : Nat → Prop} {base s : Nat} {W w1 : World} {v : Value} {k : Nat} {xs : List Value} (hrow : W.ownsRow base T s v k xs) (hgrow : W.grownBy w1 v.ownBlock) : LeavesT T Bs base W w1 := by
  refine ⟨hgrow.size, fun j o hj hb ho => (hgrow.block j (Array.getElem?_eq_some_iff.1 hj).1 ?_).trans hj⟩
  rcases hrow.2 with ⟨rfl, _⟩ | ⟨g, cap, cur, rfl, hbg, hg, _⟩
  · simp [Value.ownBlock]
  · intro e'
    obtain rfl : j = g := by simpa [Value.ownBlock] using e'
    rcases ho with h | h
    · omega
    · rw [hg] at hj; cases hj; exact h _ _ rfl
theorem LeavesT.keeps {T : TypeId} {Bs : Nat → Prop} {base B : Nat} {W W' : World} (h : LeavesT T Bs base W W') (hb : ∀ j, Bs j → j < B) : KeepsFrom B W W' :=
  ⟨h.size, fun j o hB hj ho => h.same j o hj (fun hh => by have := hb j hh; omega) (.inr (fun cs fr e => by subst e; cases ho))⟩
/-- Between two rounds. -/
def NeedI (l : List Cl) (x : Option Addr) (m cap n₀ base : Nat) (w : World) (xs : List Nat) (W : World) : Prop :=
  ∃ vb, Boxed W (n₀ + 1) 35 vb ∧ W.ownsRow base 3 1 vb (needN l xs.length).length ((needN l xs.length).map (Value.int .i64)) ∧ Boxed W n₀ 28 (.slice x m cap) ∧ Below n₀ w W ∧ base ≤ W.heap.size
theorem NeedI.own {l : List Cl} {x : Option Addr} {m cap n₀ base B : Nat} {w : World} (h1 : n₀ ≤ B) (h2 : n₀ ≤ base) : OwnT B 27 (NeedI l x m cap n₀ base w) := by
  rintro xs X Y row ⟨vb, hb, ho, hx, hw, hs⟩ hg hr
  exact ⟨vb, turn_keep hg hr hb (by decide), turn_row hg hr ho (by decide), turn_keep hg hr hx (by decide), turn_below hg hr h1 (Nat.le_trans h2 hs) hw, Nat.le_trans hs hg.size⟩
/-- A round's own variables. -/
def NeedA (l : List Cl) (tm : Nat → Nat → Array Value) (k : Nat) (a' : Act) (W : World) : Prop := ∃ q, CelC W q (joinC (l.take k)) ∧ a' = { tmps := tm q k, defers := [] }
theorem NeedA.own {l : List Cl} {tm : Nat → Nat → Array Value} {B : Nat} (k : Nat) (a' : Act) : OwnFrom B (fun (_ : Unit) W => NeedA l tm k a' W) := by
  rintro s X Y row ⟨q, h1, h2⟩ hg hr
  refine ⟨q, (hg.block q (Array.getElem?_eq_some_iff.1 h1).1 (fun e => ?_)).trans h1, h2⟩
  obtain ⟨_, o, ho, hc⟩ := hr q e.symm
  rw [show X.heap[q]? = _ from h1] at ho; cases ho; cases hc

set_option maxRecDepth 100000 in
set_option maxHeartbeats 6400000 in
theorem needed_c {w : World} {x : Option Addr} {m cap : Nat} {l : List Cl} (hl : Cls w x m cap l) (hm : m ≤ 1000000000) : Calls Try.prog 18 #[.slice x m cap] w (NeedPost l w) := by
  have hln := hl.len
  have hle := hl.le
  have hmax := hl.max
  refine (callsIn_wide (n := 3)).1 ?_
  refine callsIn_of_wp_marks Try.func18 rfl trivial ?_ rfl
  simp only [Try.ntmps18, List.size_toArray, List.length_cons, List.length_nil, Nat.reduceAdd, Nat.reduceSub, Array.replicate_succ, Array.replicate_zero, List.push_toArray, List.append_toArray, List.nil_append, List.cons_append]
  gi_wp2_with fail
  refine ⟨trivial, (callsIn_wide.2 joins_c).mono ?_⟩
  rintro e w1 ⟨rfl, rfl⟩
  gi_wp2_with fail
  have bX := ((Boxed.new w 28 (.slice x m cap)).alloc (.cells #[.slice none 0 0] 35)).alloc (.cells #[.slice x m cap] 28)
  have bO := (Boxed.new (w.alloc (.cells #[.slice x m cap] 28)) 35 (.slice none 0 0)).alloc (.cells #[.slice x m cap] 28)
  have bL := Boxed.new ((w.alloc (.cells #[.slice x m cap] 28)).alloc (.cells #[.slice none 0 0] 35)) 28 (.slice x m cap)
  simp only [World.size_alloc] at bO bL
  have hB0 : Below w.heap.size w (((w.alloc (.cells #[.slice x m cap] 28)).alloc (.cells #[.slice none 0 0] 35)).alloc (.cells #[.slice x m cap] 28)) :=
    (((Below.refl _ w).alloc (Nat.le_refl _) _).alloc (by simp) _).alloc (by simp; omega) _
  have hsz : (((w.alloc (.cells #[.slice x m cap] 28)).alloc (.cells #[.slice none 0 0] 35)).alloc (.cells #[.slice x m cap] 28)).heap.size = w.heap.size + 1 + 1 + 1 := by simp
  obtain ⟨W0, hW0⟩ : ∃ W0, ((w.alloc (.cells #[.slice x m cap] 28)).alloc (.cells #[.slice none 0 0] 35)).alloc (.cells #[.slice x m cap] 28) = W0 := ⟨_, rfl⟩
  rw [hW0] at bX bO bL hB0 hsz ⊢
  clear hW0
  have HSZ := Lib.hid hsz
  refine wpIn_range_tells (F := Fence.wide) rfl (by omega) (gf := 40) (lb := #[.pointer (some ⟨w.heap.size + 1 + 1, 0, none⟩)]) rfl trivial (enters_of Try.func40 (by kernel_rfl) rfl)
    (joins_tells hl hB0 2 (w.heap.size + 1 + 1) (by omega) bL) KC.trans (fun W l o o' hl h ho _ => KC.putObj W l o o' (by omega) (by omega) h ho)
    (fun xs X Y row hs hg hr => hs) (fun xs X Y row hs hg hr => hs) (fun _ => rfl)
    (NeedI l x m cap w.heap.size W0.heap.size w) (fun _ _ _ => False) (NeedI.own (by omega) (by omega)) (fun c xs X Y row hs hg hr => hs)
    ⟨_, bO, World.ownsRow_nil _ _ _ _, bX, hB0, Nat.le_refl _⟩
    (NeedA l (fun q k => #[.slice x m cap, .pointer (some ⟨w.heap.size, 0, none⟩), .slice none 0 0, .pointer (some ⟨w.heap.size + 1, 0, none⟩), .int .i64 (k : Int), .pointer (some ⟨q, 0, none⟩), .slice x m cap, .func (.func 40) #[] #[.pointer (some ⟨w.heap.size + 1 + 1, 0, none⟩)], .int .i64 (k : Int), .agg (joinC (l.take k)).arr, undef, undef, undef, undef, undef, undef, undef, undef, undef, undef, undef, undef])) (fun k a' => NeedA.own k a') ?assign ?body ?done ?stop
  case assign =>
    rintro q pre k W K ⟨vb, hb, ho, hx, hw, hs⟩ - hK
    obtain ⟨j, hj⟩ : ∃ j, joinC (l.take k) = j := ⟨_, rfl⟩
    dsimp only [jenc]
    rw [hj]
    obtain ⟨n, s, a, b, g, t, d, e⟩ := j
    dsimp only [Cl.arr]
    gi_wp2
    have hI : NeedI l x m cap w.heap.size W0.heap.size w pre W := ⟨vb, hb, ho, hx, hw, hs⟩
    have h3 := HSZ.out
    refine hK _ _ ((KeepsOthers.alloc _ _).from _) (KC.of_below (by omega) ((Below.refl _ W).alloc (Nat.le_refl _) _)) ((NeedI.own (B := W0.heap.size) (by omega) (by omega)).from.alloc _ hI) ⟨W.heap.size, ?_, ?_⟩
    · rw [hj]; exact Cel.new W n s a b g t d e
    · dsimp only; rw [hj]; rfl
  case body =>
    rintro q pre k a' W ⟨vb, hb, ho, hx, hw, hs⟩ ⟨g9, hcq, rfl⟩ ⟨rfl, hlt⟩
    obtain ⟨k, hkp⟩ : ∃ k, pre.length = k := ⟨_, rfl⟩
    rw [hkp] at hlt hcq ho ⊢
    have hki : (k : Int) < (m : Int) := by omega
    have hki2 : (k : Int) < (cap : Int) := by omega
    obtain ⟨bk, off, rfl, hat⟩ := hl.at hlt
    obtain ⟨R, hR⟩ : ∃ R, withinS (l.getD k Cl.zero) (joinC (l.take k)) = R := ⟨_, rfl⟩
    have HST := Lib.hid (needN_step l k R hR)
    have hnl := needN_le l k
    obtain ⟨y, hy⟩ : ∃ y, l.getD k Cl.zero = y := ⟨_, rfl⟩
    obtain ⟨j, hj⟩ : ∃ j, joinC (l.take k) = j := ⟨_, rfl⟩
    rw [hy, hj] at hR
    rw [hy] at hat
    dsimp only
    rw [hj] at hcq ⊢
    obtain ⟨n, s, a, b, g, t, d, e⟩ := j
    obtain ⟨n', s', a', b', g', t', d', e'⟩ := y
    have hC := fun W => within_c n' s' a' b' g' t' d' e' n s a b g t d e W
    rw [hR] at hC
    have HC := Lib.hid hC
    have HPW := Lib.hid (fun W' (h : Below W.heap.size W W') => hat W' (hw.trans (h.mono hw.size)))
    have HFC := Lib.hid (fun W' (h : Below W.heap.size W W') => And.intro ((show Cel W g9 n s a b g t d e from hcq).kept h).cs (show W'.cell? ⟨w.heap.size, 0, none⟩ = some (.slice (some ⟨bk, off, none⟩) m cap) from (h.cell (show w.heap.size < W.heap.size from hx.lt)).trans hx.cell))
    have HS := Lib.hid hs
    have HH := Lib.hid (And.intro hb (And.intro ho (And.intro hx hw)))
    have HNL := Lib.hid hnl
    dsimp only [Cl.arr]
    clear hat hy hj hR hC hcq hs hb ho hx hw hnl
    gi_wp2_with fail
    refine wpIn_region_flow (fun x y => Below x.heap.size x y) 5 [none, none, none, none, none, none, none, none, none, none, some 0, some 1, some 2, some 3, some 4, none, none, none, none, none, none, none] (fun i => [undef, undef, undef, undef, undef].getD i undef) [(fun v _ => v = .slice (some ⟨bk, off, none⟩) m cap), (fun v _ => v = .int .i64 (k : Int)), (fun v _ => v = .pointer (some ⟨bk, off + k * 8, none⟩)), (fun v _ => v = .agg #[.int .i64 n', .int .i64 s', .int .i64 a', .int .i64 b', .bool g', .string (text t'), .int .i64 d', .int .i64 e']), (fun v _ => v = .agg #[.int .i64 n, .int .i64 s, .int .i64 a, .int .i64 b, .bool g, .string (text t), .int .i64 d, .int .i64 e])] (fun _ => False) (by kernel_rfl) (by kernel_rfl) (by kernel_rfl) rfl rfl rfl (fun a b c h1 h2 => h1.trans (h2.mono h1.size)) ⟨rfl, rfl, rfl, Nat.le_refl _, fun _ _ => rfl⟩ ?_ ?_ ?_
    · intro g hg v X Y hX hY hv
      simp only [List.mem_cons, List.not_mem_nil, or_false] at hg
      rcases hg with rfl | rfl | rfl | rfl | rfl
      all_goals first
        | exact hv
        | exact hv.kept hY
    · simp only [flowOpsI, List.take_succ_cons, List.take_zero, and_true]
      refine ⟨?_, ?_, ?_, ?_, ?_⟩
      · intro xs W1 hW hn
        obtain ⟨⟨c0, c1, c2, c3, c4, c5, c6, c7⟩, cx⟩ := HFC.out W1 hW
        simp only [flowAct, List.zipWith_cons_cons, List.zipWith_nil_left]
        gi_wp2_with (fail)
        exact ⟨rfl, _, rfl, Below.refl _ _, rfl, fun h => h.elim⟩
      · intro xs W1 hW hn
        simp only [flowAct, List.zipWith_cons_cons, List.zipWith_nil_left]
        gi_wp2_with (fail)
        exact ⟨rfl, _, rfl, Below.refl _ _, rfl, fun h => h.elim⟩
      · intro xs W1 hW hn
        simp [flowNeeds, Region.binds] at hn
        simp only [flowAct, List.zipWith_cons_cons, List.zipWith_nil_left]
        try simp only [hn]
        gi_wp2_with (fail)
        exact ⟨rfl, _, rfl, Below.refl _ _, rfl, fun h => h.elim⟩
      · intro xs W1 hW hn
        obtain ⟨p0, p1, p2, p3, p4, p5, p6, p7⟩ := HPW.out W1 hW
        simp only at p0 p1 p2 p3 p4 p5 p6 p7
        simp [flowNeeds, Region.binds] at hn
        simp only [flowAct, List.zipWith_cons_cons, List.zipWith_nil_left]
        try simp only [hn]
        gi_wp2_with (fail)
        exact ⟨rfl, _, rfl, Below.refl _ _, rfl, fun h => h.elim⟩
      · intro xs W1 hW hn
        obtain ⟨⟨c0, c1, c2, c3, c4, c5, c6, c7⟩, cx⟩ := HFC.out W1 hW
        simp only [flowAct, List.zipWith_cons_cons, List.zipWith_nil_left]
        gi_wp2_with (fail)
        exact ⟨rfl, _, rfl, Below.refl _ _, rfl, fun h => h.elim⟩
    · intro xs W1 hW hall hfr
      clear hfr
      simp only [flowAll, and_true, Nat.zero_add, Nat.reduceAdd] at hall
      obtain ⟨-, -, -, e3, e4⟩ := hall
      simp only [flowAct, List.zipWith_cons_cons, List.zipWith_nil_left, List.drop_succ_cons, List.drop_zero]
      simp only [e3, e4]
      gi_wp2_with fail
      refine ⟨trivial, (CallsIn.inRound q (callsIn_wide.2 (HC.out W1))).mono ?_⟩
      rintro e w1 ⟨rfl, hb1⟩
      have hb01 : Below W.heap.size W w1 := hW.trans (hb1.mono hW.size)
      obtain ⟨hb, ho, hx, hw⟩ := HH.out
      have h3 := HSZ.out
      have h4 := HS.out
      cases R with
      | true =>
        have HST2 := Lib.hid (show needN l (k + 1) = needN l k by rw [HST.out]; rfl)
        have HR := Lib.hid (show RoundPost W0.heap.size (KC w.heap.size (w.heap.size + 1 + 1)) (fun _ => True) (NeedI l (some ⟨bk, off, none⟩) m cap w.heap.size W0.heap.size w) (fun _ _ _ => False) pre k W .normal { tmps := #[], defers := [] } w1 from
          ⟨below_keeps hb01, KC.of_below (by omega) hb01, trivial, ⟨vb, (hb01.block _ hb.lt).trans hb, by rw [List.length_append, List.length_singleton, hkp, HST2.out]; exact own_kept ho hb01, (hb01.block _ hx.lt).trans hx, hw.trans (hb01.mono hw.size), Nat.le_trans h4 hb01.size⟩⟩)
        clear hb ho hx hw
        gi_wp2
        exact HR.out
      | false =>
        have HST2 := Lib.hid (show needN l (k + 1) = needN l k ++ [(k : Int)] by rw [HST.out]; rfl)
        obtain ⟨i0, hi, hz0, hz1, hz2⟩ := info_parts Try.info3
        have hb1x : Boxed w1 (w.heap.size + 1) 35 vb := (hb01.block _ hb.lt).trans hb
        have ho1 := own_kept ho hb01
        have hx1 : Boxed w1 w.heap.size 28 (.slice (some ⟨bk, off, none⟩) m cap) := (hb01.block _ hx.lt).trans hx
        have hw1 := hw.trans (hb01.mono hw.size)
        have h5 := hb01.size
        have cb := hb1x.cell
        have hnx : (needN l k).length + 1 ≤ maxLen := by unfold maxLen; have := HNL.out; omega
        have hny : ((needN l k).length + 1) * 8 ≤ 140737488355328 := by have := HNL.out; omega
        obtain ⟨Z, hZ⟩ : ∃ z, needN l k = z := ⟨_, rfl⟩
        rw [hZ] at ho1 hnx hny HST2
        have HBX := Lib.hid hb1x
        have HO1 := Lib.hid ho1
        have HX1 := Lib.hid hx1
        have HW1 := Lib.hid hw1
        have HB01 := Lib.hid hb01
        clear hb ho hx hw hb1 hb01 hb1x hx1 hw1 hZ
        gi_wp2_with (gi_at_builtin; refine wpListIn_append_own _ rfl _ _ 35 rfl W0.heap.size 3 i0 (.int .i64 0) 1 8 Try.underlying35 hi hz0 hz1 hz2 rfl (by decide) _ _ _ rfl (HO1.out.alloc _) ⟨w1.heap.size, 0, none⟩ 1 1 [.int .i64 (k : Int)] rfl rfl (cell_one_new _ _ _) (by simp [Value.oneCell']) hnx hny (by simp; omega) ?_; intro v' w2 hown' hgrow _; obtain ⟨g', cap', rfl⟩ := ownsRow_succ hown'; have hx2 : Boxed w2 (w.heap.size + 1) 35 vb := (HBX.out.alloc _).kept hgrow (HBX.out.not_row (by decide) HO1.out); have hL : LeavesT 3 (fun j => j = w.heap.size + 1) W0.heap.size w1 w2 := (LeavesT.alloc w1 _).trans (LeavesT.append (HO1.out.alloc _) hgrow); have cx2 := hx2.cell; have fx2 := hx2.frozen)
        have hL2 := (LeavesT.below HB01.out).trans (hL.trans (LeavesT.setCell (Bs := fun j => j = w.heap.size + 1) w2 (B := w.heap.size + 1) rfl (.slice (some ⟨g', 0, none⟩) (Z.length + 1) cap')))
        have hb3 := (((Below.refl w.heap.size w1).alloc (by omega) _).grown hgrow (by simp; omega) (fun k e => by have := (World.ownsRow.lt HO1.out k e).1; omega)).setCell (p := ⟨w.heap.size + 1, 0, none⟩) (by simp) (.slice (some ⟨g', 0, none⟩) (Z.length + 1) cap')
        have ho2 := hown'.kept (grownBy_setCell' w2 (w.heap.size + 1) (.slice (some ⟨g', 0, none⟩) (Z.length + 1) cap')) (.inr (hx2.not_row (by decide) hown').symm)
        obtain ⟨hb, ho, hx, hw⟩ := HH.out
        refine ⟨hL2.keeps (by rintro j rfl; omega), ⟨(HB01.out.mono (by omega)).trans hb3, fun j cs fr hj => hL2.same j _ hj (by rintro rfl; rw [show W.heap[w.heap.size + 1]? = _ from hb] at hj; cases hj) (.inr (fun cs' fr' e => by cases e)), fun o' ho' => hL2.same _ o' ho' (by omega) (.inl (by omega))⟩, trivial, ⟨_, hx2.set _, ?_, hL2.same _ _ hx (by omega) (.inl (by omega)), HW1.out.trans hb3, Nat.le_trans h4 hL2.size⟩⟩
        rw [List.length_append, List.length_singleton, hkp, HST2.out, List.length_append, List.map_append]
        exact ho2
  case done =>
    rintro D xs W hD hxs ⟨vb, hb, ho, hx, hw, hs⟩ hK
    have hlx : xs.length = l.length := by omega
    rw [hlx] at ho
    have cb := hb.cell
    have HD := Lib.hid hD
    have HO := Lib.hid ho
    have HW := Lib.hid hw
    clear hD ho hw
    gi_wp2
    refine ⟨by simp, .inl ⟨_, _, rfl, run_takeDeferred hK, ?_⟩⟩
    refine ⟨_, results_tmp rfl _ _ _, vb, rfl, ?_, ?_⟩
    · exact own_mono (ownsRow_putObj HO.out (.deferred none) hK rfl) (by have := HSZ.out; omega)
    · exact HW.out.trans (belowK_b (w := w) (Nat.le_refl _) W D _ _ (by have := HD.out; have := HSZ.out; omega) hK rfl rfl)
  case stop => exact fun D c pre W hD _ hf => hf.elim
end Go.Proofs.Ytkjpmdpljdgcjaa
