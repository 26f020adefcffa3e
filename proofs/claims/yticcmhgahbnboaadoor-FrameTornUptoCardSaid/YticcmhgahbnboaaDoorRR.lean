/-
  frame.Rows: the bodies of the frames with which bytes begin.
-/
import Derived.Test.YticcmhgahbnboaaDoorRM
namespace Go.Proofs.YticcmhgahbnboaaDoor
open Go.RowKit Go.Shelf Go
set_option linter.unusedVariables false
attribute [local go_sem] Oper.semAt_some

theorem wpIn_scope_wide {n : Nat} {P : Program} {Q : Exit → Act → World → Prop} {a : Act} {w : World} {c : Code} (h : c.wpIn Fence.wide n P (Exit.noGoto Q) a w) : (Code.scope c).wpIn Fence.wide n P Q a w :=
  wpIn_wide.2 (wp_scope_straight (wpIn_wide.1 h))

theorem Tryd.info22 : (Tryd.prog.info? 22).map (fun i => (i.zero, i.size, i.bytes)) = some (some (.slice none 0 0), 1, 24) := by kernel_rfl

/-- Rows' own boxes. -/
def BoxOf (n₀ j : Nat) : Prop := j = n₀ ∨ j = n₀ + 1 ∨ j = n₀ + 1 + 1
/-- What they hold when xs have been collected. -/
def Held (n₀ base : Nat) (xs : List Fx) (e : Int) (W : World) : Prop :=
  ((∃ vb, Boxed W n₀ 31 vb ∧ W.ownsRow base 22 1 vb xs.length (xs.map Fx.v) ∧ True) ∧ Boxed W (n₀ + 1) 3 (.int .i64 (sumX xs))) ∧ Boxed W (n₀ + 1 + 1) 26 (.int .i64 e)
theorem Held.own (n₀ base : Nat) (xs : List Fx) (e : Int) : Own (fun (_ : Unit) W => Held n₀ base xs e W) := by
  intro s X Y row hs hg hr
  refine ⟨⟨?_, boxed_own _ _ (fun (_ : Unit) => Value.int .i64 (sumX xs)) () X Y row hs.1.2 hg hr⟩, boxed_own _ _ (fun (_ : Unit) => Value.int .i64 e) () X Y row hs.2 hg hr⟩
  exact holdsRow_own base n₀ 31 22 1 (fun (_ : Unit) => xs.length) (fun _ => xs.map Fx.v) (fun _ _ => True) () X Y row hs.1.1 hg hr
/-- Between two rounds. -/
def RowsI (n₀ base : Nat) (w : World) (xs : List Fx) (W : World) : Prop :=
  ((Held n₀ base xs 0 W ∧ (0 ≤ sumX xs ∧ sumX xs ≤ 100000 * xs.length)) ∧ Below n₀ w W) ∧ base ≤ W.heap.size
/-- A round has left. -/
def RowsX (n₀ base : Nat) (w : World) (c : Code) (xs : List Fx) (W : World) : Prop :=
  ((∃ pre x, xs = pre ++ [x] ∧ c = .exit 0 ∧ ¬ x.e = 0 ∧ Held n₀ base pre x.e W) ∧ Below n₀ w W) ∧ base ≤ W.heap.size
theorem RowsI.own {n₀ base B : Nat} {w : World} (h0 : n₀ ≤ w.heap.size) (h1 : n₀ ≤ B) : OwnFrom B (RowsI n₀ base w) := by
  intro xs X Y row hs hg hr
  refine ⟨⟨⟨Held.own _ _ _ _ () X Y row hs.1.1.1 hg (fun r e => (hr r e).2), hs.1.1.2⟩, ?_⟩, Nat.le_trans hs.2 hg.size⟩
  exact ownFrom_below (β := Unit) h0 h1 () X Y row hs.1.2 hg hr
theorem RowsX.own {n₀ base B : Nat} {w : World} (c : Code) (h0 : n₀ ≤ w.heap.size) (h1 : n₀ ≤ B) : OwnFrom B (RowsX n₀ base w c) := by
  intro xs X Y row hs hg hr
  obtain ⟨⟨⟨pre, x, h, hc, hx, hh⟩, hb⟩, hsz⟩ := hs
  exact ⟨⟨⟨pre, x, h, hc, hx, Held.own _ _ _ _ () X Y row hh hg (fun r e => (hr r e).2)⟩, ownFrom_below (β := Unit) h0 h1 () X Y row hb hg hr⟩, Nat.le_trans hsz hg.size⟩

theorem Leaves.kb {n₀ base Bn : Nat} {W W' : World} (h : Leaves (BoxOf n₀) base W W') {xs : List Fx} {e : Int} (hh : Held n₀ base xs e W) (hb : Below n₀ W W') (hBn : n₀ + 1 + 1 < Bn) (hlt : Bn < base) : KB n₀ Bn W W' := by
  obtain ⟨⟨⟨vb, h1, _⟩, h2⟩, h3⟩ := hh
  refine ⟨hb, fun k cs fr hk => h.same k _ hk ?_ (.inr (fun cs' fr' => by simp)), fun o ho => h.same Bn o ho ?_ (.inl hlt)⟩
  · rintro (rfl | rfl | rfl)
    · rw [show W.heap[k]? = _ from h1] at hk; cases hk
    · rw [show W.heap[n₀ + 1]? = _ from h2] at hk; cases hk
    · rw [show W.heap[n₀ + 1 + 1]? = _ from h3] at hk; cases hk
  · rintro (h | h | h) <;> omega

/-- A round's own variable. -/
def FAt (n₀ : Nat) (tm : Nat → Fx → Array Value) (x : Fx) (a' : Act) (W : World) : Prop :=
  ∃ Bx, n₀ + 1 + 1 < Bx ∧ W.heap[Bx]? = some (.cells #[x.v, .int .i64 x.size] 75 (0, 0)) ∧ a' = { tmps := tm Bx x, defers := [] }
theorem FAt.own {n₀ B : Nat} {tm : Nat → Fx → Array Value} (x : Fx) (a' : Act) : OwnFrom B (fun (_ : Unit) W => FAt n₀ tm x a' W) := by
  intro s X Y row hs hg hr
  obtain ⟨Bx, h1, h2, h3⟩ := hs
  refine ⟨Bx, h1, (hg.block Bx (Array.getElem?_eq_some_iff.1 h2).1 (fun e => ?_)).trans h2, h3⟩
  obtain ⟨_, o, ho, hc⟩ := hr Bx e.symm
  rw [h2] at ho; cases ho; cases hc

set_option maxRecDepth 100000 in
set_option maxHeartbeats 3200000 in
theorem rows_c {w : World} {a : Option Addr} {n cap : Nat} {l : List UInt8} (hb : Bys w a n cap l) (hn : n ≤ 99999) :
    Calls Tryd.prog 18 #[.slice a n cap] w (RowsPost l w) := by
  obtain ⟨i0, hi, hz0, hz1, hz2⟩ := info_parts Tryd.info22
  refine (callsIn_wide (n := 3)).1 ?_
  refine callsIn_of_wp_marks Tryd.func18 rfl trivial ?_ rfl
  simp only [Tryd.ntmps18, List.size_toArray, List.length_cons, List.length_nil, Nat.reduceAdd, Nat.reduceSub, Array.replicate_succ, Array.replicate_zero, List.push_toArray, List.append_toArray, List.nil_append, List.cons_append]
  gi_wp2_with fail
  refine wpIn_scope_wide ?_
  gi_wp2_with fail
  refine wpIn_label ?_
  gi_wp2_with fail
  refine ⟨trivial, (callsIn_wide.2 each_c).mono ?_⟩
  rintro e w1 ⟨rfl, rfl⟩
  gi_wp2_with fail
  have bA := ((Boxed.new w 31 (.slice none 0 0)).alloc (.cells #[.int .i64 0] 3)).alloc (.cells #[.int .i64 0] 26)
  have bS := (Boxed.new (w.alloc (.cells #[.slice none 0 0] 31)) 3 (.int .i64 0)).alloc (.cells #[.int .i64 0] 26)
  have bF := Boxed.new ((w.alloc (.cells #[.slice none 0 0] 31)).alloc (.cells #[.int .i64 0] 3)) 26 (.int .i64 0)
  have bB := Boxed.new (((w.alloc (.cells #[.slice none 0 0] 31)).alloc (.cells #[.int .i64 0] 3)).alloc (.cells #[.int .i64 0] 26)) 22 (.slice a n cap)
  replace bA := bA.alloc (.cells #[.slice a n cap] 22)
  replace bS := bS.alloc (.cells #[.slice a n cap] 22)
  replace bF := bF.alloc (.cells #[.slice a n cap] 22)
  simp only [World.size_alloc] at bS bF bB
  have hB0 : Below w.heap.size w ((((w.alloc (.cells #[.slice none 0 0] 31)).alloc (.cells #[.int .i64 0] 3)).alloc (.cells #[.int .i64 0] 26)).alloc (.cells #[.slice a n cap] 22)) :=
    ((((Below.refl _ w).alloc (Nat.le_refl _) _).alloc (by simp) _).alloc (by simp; omega) _).alloc (by simp; omega) _
  have hsz : ((((w.alloc (.cells #[.slice none 0 0] 31)).alloc (.cells #[.int .i64 0] 3)).alloc (.cells #[.int .i64 0] 26)).alloc (.cells #[.slice a n cap] 22)).heap.size = w.heap.size + 1 + 1 + 1 + 1 := by simp
  obtain ⟨W0, hW0⟩ : ∃ W0, (((w.alloc (.cells #[.slice none 0 0] 31)).alloc (.cells #[.int .i64 0] 3)).alloc (.cells #[.int .i64 0] 26)).alloc (.cells #[.slice a n cap] 22) = W0 := ⟨_, rfl⟩
  rw [hW0] at bA bS bF bB hB0 hsz ⊢
  clear hW0
  have HSZ := Lib.hid hsz
  have hB0' := hB0
  refine wpIn_range_tells (F := Fence.wide) rfl (by omega) (gf := 58) (lb := #[.pointer (some ⟨w.heap.size + 1 + 1 + 1, 0, none⟩)]) rfl trivial (enters_of Tryd.func58 (by kernel_rfl) rfl)
    (each_tells hb (by omega) hB0 2 (w.heap.size + 1 + 1 + 1) (by omega) bB) KB.trans (fun W l o o' hl h ho _ => KB.putObj W l o o' (by omega) (by omega) h ho)
    (fun xs X Y row hs hg hr => ⟨hs.1, hs.2.keptBytes (SameBytes.turn hg (fun r e => (hr r e).2))⟩)
    (fun xs X Y row hs hg hr => by obtain ⟨a, ha⟩ := hs; exact ⟨a, ha.keptBytes (SameBytes.turn hg (fun r e => (hr r e).2))⟩)
    (fun _ => rfl)
    (RowsI w.heap.size W0.heap.size w) (RowsX w.heap.size W0.heap.size w) (RowsI.own (Nat.le_refl _) (by omega)) (fun c => RowsX.own c (Nat.le_refl _) (by omega))
    ⟨⟨⟨⟨⟨⟨_, bA, World.ownsRow_nil _ _ _ _, trivial⟩, bS⟩, bF⟩, by simp [sumX]⟩, hB0⟩, Nat.le_refl _⟩
    (FAt w.heap.size (fun Bx x => #[.slice a n cap, undef, .slice none 0 0, .int .i64 0, .int .i64 0, .pointer (some ⟨w.heap.size, 0, none⟩), .pointer (some ⟨w.heap.size + 1, 0, none⟩), .pointer (some ⟨w.heap.size + 1 + 1, 0, none⟩), .pointer (some ⟨Bx, 0, none⟩), .int .i64 x.e, .slice a n cap, .func (.func 58) #[] #[.pointer (some ⟨w.heap.size + 1 + 1 + 1, 0, none⟩)], .agg #[x.v, .int .i64 x.size], .int .i64 x.e, undef, undef, undef, undef, undef, undef, undef, undef, undef, undef, undef, undef, undef, undef, undef, undef]))
    (fun x a' => FAt.own x a') ?assign ?body ?done ?stop
  case assign =>
    rintro q pre ⟨vx, mx, sx, ex⟩ W K hI ⟨hq1, ⟨av, nv, cv, rfl⟩, hq2⟩ hK
    dsimp only [Fx.encs]
    gi_wp2
    have h2 := hI.2
    have h3 := HSZ.out
    exact hK _ _ ((KeepsOthers.alloc _ _).from _) (KB.of_below (by omega) ((Below.refl _ W).alloc (Nat.le_refl _) _)) ((RowsI.own (B := w.heap.size) (Nat.le_refl _) (Nat.le_refl _)).alloc _ hI) ⟨W.heap.size, by omega, World.alloc_heap_new W _, rfl⟩
  case body =>
    rintro q pre ⟨vx, mx, sx, ex⟩ a' W ⟨⟨⟨⟨⟨⟨vb, hbx, hrow, _⟩, hbs⟩, hbf⟩, hsum⟩, hbel⟩, hszW⟩ ⟨Bx, hBx, hF, rfl⟩ ⟨hq1, ⟨av, nv, cv, hvx⟩, hq2, hq3⟩
    dsimp only at hvx hq2 hq3 hF
    subst hvx
    dsimp only
    have cx := hbx.cell
    have fx := hbx.frozen
    have cs := hbs.cell
    have fs := hbs.frozen
    have cf := hbf.cell
    have ff := hbf.frozen
    have cF0 : W.cell? ⟨Bx, 0, none⟩ = some (.slice av nv cv) := by simp [World.cell?, hF]
    have cF1 : W.cell? ⟨Bx, 1, none⟩ = some (.int .i64 sx) := by simp [World.cell?, hF]
    have hn0 : ¬ Bx = w.heap.size ∧ ¬ w.heap.size = Bx ∧ ¬ Bx = w.heap.size + 1 ∧ ¬ Bx = w.heap.size + 1 + 1 := by omega
    have hsb : 0 ≤ sumX pre ∧ sumX pre ≤ 10000000000 := by omega
    have hszW2 : w.heap.size + 1 + 1 + 1 + 1 ≤ W.heap.size := by omega
    by_cases he : ex = 0
    · subst he
      have hnx : pre.length + 1 ≤ maxLen := by unfold maxLen; omega
      have hny : (pre.length + 1) * 24 ≤ 140737488355328 := by omega
      have HSUM := Lib.hid hsum
      clear hsum
      gi_wp2_with (gi_at_builtin; refine wpListIn_append_own _ rfl _ _ 31 rfl W0.heap.size 22 i0 (.slice none 0 0) 1 24 Tryd.underlying31 hi hz0 hz1 hz2 rfl (by decide) _ _ _ rfl (hrow.alloc _) ⟨W.heap.size, 0, none⟩ 1 1 [.slice av nv cv] rfl rfl (cell_one_new _ _ _) (by simp [Value.oneCell']) hnx hny (by simp; omega) ?_; intro v' w1 hown' hgrow _; obtain ⟨g', cap', rfl⟩ := ownsRow_succ hown'; have hx1 : Boxed w1 w.heap.size 31 vb := (hbx.alloc _).kept hgrow (hbx.not_row (by decide) hrow); have hs1 : Boxed w1 (w.heap.size + 1) 3 _ := (hbs.alloc _).kept hgrow (hbs.not_row (by decide) hrow); have hf1 : Boxed w1 (w.heap.size + 1 + 1) 26 _ := (hbf.alloc _).kept hgrow (hbf.not_row (by decide) hrow); have hL1 : Leaves (BoxOf w.heap.size) W0.heap.size W w1 := (Leaves.alloc W _).trans (Leaves.append (hrow.alloc _) hgrow); have cx1 := hx1.cell; have fx1 := hx1.frozen; have cs1 := hs1.cell; have fs1 := hs1.frozen; have hF1 := hL1.same Bx _ hF (by rintro (h | h | h) <;> omega) (.inr (fun cs' fr' => by simp)); have cF1' : w1.cell? ⟨Bx, 1, none⟩ = some (.int .i64 sx) := by simp [World.cell?, hF1])
      have hL := (hL1.trans (Leaves.setCell w1 (B := w.heap.size) (.inl rfl) (.slice (some ⟨g', 0, none⟩) (pre.length + 1) cap'))).trans (Leaves.setCell _ (B := w.heap.size + 1) (.inr (.inl rfl)) (.int .i64 (sumX pre + sx)))
      have hb3 := ((((Below.refl w.heap.size W).alloc (by omega) _).grown hgrow (by simp; omega) (fun k e => by have := (World.ownsRow.lt hrow k e).1; omega)).setCell (p := ⟨w.heap.size, 0, none⟩) (Nat.le_refl _) (.slice (some ⟨g', 0, none⟩) (pre.length + 1) cap')).setCell (p := ⟨w.heap.size + 1, 0, none⟩) (by simp) (.int .i64 (sumX pre + sx))
      have hx2 := hx1.set (.slice (some ⟨g', 0, none⟩) (pre.length + 1) cap')
      have hs2 := hs1.other (B' := w.heap.size) (by omega) (.slice (some ⟨g', 0, none⟩) (pre.length + 1) cap')
      have hf2 := hf1.other (B' := w.heap.size) (by omega) (.slice (some ⟨g', 0, none⟩) (pre.length + 1) cap')
      have ho2 := hown'.kept (grownBy_setCell' w1 w.heap.size (.slice (some ⟨g', 0, none⟩) (pre.length + 1) cap')) (.inr (hx1.not_row (by decide) hown').symm)
      have ho3 := ho2.kept (grownBy_setCell' _ (w.heap.size + 1) (.int .i64 (sumX pre + sx))) (.inr (hs2.not_row (by decide) ho2).symm)
      have hq := HSUM.out
      refine ⟨hL.keeps (by rintro j (h | h | h) <;> omega), hL.kb ⟨⟨⟨vb, hbx, hrow, trivial⟩, hbs⟩, hbf⟩ hb3 (by omega) (by omega), rfl, ⟨⟨⟨⟨⟨⟨_, hx2.other (by omega) _, ?_, trivial⟩, ?_⟩, hf2.other (by omega) _⟩, ?_⟩, hbel.trans hb3⟩, Nat.le_trans hszW hL.size⟩⟩
      · rw [List.length_append, List.map_append]; exact ho3
      · rw [sumX_snoc]; exact hs2.set _
      · rw [sumX_snoc, List.length_append, List.length_singleton]; exact ⟨by show 0 ≤ sumX pre + sx; omega, by show sumX pre + sx ≤ _; omega⟩
    · have heb : (ex == 0) = false := by rw [beq_eq_false_iff_ne]; exact he
      have HE := Lib.hid he
      clear he
      gi_wp2
      have hL : Leaves (BoxOf w.heap.size) W0.heap.size W (W.setCell ⟨w.heap.size + 1 + 1, 0, none⟩ (.int .i64 ex)) := Leaves.setCell _ (B := w.heap.size + 1 + 1) (.inr (.inr rfl)) _
      have hb3 : Below w.heap.size W (W.setCell ⟨w.heap.size + 1 + 1, 0, none⟩ (.int .i64 ex)) := (Below.refl w.heap.size W).setCell (p := ⟨w.heap.size + 1 + 1, 0, none⟩) (by simp; omega) _
      have ho3 := hrow.kept (grownBy_setCell' W (w.heap.size + 1 + 1) (.int .i64 ex)) (.inr (hbf.not_row (by decide) hrow).symm)
      exact ⟨hL.keeps (by rintro j (h | h | h) <;> omega), hL.kb ⟨⟨⟨vb, hbx, hrow, trivial⟩, hbs⟩, hbf⟩ hb3 (by omega) (by omega), ⟨⟨⟨pre, ⟨_, mx, sx, ex⟩, rfl, rfl, HE.out, ⟨⟨⟨vb, hbx.other (by omega) _, ho3, trivial⟩, hbs.other (by omega) _⟩, hbf.set _⟩⟩, hbel.trans hb3⟩, Nat.le_trans hszW hL.size⟩⟩
  case done =>
    rintro D xs W hD ⟨hok, hwk⟩ ⟨⟨⟨⟨⟨⟨vb, hbx, hrow, _⟩, hbs⟩, hbf⟩, hsum⟩, hbel⟩, hszW⟩ hK
    have cx := hbx.cell
    have cs := hbs.cell
    have cf := hbf.cell
    obtain ⟨hr1, hr2⟩ := hwk.rowsDone hok
    have HR := Lib.hid hr1
    have HS := Lib.hid hr2
    have HD := Lib.hid hD
    have HOK := Lib.hid hok
    clear hr1 hr2 hD hok
    gi_wp2_with fail
    refine wpIn_wide.2 ?_
    go_quiet (fail)
    gi_wp2
    rw [Exit.noGoto_ret]
    have hKn : (W.drewN nq).heap[D]? = some (.deferred (some [])) := hK
    refine ⟨by simp, .inl ⟨_, _, rfl, run_takeDeferred hKn, ?_⟩⟩
    refine ⟨_, results_tmp3 rfl _ _ _, vb, ?_, ?_, ?_⟩
    · rw [HR.out, HS.out]; rfl
    · rw [HR.out]
      exact OwnRows.of_walked (by have := HSZ.out; omega) (ownsRow_putObj (show (W.drewN nq).ownsRow _ _ _ _ _ _ from hrow) (.deferred none) hKn rfl)
        (hwk.keptBytes (show SameBytes (W.drewN nq) _ from SameBytes.turn (grownBy_putObj' _ D (.deferred none)) (fun r e => by cases e; exact ⟨_, hKn, rfl⟩))).own
    · exact (below_drewN hbel nq).trans (belowK_b (w := w) (Nat.le_refl _) (W.drewN nq) D _ _ (by have := HD.out; have := HSZ.out; omega) hKn rfl rfl)
  case stop =>
    rintro D c pre W hD ⟨a', hwk⟩ ⟨⟨⟨pre', x, rfl, rfl, hx, ⟨⟨⟨vb, hbx, hrow, _⟩, hbs⟩, hbf⟩⟩, hbel⟩, hszW⟩ hK
    have cx := hbx.cell
    have cs := hbs.cell
    have cf := hbf.cell
    obtain ⟨a0, hr1, hr2⟩ := hwk.rowsStop hx
    have HR := Lib.hid hr1
    have HS := Lib.hid hr2
    have HD := Lib.hid hD
    clear hr1 hr2 hD hx
    gi_wp2_with fail
    refine wpIn_wide.2 ?_
    go_quiet (fail)
    gi_wp2
    rw [Exit.noGoto_ret]
    have hKn : (W.drewN nq).heap[D]? = some (.deferred (some [])) := hK
    refine ⟨by simp, .inl ⟨_, _, rfl, run_takeDeferred hKn, ?_⟩⟩
    refine ⟨_, results_tmp3 rfl _ _ _, vb, ?_, ?_, ?_⟩
    · rw [HR.out, HS.out]; rfl
    · rw [HR.out]
      exact OwnRows.of_walked (by have := HSZ.out; omega) (ownsRow_putObj (show (W.drewN nq).ownsRow _ _ _ _ _ _ from hrow) (.deferred none) hKn rfl)
        (fun y hy => (hwk.keptBytes (show SameBytes (W.drewN nq) _ from SameBytes.turn (grownBy_putObj' _ D (.deferred none)) (fun r e => by cases e; exact ⟨_, hKn, rfl⟩))).own y (List.mem_append_left _ hy))
    · exact (below_drewN hbel nq).trans (belowK_b (w := w) (Nat.le_refl _) (W.drewN nq) D _ _ (by have := HD.out; have := HSZ.out; omega) hKn rfl rfl)
end Go.Proofs.YticcmhgahbnboaaDoor
