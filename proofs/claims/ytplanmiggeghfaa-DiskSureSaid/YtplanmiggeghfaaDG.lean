/-
  Disk: the reference: its state in memory; New, Power, Arm, find, Used.
-/
import Derived.Test.YtplanmiggeghfaaE0
import Derived.Shelf.Abstract
namespace Go.Proofs.Ytplanmiggeghfaa
open Go.RowKit Go Go.Sort Go.Maps Go.WideMaps
set_option linter.unusedVariables false
set_option maxRecDepth 20000

/-- A file of the reference: its bytes' slice, what it is. -/
structure Fr where
  v : Value
  f : Fi
def Fr.zero : Fr := ⟨.slice none 0 0, ⟨[], [], 0⟩⟩
def Fr.arr (x : Fr) : Array Value := #[.string (text x.f.nm), x.v, .int .i64 (x.f.su : Int)]
theorem fr_size (x : Fr) : x.arr.size = 3 := rfl
/-- The reference's disk in memory. -/
structure RefIn (W : World) (q : Nat) (fv : Value) (FS : List Fr) (st : Ds) : Prop where
  head : W.heap[q]? = some (.cells #[.int .i64 st.room, fv, .bool (!st.on), .int .i64 st.fails, .int .i64 st.ops, .bool st.plan, .int .i64 st.pn, .int .i64 st.keep] 48 (0, 0))
  list : OwnL 3 100 Fr.arr W 0 fv FS
  own : ∀ x ∈ FS, OwnB W 0 5 x.v x.f.b
  pr : FS.map Fr.f = st.F
  ok : st.Ok
def rfoot (q : Nat) (fv : Value) (FS : List Fr) (k : Nat) : Prop := k = q ∨ fv.ownBlock = some k ∨ ∃ x ∈ FS, x.v.ownBlock = some k
def Rk (W : World) (q : Nat) (st : Ds) (F : Nat → Prop) : Prop := ∃ fv FS, RefIn W q fv FS st ∧ F = rfoot q fv FS
def RPost (q : Nat) (F : Nat → Prop) (v : Value) (st' : Ds) (w : World) (e : Ending) (w' : World) : Prop :=
  e = .returned v ∧ ∃ F', Rk w' q st' F' ∧ Trn F w w' ∧ ∀ k, F' k → F k ∨ w.heap.size ≤ k
theorem RefIn.keep {W W' : World} {q : Nat} {fv : Value} {FS : List Fr} {st : Ds} (h : RefIn W q fv FS st) (hk : ∀ k, rfoot q fv FS k → W'.heap[k]? = W.heap[k]?) : RefIn W' q fv FS st :=
  ⟨(hk q (.inl rfl)).trans h.head, h.list.of_block (fun k hv => hk k (.inr (.inl hv))), fun x hx => (h.own x hx).of_blk (fun k hv => hk k (.inr (.inr ⟨x, hx, hv⟩))), h.pr, h.ok⟩
theorem RefIn.lt {W : World} {q : Nat} {fv : Value} {FS : List Fr} {st : Ds} (h : RefIn W q fv FS st) {k : Nat} (hk : rfoot q fv FS k) : k < W.heap.size := by
  rcases hk with rfl | hk | ⟨x, hx, hk⟩
  · exact (Array.getElem?_eq_some_iff.1 h.head).1
  · exact (h.list.lt k hk).2
  · obtain ⟨cur, hc⟩ := (h.own x hx).blkD hk
    exact (Array.getElem?_eq_some_iff.1 hc).1
theorem RefIn.below {W W' : World} {q : Nat} {fv : Value} {FS : List Fr} {st : Ds} (h : RefIn W q fv FS st) (hb : Below W.heap.size W W') : RefIn W' q fv FS st :=
  h.keep fun k hk => hb.block k (h.lt hk)
theorem Rk.below {W W' : World} {q : Nat} {st : Ds} {F : Nat → Prop} (h : Rk W q st F) (hb : Below W.heap.size W W') : Rk W' q st F := by
  obtain ⟨fv, FS, h1, rfl⟩ := h; exact ⟨fv, FS, h1.below hb, rfl⟩
theorem rk_same {w : World} {q : Nat} {st : Ds} {F : Nat → Prop} (hk : Rk w q st F) (v : Value) : RPost q F v st w (.returned v) w := ⟨rfl, F, hk, Trn.refl, fun k hk => .inl hk⟩
theorem rk_below {w w' : World} {q : Nat} {st : Ds} {F : Nat → Prop} (hk : Rk w q st F) (hb : Below w.heap.size w w') (v : Value) : RPost q F v st w (.returned v) w' := ⟨rfl, F, hk.below hb, Trn.of hb, fun k hk => .inl hk⟩
theorem RefIn.cs {W : World} {q : Nat} {fv : Value} {FS : List Fr} {st : Ds} (h : RefIn W q fv FS st) : W.cell? ⟨q, 0, none⟩ = some (.int .i64 st.room) ∧ W.cell? ⟨q, 1, none⟩ = some fv ∧ W.cell? ⟨q, 2, none⟩ = some (.bool (!st.on)) ∧ W.cell? ⟨q, 3, none⟩ = some (.int .i64 st.fails) ∧ W.cell? ⟨q, 4, none⟩ = some (.int .i64 st.ops) ∧ W.cell? ⟨q, 5, none⟩ = some (.bool st.plan) ∧ W.cell? ⟨q, 6, none⟩ = some (.int .i64 st.pn) ∧ W.cell? ⟨q, 7, none⟩ = some (.int .i64 st.keep) := by
  refine ⟨?_, ?_, ?_, ?_, ?_, ?_, ?_, ?_⟩ <;> (rw [cell_of_row W q _ _ 48 (0, 0) h.head]; rfl)
theorem RefIn.fz {W : World} {q : Nat} {fv : Value} {FS : List Fr} {st : Ds} (h : RefIn W q fv FS st) (i : Nat) : W.frozen? ⟨q, i, none⟩ = false := frozen_of_row W q i _ 48 h.head
/-- The box alone is another. -/
theorem RefIn.turn {W W' : World} {q : Nat} {fv : Value} {FS : List Fr} {st st' : Ds} (h : RefIn W q fv FS st) (hk : ∀ k, k ≠ q → k < W.heap.size → W'.heap[k]? = W.heap[k]?)
    (hh : W'.heap[q]? = some (.cells #[.int .i64 st'.room, fv, .bool (!st'.on), .int .i64 st'.fails, .int .i64 st'.ops, .bool st'.plan, .int .i64 st'.pn, .int .i64 st'.keep] 48 (0, 0))) (hF : st'.F = st.F) (hok : st'.Ok) : RefIn W' q fv FS st' := by
  have hne1 : ∀ k, fv.ownBlock = some k → k ≠ q := by
    rintro k hk rfl
    rcases h.list.2 with ⟨rfl, -⟩ | ⟨g, cap, cur, rfl, -, hg, -⟩
    · cases hk
    · injection hk with hk; subst hk
      have := tneD hg h.head
      exact absurd this (by decide)
  have hne2 : ∀ x ∈ FS, ∀ k, x.v.ownBlock = some k → k ≠ q := by
    rintro x hx k hv rfl
    obtain ⟨cur, hc⟩ := (h.own x hx).blkD hv
    have := tneD hc h.head
    exact absurd this (by decide)
  refine ⟨hh, h.list.of_block (fun k hv => hk k (hne1 k hv) (h.list.lt k hv).2), fun x hx => (h.own x hx).of_blk (fun k hv => hk k (hne2 x hx k hv) (h.lt (.inr (.inr ⟨x, hx, hv⟩)))), by rw [hF]; exact h.pr, hok⟩
theorem rnew_bad (room : Int) (w : World) (h : room < 0 ∨ 1073741824 < room) : Calls Try.prog 12 #[.int .i64 room] w (fun e w' => e = .returned (.pointer none) ∧ w = w') := by
  by_cases h0 : room < 0
  · clear h
    go_enter Try.func12, Try.ntmps12
    go_wp2
    go_ret
    exact ⟨rfl, rfl⟩
  · have h1 : (1073741824 : Int) < room := by omega
    clear h
    go_enter Try.func12, Try.ntmps12
    go_wp2
    go_ret
    exact ⟨rfl, rfl⟩
theorem rnew_c (room : Int) (w : World) (h0 : 0 ≤ room) (h1 : room ≤ 1073741824) : Calls Try.prog 12 #[.int .i64 room] w (fun e w' => ∃ q, e = .returned (.pointer (some ⟨q, 0, none⟩)) ∧ ∃ F, Rk w' q (Ds.new room) F ∧ (∀ k, F k → w.heap.size ≤ k) ∧ Below w.heap.size w w') := by
  have n0 : ¬ room < 0 := by omega
  have n1 : ¬ 1073741824 < room := by omega
  go_enter Try.func12, Try.ntmps12
  go_wp2
  go_ret
  refine ⟨_, rfl, _, ⟨.slice none 0 0, [], ⟨heap_alloc_new w _, OwnL.nil _ _ _, fun x hx => (nomatch hx), rfl, ?_⟩, rfl⟩, ?_, alloc_below _ _⟩
  · exact ⟨by simp [Ds.new], fun f hf => by simp [Ds.new] at hf, List.Pairwise.nil, by simp [Ds.new], by simp [Ds.new]; omega⟩
  · rintro k (rfl | hk | ⟨x, hx, -⟩)
    · exact Nat.le_refl _
    · cases hk
    · cases hx
theorem rpower_c {w : World} {q : Nat} {st : Ds} {F : Nat → Prop} (hk : Rk w q st F) : Calls Try.prog 25 #[.pointer (some ⟨q, 0, none⟩)] w (RPost q F (.tuple #[]) st.power w) := by
  obtain ⟨fv, FS, h, rfl⟩ := hk
  obtain ⟨c0, c1, c2, c3, c4, c5, c6, c7⟩ := h.cs
  have f2 := h.fz 2
  have HR := Lib.hid h
  clear h
  go_enter Try.func25, Try.ntmps25
  go_wp2
  refine bodyPost_end (results_none rfl _ _ _) rfl ?_
  refine ⟨rfl, _, ⟨fv, FS, HR.out.turn (st' := st.power) (fun k hk _ => heap_setCell_other _ _ _ _ hk) ?_ rfl ⟨HR.out.ok.len, HR.out.ok.each, HR.out.ok.asc, HR.out.ok.pn, HR.out.ok.room⟩, rfl⟩, Trn.refl.set (.inl (.inl rfl)), fun k hk => .inl hk⟩
  rw [heap_setCell_same w q 2 _ 48 _ HR.out.head]
  rfl
theorem rarm_c {w : World} {q : Nat} {st : Ds} {F : Nat → Prop} (hk : Rk w q st F) (n k : Int) (hn : n ≤ 9223372036854775807) : Calls Try.prog 55 #[.pointer (some ⟨q, 0, none⟩), .int .i64 n, .int .i64 k] w (RPost q F (.int .i64 (st.arm n k).1) (st.arm n k).2 w) := by
  have HKK := Lib.hid hk
  obtain ⟨fv, FS, h, rfl⟩ := hk
  obtain ⟨c0, c1, c2, c3, c4, c5, c6, c7⟩ := h.cs
  have f5 := h.fz 5
  have f6 := h.fz 6
  have f7 := h.fz 7
  have HD := Lib.hid h
  cases hon : st.on with
  | false =>
    have e : st.arm n k = (150, st) := by unfold Ds.arm; rw [if_pos hon]
    rw [e]
    rw [hon] at c2
    clear h hon e
    go_enter Try.func55, Try.ntmps55
    go_wp2
    go_ret
    exact rk_same HKK.out _
  | true =>
    rw [hon] at c2
    by_cases h0 : n < 0
    · have e : st.arm n k = (2, st) := by unfold Ds.arm; rw [if_neg (by simp [hon]), if_pos h0]
      rw [e]
      clear h hon e
      go_enter Try.func55, Try.ntmps55
      go_wp2
      go_ret
      exact rk_same HKK.out _
    · have e : st.arm n k = (0, { st with plan := true, pn := n, keep := k }) := by unfold Ds.arm; rw [if_neg (by simp [hon]), if_neg h0]
      rw [e]
      have HN := Lib.hid (show 0 ≤ n ∧ n ≤ 9223372036854775807 from ⟨by omega, hn⟩)
      clear h hon e hn
      go_enter Try.func55, Try.ntmps55
      go_wp2
      go_ret
      have hd := HD.out
      refine ⟨rfl, _, ⟨fv, FS, hd.turn (st' := { st with plan := true, pn := n, keep := k }) (fun j hj _ => (heap_setCell_other _ _ _ _ hj).trans ((heap_setCell_other _ _ _ _ hj).trans (heap_setCell_other _ _ _ _ hj))) ?_ rfl ⟨hd.ok.len, hd.ok.each, hd.ok.asc, HN.out, hd.ok.room⟩, rfl⟩, ((Trn.refl.set (.inl (.inl rfl))).set (.inl (.inl rfl))).set (.inl (.inl rfl)), fun j hj => .inl hj⟩
      rw [heap_setCell_same _ q 7 _ 48 _ (by rw [heap_setCell_same _ q 6 _ 48 _ (by rw [heap_setCell_same w q 5 _ 48 _ hd.head])])]
      rfl
end Go.Proofs.Ytplanmiggeghfaa
