/-
  Merged: G4 G5 G6 G7 G8 G9 EB H2.
-/
import Derived.Deep.QuietTactic
import Derived.StillTail
import Derived.Lib.QuietBelow
import Derived.Test.YtfkmfccdhmnllaaDoorRows
import Derived.WalkKit
import Derived.Lib.Hide
import Derived.BigQuiet
import Derived.BigRegion
import Derived.Deep.Cut
import Derived.Deep.MidRow
import Derived.Great.BuildSlice
import Derived.Outline
import Derived.OwnWalk
import Derived.Laws.Rows
import Derived.ChangeKeysEq
import Derived.Laws.StructEq
import Derived.WalkSpells
import Derived.WalkLawsBesides
import Derived.Laws.CopyOwn
import Derived.WalkSmall
import Derived.Lib.LaidTab
import Derived.Deep.RegionWith
import Derived.Lib.MinMax
import Derived.WideShapes
import Derived.ChangeSame
import Derived.OpenShut
import Derived.Deep.Slices
import Derived.Deep.AppendSrc
import Derived.Lib.AppendZerosOnto
import Derived.Lib.SliceRun
import Derived.Lib.Walk
import Derived.Lib.OthersKept
import Derived.Laws.RangeAny
import Derived.Maps.OwnOps
import Derived.Maps.Views
import Derived.ChangeSlices
import Derived.ChangeArms
import Derived.Deep.DeepAppendWide
import Derived.OrdersIn
import Derived.TacticsIn
import Derived.RangeFuncNested
import Derived.RangeFuncBound
import Derived.RangeFuncCalls
import Derived.RangeFuncLeaves
import Derived.Maps.AppendAt
import Derived.Shelf.Abstract
import Derived.OwnWalkIn
import Derived.TacticsInMore
import Derived.LoopNIn
import Derived.LoopIn
import Derived.Stop.LaidErr
import Derived.Test.YtfkmfccdhmnllaaDoorSB3

section
namespace Go.Proofs.YtfkmfccdhmnllaaDoor
open Go.RowKit Go Go.Sort
set_option linter.unusedVariables false
set_option maxRecDepth 20000

theorem cnt_get {l : List UInt8} {x k f : Int} (h : getS l = (x, k, f)) : ∃ q : Nat, k = (q : Int) ∧ q ≤ l.length := by
  by_cases hf : (getS l).2.2 = 0
  · obtain ⟨q, h1, -, h2, -⟩ := getS_ok l hf
    rw [h] at h1
    exact ⟨q, h1, h2⟩
  · have h1 := (getS_bad l hf).2
    rw [h] at h1
    exact ⟨0, by simpa using h1, by omega⟩
theorem cnt_text {l t : List UInt8} {m k f : Int} (h : textS l m = (t, k, f)) : ∃ q : Nat, k = (q : Int) ∧ q ≤ l.length := by
  by_cases hf : (textS l m).2.2 = 0
  · obtain ⟨q, h1, h2, -⟩ := textS_ok l m hf
    rw [h] at h1
    exact ⟨q, h1, h2⟩
  · have h1 : (textS l m).2.1 = 0 := by
      unfold textS at hf ⊢
      split
      · rfl
      · rename_i h0
        rw [if_neg h0] at hf
        split
        · rfl
        · rename_i h1
          rw [if_neg h1] at hf
          split
          · rfl
          · rename_i h2
            rw [if_neg h2] at hf
            exact absurd rfl hf
    rw [h] at h1
    exact ⟨0, by simpa using h1, by omega⟩
theorem cnt_s {l : List UInt8} {n s k f : Int} (h : sgetS l = ((n, s), k, f)) : ∃ q : Nat, k = (q : Int) ∧ q ≤ l.length := by
  obtain ⟨h1, h2⟩ := sget_cnt h
  exact ⟨k.toNat, by omega, by omega⟩
theorem cnt_v {l : List UInt8} {n s k f : Int} (h : vgetS l = ((n, s), k, f)) : ∃ q : Nat, k = (q : Int) ∧ q ≤ l.length := by
  obtain ⟨h1, h2⟩ := vget_cnt h
  exact ⟨k.toNat, by omega, by omega⟩
/-- What the reader keeps: the rest, the change, the write. -/
structure Rdr (w0 W : World) (q : Nat) (av : Option Addr) (nv cv : Nat) (l : List UInt8) (site seq n s a b : Int) (u : Value) (kx : List UInt8) (ix : Int) (gx : Bool) (vx : List UInt8) : Prop where
  base : w0.heap.size ≤ q
  below : Below w0.heap.size w0 W
  bytes : Bys w0 av nv cv l
  row : W.heap[q]? = some (.cells #[.slice av nv cv, .int .i64 site, .int .i64 seq, .int .i64 n, .int .i64 s, .int .i64 a, .int .i64 b, u, .string (text kx), .int .i64 ix, .bool gx, .string (text vx)] 129 (0, 0))
theorem Rdr.grow {w0 W W' : World} {q : Nat} {av : Option Addr} {nv cv : Nat} {l : List UInt8} {site seq n s a b : Int} {u : Value} {kx : List UInt8} {ix : Int} {gx : Bool} {vx : List UInt8} (h : Rdr w0 W q av nv cv l site seq n s a b u kx ix gx vx) (hb : Below W.heap.size W W') : Rdr w0 W' q av nv cv l site seq n s a b u kx ix gx vx :=
  ⟨h.base, h.below.trans (hb.mono h.below.size), h.bytes, heap_below h.row hb⟩
theorem rd_any {W : World} {q : Nat} {ty : TypeId} {x0 x1 x2 x3 x4 x5 x6 x7 x8 x9 x10 x11 : Value} (h : W.heap[q]? = some (.cells #[x0, x1, x2, x3, x4, x5, x6, x7, x8, x9, x10, x11] ty (0, 0))) :
    (W.cell? ⟨q, 0, none⟩ = some x0 ∧ W.cell? ⟨q, 1, none⟩ = some x1 ∧ W.cell? ⟨q, 2, none⟩ = some x2 ∧ W.cell? ⟨q, 3, none⟩ = some x3 ∧ W.cell? ⟨q, 4, none⟩ = some x4 ∧ W.cell? ⟨q, 5, none⟩ = some x5 ∧ W.cell? ⟨q, 6, none⟩ = some x6 ∧ W.cell? ⟨q, 7, none⟩ = some x7 ∧ W.cell? ⟨q, 8, none⟩ = some x8 ∧ W.cell? ⟨q, 9, none⟩ = some x9 ∧ W.cell? ⟨q, 10, none⟩ = some x10 ∧ W.cell? ⟨q, 11, none⟩ = some x11) ∧ ∀ i, W.frozen? ⟨q, i, none⟩ = false := by
  refine ⟨⟨?_, ?_, ?_, ?_, ?_, ?_, ?_, ?_, ?_, ?_, ?_, ?_⟩, fun i => frozen_of_row W q i _ _ h⟩ <;> (rw [cell_of_row W q _ _ ty (0, 0) h]; rfl)
/-- How a step of the reader ends. -/
def StepTo (w0 w : World) (q : Nat) (ok : Bool) (l : List UInt8) (site seq n s a b : Int) (u : Value) (kx : List UInt8) (ix : Int) (gx : Bool) (vx : List UInt8) (e : Ending) (w' : World) : Prop :=
  ∃ a9 n9 c9, e = .returned (.bool ok) ∧ Rdr w0 w' q a9 n9 c9 l site seq n s a b u kx ix gx vx ∧ Only q w w'
def sel4 (b c : Bool) (x y z t : Array Value) : Array Value := match b, c with
  | false, false => x
  | true, false => y
  | false, true => z
  | true, true => t
/-- Where the two stores of take stand: into the part (10), into the rest (13). -/
structure InvS (q : Nat) (ty : TypeId) (V : Nat → Value) (A00 A10 A01 A11 : Array Value) (w0 : World) (L : Nat → Bool) (xs : Nat → Value) (W : World) : Prop where
  at' : ∀ i, i < 14 → L i = true → i ≠ 10 → i ≠ 13 → xs i = V i
  only : Only q w0 W
  row : W.heap[q]? = some (.cells (sel4 (L 10) (L 13) A00 A10 A01 A11) ty (0, 0))
  d8 : L 8 = true → L 6 = true
  d13 : L 13 = true → L 8 = true
section
variable {q : Nat} {ty : TypeId} {V : Nat → Value} {A00 A10 A01 A11 : Array Value} {w0 W W' : World} {L : Nat → Bool} {xs : Nat → Value}
theorem InvS.start (h : ∀ i, i < 14 → L i = false) (hr : w0.heap[q]? = some (.cells A00 ty (0, 0))) : InvS q ty V A00 A10 A01 A11 w0 L xs { w0 with drawn := w0.drawn + 1 } := by
  refine ⟨fun i hi hL _ _ => (by rw [h i hi] at hL; cases hL), ⟨rfl, rfl, rfl, Nat.le_refl _, fun _ _ _ => rfl⟩, ?_, fun h8 => ?_, fun h8 => ?_⟩
  · rw [h 10 (by omega), h 13 (by omega)]; exact hr
  · rw [h 8 (by omega)] at h8; cases h8
  · rw [h 13 (by omega)] at h8; cases h8
theorem InvS.no13 (h : InvS q ty V A00 A10 A01 A11 w0 L xs W) (h6 : L 6 = false) : L 13 = false := by
  cases h13 : L 13 with
  | false => rfl
  | true => have := h.d8 (h.d13 h13); rw [h6] at this; cases this
theorem InvS.val (h : InvS q ty V A00 A10 A01 A11 w0 L xs W) (i : Nat) (hi : i ≠ 10 ∧ i ≠ 13) (h6 : i = 8 → L 6 = true) {v : Value} (hv : v = V i) : InvS q ty V A00 A10 A01 A11 w0 (fun j => if j = i then true else L j) (fun j => if j = i then v else xs j) W := by
  refine ⟨fun j hj hL h1 h2 => ?_, h.only, ?_, fun hL => ?_, fun hL => ?_⟩
  · by_cases e : j = i
    · subst e; simpa using hv
    · simp only [if_neg e] at hL ⊢; exact h.at' j hj hL h1 h2
  · simp only [if_neg (Ne.symm hi.1), if_neg (Ne.symm hi.2)]; exact h.row
  · by_cases e : 6 = i
    · simp [e]
    · simp only [if_neg e]
      by_cases e8 : 8 = i
      · exact h6 e8.symm
      · simp only [if_neg e8] at hL; exact h.d8 hL
  · simp only [if_neg (Ne.symm hi.2)] at hL
    by_cases e8 : 8 = i
    · simp [e8]
    · simp only [if_neg e8]; exact h.d13 hL
theorem InvS.st10 (h : InvS q ty V A00 A10 A01 A11 w0 L xs W) (ho : Only q W W') (hr : W'.heap[q]? = some (.cells (sel4 true (L 13) A00 A10 A01 A11) ty (0, 0))) (v : Value) : InvS q ty V A00 A10 A01 A11 w0 (fun j => if j = 10 then true else L j) (fun j => if j = 10 then v else xs j) W' :=
  ⟨fun j hj hL h1 h2 => by simp only [if_neg h1] at hL ⊢; exact h.at' j hj hL h1 h2, h.only.trans ho, by simpa using hr, fun hL => by simpa using h.d8 (by simpa using hL), fun hL => by simpa using h.d13 (by simpa using hL)⟩
theorem InvS.st13 (h : InvS q ty V A00 A10 A01 A11 w0 L xs W) (ho : Only q W W') (h8 : L 8 = true) (hr : W'.heap[q]? = some (.cells (sel4 (L 10) true A00 A10 A01 A11) ty (0, 0))) (v : Value) : InvS q ty V A00 A10 A01 A11 w0 (fun j => if j = 13 then true else L j) (fun j => if j = 13 then v else xs j) W' :=
  ⟨fun j hj hL h1 h2 => by simp only [if_neg h2] at hL ⊢; exact h.at' j hj hL h1 h2, h.only.trans ho, by simpa using hr, fun hL => by simpa using h.d8 (by simpa using hL), fun _ => by simpa using h8⟩
end
/-- The same, where the part is a box of its own, g. -/
structure Two (q g : Nat) (w w' : World) : Prop where
  os : w'.os = w.os
  tape : w'.tape = w.tape
  output : w'.output = w.output
  size : w.heap.size ≤ w'.heap.size
  rest : ∀ k, k < w.heap.size → k ≠ q → k ≠ g → w'.heap[k]? = w.heap[k]?
theorem Two.set1 (W : World) (q g i : Nat) (v : Value) : Two q g W (W.setCell ⟨q, i, none⟩ v) := by
  have h := Only.set W ⟨q, i, none⟩ v
  exact ⟨h.os, h.tape, h.output, h.size, fun k hk h1 _ => h.rest k hk h1⟩
theorem Two.set2 (W : World) (q g i : Nat) (v : Value) : Two q g W (W.setCell ⟨g, i, none⟩ v) := by
  have h := Only.set W ⟨g, i, none⟩ v
  exact ⟨h.os, h.tape, h.output, h.size, fun k hk _ h1 => h.rest k hk h1⟩
theorem Two.trans {q g : Nat} {a b c : World} (h : Two q g a b) (k : Two q g b c) : Two q g a c :=
  ⟨k.os.trans h.os, k.tape.trans h.tape, k.output.trans h.output, Nat.le_trans h.size k.size, fun i hi h1 h2 => (k.rest i (Nat.lt_of_lt_of_le hi h.size) h1 h2).trans (h.rest i hi h1 h2)⟩
theorem Two.only {q g : Nat} {w0 w w' : World} (h : Two q g w w') (ho : Only q w0 w) (hg : w0.heap.size ≤ g) : Only q w0 w' :=
  ⟨h.os.trans ho.os, h.tape.trans ho.tape, h.output.trans ho.output, Nat.le_trans ho.size h.size, fun k hk h1 => (h.rest k (Nat.lt_of_lt_of_le hk ho.size) h1 (by omega)).trans (ho.rest k hk h1)⟩
theorem Two.below {q g B : Nat} {w w' : World} (h : Two q g w w') (hq : B ≤ q) (hg : B ≤ g) (hs : B ≤ w.heap.size) : Below B w w' := ⟨h.os, h.tape, h.output, h.size, fun k hk => h.rest k (by omega) (by omega) (by omega)⟩
structure InvN (q g : Nat) (ty : TypeId) (V : Nat → Value) (A0 A1 : Array Value) (x0 x1 : Value) (w0 : World) (L : Nat → Bool) (xs : Nat → Value) (W : World) : Prop where
  at' : ∀ i, i < 14 → L i = true → i ≠ 10 → i ≠ 13 → xs i = V i
  two : Two q g w0 W
  row : W.heap[q]? = some (.cells (sel4 false (L 13) A0 A0 A1 A1) ty (0, 0))
  box : W.heap[g]? = some (.cells (sel4 false (L 10) #[x0] #[x0] #[x1] #[x1]) 3 (0, 0))
  d8 : L 8 = true → L 6 = true
  d13 : L 13 = true → L 8 = true
section
variable {q g : Nat} {ty : TypeId} {V : Nat → Value} {A0 A1 : Array Value} {x0 x1 : Value} {w0 W W' : World} {L : Nat → Bool} {xs : Nat → Value}
theorem InvN.start (h : ∀ i, i < 14 → L i = false) (hr : w0.heap[q]? = some (.cells A0 ty (0, 0))) (hg : w0.heap[g]? = some (.cells #[x0] 3 (0, 0))) : InvN q g ty V A0 A1 x0 x1 w0 L xs { w0 with drawn := w0.drawn + 1 } := by
  refine ⟨fun i hi hL _ _ => (by rw [h i hi] at hL; cases hL), ⟨rfl, rfl, rfl, Nat.le_refl _, fun _ _ _ _ => rfl⟩, ?_, ?_, fun h8 => ?_, fun h8 => ?_⟩
  · rw [h 13 (by omega)]; exact hr
  · rw [h 10 (by omega)]; exact hg
  · rw [h 8 (by omega)] at h8; cases h8
  · rw [h 13 (by omega)] at h8; cases h8
theorem InvN.no13 (h : InvN q g ty V A0 A1 x0 x1 w0 L xs W) (h6 : L 6 = false) : L 13 = false := by
  cases h13 : L 13 with
  | false => rfl
  | true => have := h.d8 (h.d13 h13); rw [h6] at this; cases this
theorem InvN.val (h : InvN q g ty V A0 A1 x0 x1 w0 L xs W) (i : Nat) (hi : i ≠ 10 ∧ i ≠ 13) (h6 : i = 8 → L 6 = true) {v : Value} (hv : v = V i) : InvN q g ty V A0 A1 x0 x1 w0 (fun j => if j = i then true else L j) (fun j => if j = i then v else xs j) W := by
  refine ⟨fun j hj hL h1 h2 => ?_, h.two, ?_, ?_, fun hL => ?_, fun hL => ?_⟩
  · by_cases e : j = i
    · subst e; simpa using hv
    · simp only [if_neg e] at hL ⊢; exact h.at' j hj hL h1 h2
  · simp only [if_neg (Ne.symm hi.2)]; exact h.row
  · simp only [if_neg (Ne.symm hi.1)]; exact h.box
  · by_cases e : 6 = i
    · simp [e]
    · simp only [if_neg e]
      by_cases e8 : 8 = i
      · exact h6 e8.symm
      · simp only [if_neg e8] at hL; exact h.d8 hL
  · simp only [if_neg (Ne.symm hi.2)] at hL
    by_cases e8 : 8 = i
    · simp [e8]
    · simp only [if_neg e8]; exact h.d13 hL
theorem InvN.st10 (h : InvN q g ty V A0 A1 x0 x1 w0 L xs W) (ho : Two q g W W') (hr : W'.heap[q]? = W.heap[q]?) (hg : W'.heap[g]? = some (.cells #[x1] 3 (0, 0))) (v : Value) : InvN q g ty V A0 A1 x0 x1 w0 (fun j => if j = 10 then true else L j) (fun j => if j = 10 then v else xs j) W' :=
  ⟨fun j hj hL h1 h2 => by simp only [if_neg h1] at hL ⊢; exact h.at' j hj hL h1 h2, h.two.trans ho, by simpa using hr.trans h.row, hg, fun hL => by simpa using h.d8 (by simpa using hL), fun hL => by simpa using h.d13 (by simpa using hL)⟩
theorem InvN.st13 (h : InvN q g ty V A0 A1 x0 x1 w0 L xs W) (ho : Two q g W W') (h8 : L 8 = true) (hr : W'.heap[q]? = some (.cells A1 ty (0, 0))) (hg : W'.heap[g]? = W.heap[g]?) (v : Value) : InvN q g ty V A0 A1 x0 x1 w0 (fun j => if j = 13 then true else L j) (fun j => if j = 13 then v else xs j) W' :=
  ⟨fun j hj hL h1 h2 => by simp only [if_neg h2] at hL ⊢; exact h.at' j hj hL h1 h2, h.two.trans ho, hr, by simpa using hg.trans h.box, fun hL => by simpa using h.d8 (by simpa using hL), fun _ => by simpa using h8⟩
end
def StepN (w0 w : World) (q g : Nat) (ok : Bool) (x : Int) (l : List UInt8) (site seq n s a b : Int) (u : Value) (kx : List UInt8) (ix : Int) (gx : Bool) (vx : List UInt8) (e : Ending) (w' : World) : Prop :=
  ∃ a9 n9 c9, e = .returned (.bool ok) ∧ Rdr w0 w' q a9 n9 c9 l site seq n s a b u kx ix gx vx ∧ w'.heap[g]? = some (.cells #[.int .i64 x] 3 (0, 0)) ∧ Two q g w w'
/-- What tells texts of at most so many bytes. -/
def TxF (most : Int) (B : Nat) (v : Value) (W : World) : Prop := ∃ g, v = .func (.func 139) #[] #[.pointer (some ⟨g, 0, none⟩)] ∧ B ≤ g ∧ W.heap[g]? = some (.cells #[.int .i64 most] 3 (0, 0))
theorem TxF.kept {most : Int} {B : Nat} {v : Value} {W W' : World} (h : TxF most B v W) (hb : Below W.heap.size W W') : TxF most B v W' := by
  obtain ⟨g, e, h1, h2⟩ := h
  exact ⟨g, e, h1, heap_below h2 hb⟩
theorem textf_c (most : Int) (w : World) : Calls Tryd.prog 132 #[.int .i64 most] w (fun e w' => ∃ v, e = .returned v ∧ TxF most w.heap.size v w' ∧ Below w.heap.size w w') := by
  have hr := heap_alloc_new w (.cells #[.int .i64 most] 3)
  have hb := alloc_below w (.cells #[.int .i64 most] 3)
  go_enter Tryd.func132, Tryd.ntmps132
  go_wp2
  go_ret
  exact ⟨_, rfl, ⟨_, rfl, Nat.le_refl _, hr⟩, hb⟩
theorem text1_c {w : World} {g : Nat} {most : Int} (hm : w.heap[g]? = some (.cells #[.int .i64 most] 3 (0, 0))) {a : Option Addr} {n cap : Nat} {l : List UInt8} (hb : Bys w a n cap l) (m0 : -9223372036854775808 ≤ most) (m1 : most ≤ 9223372036854775807) :
    Calls Tryd.prog 139 #[.slice a n cap, .pointer (some ⟨g, 0, none⟩)] w (RetT (textS l most) w) := by
  have c0 := one_cell hm
  have HG := Lib.hid (gettext_c hb most m0 m1)
  obtain ⟨⟨t, k, f⟩, ht⟩ : ∃ z, textS l most = z := ⟨_, rfl⟩
  rw [ht] at HG ⊢
  clear ht hb hm m0 m1
  go_enter Tryd.func139, Tryd.ntmps139
  go_wp2_with (go_at_call 140; (with_reducible refine HG.out.mono ?_); rintro e9 w9 ⟨rfl, rfl⟩)
  go_ret3
  exact ⟨rfl, rfl⟩
set_option maxRecDepth 100000 in
set_option maxHeartbeats 6400000 in
theorem tkSite_c {w0 w : World} {q : Nat} {av : Option Addr} {nv cv : Nat} {l : List UInt8} {site seq n s a b : Int} {u : Value} {kx : List UInt8} {ix : Int} {gx : Bool} {vx : List UInt8} (h : Rdr w0 w q av nv cv l site seq n s a b u kx ix gx vx) (y k f : Int) (hg : getS l = (y, k, f)) :
    Calls Tryd.prog 106 #[.pointer (some ⟨q, 0, none⟩), .pointer (some ⟨q, 1, none⟩), .func (.func 107) #[] #[]] w (StepTo w0 w q (f == 0) (l.drop k.toNat) y seq n s a b u kx ix gx vx) := by
  obtain ⟨kq, rfl, hkl⟩ := cnt_get hg
  rw [Int.toNat_natCast]
  have hnv := h.bytes.len
  have hle := h.bytes.le
  have hmx := h.bytes.max
  obtain ⟨a', hs1, hs2, hby⟩ := bys_from h.bytes (q := kq) (by omega)
  obtain ⟨cc, zc⟩ := rd_any h.row
  obtain ⟨c0, -⟩ := cc
  have HG := get_c (h.bytes.below h.below)
  rw [hg] at HG
  have HGG := Lib.hid HG
  have HH := Lib.hid h
  have HBY := Lib.hid hby
  have hqk : kq ≤ nv := by omega
  clear hg HG h hby hnv zc hkl
  go_enter Tryd.func106, Tryd.ntmps106
  go_upto_region 2 with (go_at_call 107; (with_reducible refine HGG.out.mono ?_); rintro e9 w9 ⟨rfl, rfl⟩)
  refine wp_region_inv [none, none, none, none, none, none, none, none, none, none, none, none, none, none, none, none, none, none, none, none, some 0, some 1, some 2, some 3, some 4, some 5, some 6, some 7, some 8, some 9, some 11, some 12, none, none] (fun i => [undef, undef, undef, undef, undef, undef, undef, undef, undef, undef, undef, undef, undef, undef].getD i undef) (InvS q 129 (fun i => [.pointer (some ⟨q, 1, none⟩), .pointer (some ⟨q, 0, none⟩), .int .i64 y, .pointer (some ⟨q, 0, none⟩), .pointer (some ⟨q, 0, none⟩), .pointer (some ⟨q, 0, none⟩), .slice av nv cv, .int .i64 (kq : Int), (.slice a' (nv - kq) (cv - kq)), .pointer (some ⟨q, 1, none⟩), undef, .pointer (some ⟨q, 0, none⟩), .pointer (some ⟨q, 0, none⟩), undef].getD i undef) #[.slice av nv cv, .int .i64 site, .int .i64 seq, .int .i64 n, .int .i64 s, .int .i64 a, .int .i64 b, u, .string (text kx), .int .i64 ix, .bool gx, .string (text vx)] #[.slice av nv cv, .int .i64 y, .int .i64 seq, .int .i64 n, .int .i64 s, .int .i64 a, .int .i64 b, u, .string (text kx), .int .i64 ix, .bool gx, .string (text vx)] #[(.slice a' (nv - kq) (cv - kq)), .int .i64 site, .int .i64 seq, .int .i64 n, .int .i64 s, .int .i64 a, .int .i64 b, u, .string (text kx), .int .i64 ix, .bool gx, .string (text vx)] #[(.slice a' (nv - kq) (cv - kq)), .int .i64 y, .int .i64 seq, .int .i64 n, .int .i64 s, .int .i64 a, .int .i64 b, u, .string (text kx), .int .i64 ix, .bool gx, .string (text vx)] w) (by kernel_rfl) (by kernel_rfl) rfl rfl (fun L hL => InvS.start (fun i hi => hL i hi) HH.out.row) ?_ ?_
  · simp only [invOps, and_true]
    refine ⟨?_, ?_, ?_, ?_, ?_, ?_, ?_, ?_, ?_, ?_, ?_, ?_, ?_, ?_⟩
    · intro L xs W hI hL hn
      simp only [flowAct, List.zipWith_cons_cons, List.zipWith_nil_left]
      go_wp2_with (fail)
      exact ⟨rfl, _, rfl, hI.val 0 (by decide) (fun h => absurd h (by decide)) rfl⟩
    · intro L xs W hI hL hn
      simp only [flowAct, List.zipWith_cons_cons, List.zipWith_nil_left]
      go_wp2_with (fail)
      exact ⟨rfl, _, rfl, hI.val 1 (by decide) (fun h => absurd h (by decide)) rfl⟩
    · intro L xs W hI hL hn
      simp only [flowAct, List.zipWith_cons_cons, List.zipWith_nil_left]
      go_wp2_with (fail)
      exact ⟨rfl, _, rfl, hI.val 2 (by decide) (fun h => absurd h (by decide)) rfl⟩
    · intro L xs W hI hL hn
      simp only [flowAct, List.zipWith_cons_cons, List.zipWith_nil_left]
      go_wp2_with (fail)
      exact ⟨rfl, _, rfl, hI.val 3 (by decide) (fun h => absurd h (by decide)) rfl⟩
    · intro L xs W hI hL hn
      simp [invNeeds, Region.binds] at hn
      have e3 : xs 3 = .pointer (some ⟨q, 0, none⟩) := hI.at' 3 (by decide) (by simp only [hn]) (by decide) (by decide)
      simp only [flowAct, List.zipWith_cons_cons, List.zipWith_nil_left]
      simp only [e3]
      go_wp2_with (fail)
      exact ⟨rfl, _, rfl, hI.val 4 (by decide) (fun h => absurd h (by decide)) rfl⟩
    · intro L xs W hI hL hn
      simp [invNeeds, Region.binds] at hn
      have e4 : xs 4 = .pointer (some ⟨q, 0, none⟩) := hI.at' 4 (by decide) (by simp only [hn]) (by decide) (by decide)
      simp only [flowAct, List.zipWith_cons_cons, List.zipWith_nil_left]
      simp only [e4]
      go_wp2_with (fail)
      exact ⟨rfl, _, rfl, hI.val 5 (by decide) (fun h => absurd h (by decide)) rfl⟩
    · intro L xs W hI hL hn
      simp [invNeeds, Region.binds] at hn
      have e5 : xs 5 = .pointer (some ⟨q, 0, none⟩) := hI.at' 5 (by decide) (by simp only [hn]) (by decide) (by decide)
      have h13 := hI.no13 hL
      simp only [flowAct, List.zipWith_cons_cons, List.zipWith_nil_left]
      simp only [e5]
      have hrow := hI.row
      rw [h13] at hrow
      cases h10 : L 10
      · rw [h10] at hrow
        obtain ⟨⟨p0, -⟩, pf⟩ := rd_any (show W.heap[q]? = some (.cells #[.slice av nv cv, .int .i64 site, .int .i64 seq, .int .i64 n, .int .i64 s, .int .i64 a, .int .i64 b, u, .string (text kx), .int .i64 ix, .bool gx, .string (text vx)] 129 (0, 0)) from hrow)
        clear hrow
        go_wp2_with (fail)
        exact ⟨rfl, _, rfl, hI.val 6 (by decide) (fun h => absurd h (by decide)) rfl⟩
      · rw [h10] at hrow
        obtain ⟨⟨p0, -⟩, pf⟩ := rd_any (show W.heap[q]? = some (.cells #[.slice av nv cv, .int .i64 y, .int .i64 seq, .int .i64 n, .int .i64 s, .int .i64 a, .int .i64 b, u, .string (text kx), .int .i64 ix, .bool gx, .string (text vx)] 129 (0, 0)) from hrow)
        clear hrow
        go_wp2_with (fail)
        exact ⟨rfl, _, rfl, hI.val 6 (by decide) (fun h => absurd h (by decide)) rfl⟩
    · intro L xs W hI hL hn
      simp only [flowAct, List.zipWith_cons_cons, List.zipWith_nil_left]
      go_wp2_with (fail)
      exact ⟨rfl, _, rfl, hI.val 7 (by decide) (fun h => absurd h (by decide)) rfl⟩
    · intro L xs W hI hL hn
      simp [invNeeds, Region.binds] at hn
      have e6 : xs 6 = .slice av nv cv := hI.at' 6 (by decide) (by simp only [hn]) (by decide) (by decide)
      have e7 : xs 7 = .int .i64 (kq : Int) := hI.at' 7 (by decide) (by simp only [hn]) (by decide) (by decide)
      simp only [flowAct, List.zipWith_cons_cons, List.zipWith_nil_left]
      simp only [e6, e7]
      go_wp2_with (fail)
      exact ⟨rfl, _, rfl, hI.val 8 (by decide) (fun _ => by simp only [hn]) rfl⟩
    · intro L xs W hI hL hn
      simp [invNeeds, Region.binds] at hn
      have e0 : xs 0 = .pointer (some ⟨q, 1, none⟩) := hI.at' 0 (by decide) (by simp only [hn]) (by decide) (by decide)
      simp only [flowAct, List.zipWith_cons_cons, List.zipWith_nil_left]
      simp only [e0]
      go_wp2_with (fail)
      exact ⟨rfl, _, rfl, hI.val 9 (by decide) (fun h => absurd h (by decide)) rfl⟩
    · intro L xs W hI hL hn
      simp [invNeeds, Region.binds] at hn
      have e2 : xs 2 = .int .i64 y := hI.at' 2 (by decide) (by simp only [hn]) (by decide) (by decide)
      have e9 : xs 9 = .pointer (some ⟨q, 1, none⟩) := hI.at' 9 (by decide) (by simp only [hn]) (by decide) (by decide)
      simp only [flowAct, List.zipWith_cons_cons, List.zipWith_nil_left]
      simp only [e2, e9]
      have hrow := hI.row
      rw [hL] at hrow
      cases h13 : L 13
      · rw [h13] at hrow
        have hrow0 : W.heap[q]? = some (.cells #[.slice av nv cv, .int .i64 site, .int .i64 seq, .int .i64 n, .int .i64 s, .int .i64 a, .int .i64 b, u, .string (text kx), .int .i64 ix, .bool gx, .string (text vx)] 129 (0, 0)) := hrow
        obtain ⟨⟨-, p1, -, -, -, -, -, -, -, -, -, -⟩, pf⟩ := rd_any hrow0
        clear hrow
        go_wp2_with (fail)
        exact ⟨rfl, undef, rfl, hI.st10 (Only.set _ ⟨q, 1, none⟩ _) (by rw [h13]; exact (heap_setCell_same W q 1 _ _ _ hrow0).trans rfl) undef⟩
      · rw [h13] at hrow
        have hrow0 : W.heap[q]? = some (.cells #[(.slice a' (nv - kq) (cv - kq)), .int .i64 site, .int .i64 seq, .int .i64 n, .int .i64 s, .int .i64 a, .int .i64 b, u, .string (text kx), .int .i64 ix, .bool gx, .string (text vx)] 129 (0, 0)) := hrow
        obtain ⟨⟨-, p1, -, -, -, -, -, -, -, -, -, -⟩, pf⟩ := rd_any hrow0
        clear hrow
        go_wp2_with (fail)
        exact ⟨rfl, undef, rfl, hI.st10 (Only.set _ ⟨q, 1, none⟩ _) (by rw [h13]; exact (heap_setCell_same W q 1 _ _ _ hrow0).trans rfl) undef⟩
    · intro L xs W hI hL hn
      simp [invNeeds, Region.binds] at hn
      have e1 : xs 1 = .pointer (some ⟨q, 0, none⟩) := hI.at' 1 (by decide) (by simp only [hn]) (by decide) (by decide)
      simp only [flowAct, List.zipWith_cons_cons, List.zipWith_nil_left]
      simp only [e1]
      go_wp2_with (fail)
      exact ⟨rfl, _, rfl, hI.val 11 (by decide) (fun h => absurd h (by decide)) rfl⟩
    · intro L xs W hI hL hn
      simp [invNeeds, Region.binds] at hn
      have e11 : xs 11 = .pointer (some ⟨q, 0, none⟩) := hI.at' 11 (by decide) (by simp only [hn]) (by decide) (by decide)
      simp only [flowAct, List.zipWith_cons_cons, List.zipWith_nil_left]
      simp only [e11]
      go_wp2_with (fail)
      exact ⟨rfl, _, rfl, hI.val 12 (by decide) (fun h => absurd h (by decide)) rfl⟩
    · intro L xs W hI hL hn
      simp [invNeeds, Region.binds] at hn
      have e8 : xs 8 = (.slice a' (nv - kq) (cv - kq)) := hI.at' 8 (by decide) (by simp only [hn]) (by decide) (by decide)
      have e12 : xs 12 = .pointer (some ⟨q, 0, none⟩) := hI.at' 12 (by decide) (by simp only [hn]) (by decide) (by decide)
      simp only [flowAct, List.zipWith_cons_cons, List.zipWith_nil_left]
      simp only [e8, e12]
      have hrow := hI.row
      rw [hL] at hrow
      have h8 : L 8 = true := by simp only [hn]
      cases h10 : L 10
      · rw [h10] at hrow
        have hrow0 : W.heap[q]? = some (.cells #[.slice av nv cv, .int .i64 site, .int .i64 seq, .int .i64 n, .int .i64 s, .int .i64 a, .int .i64 b, u, .string (text kx), .int .i64 ix, .bool gx, .string (text vx)] 129 (0, 0)) := hrow
        obtain ⟨⟨p0, -⟩, pf⟩ := rd_any hrow0
        clear hrow
        go_wp2_with (fail)
        exact ⟨rfl, undef, rfl, hI.st13 (Only.set _ ⟨q, 0, none⟩ _) h8 (by rw [h10]; exact (heap_setCell_same W q 0 _ _ _ hrow0).trans rfl) undef⟩
      · rw [h10] at hrow
        have hrow0 : W.heap[q]? = some (.cells #[.slice av nv cv, .int .i64 y, .int .i64 seq, .int .i64 n, .int .i64 s, .int .i64 a, .int .i64 b, u, .string (text kx), .int .i64 ix, .bool gx, .string (text vx)] 129 (0, 0)) := hrow
        obtain ⟨⟨p0, -⟩, pf⟩ := rd_any hrow0
        clear hrow
        go_wp2_with (fail)
        exact ⟨rfl, undef, rfl, hI.st13 (Only.set _ ⟨q, 0, none⟩ _) h8 (by rw [h10]; exact (heap_setCell_same W q 0 _ _ _ hrow0).trans rfl) undef⟩
  · intro L xs W hI hall
    have h10 := hall 10 (by decide)
    have h13 := hall 13 (by decide)
    have hrow := hI.row
    rw [h10, h13] at hrow
    have HT := Lib.hid hI.only
    have HR := Lib.hid (show W.heap[q]? = some (.cells #[(.slice a' (nv - kq) (cv - kq)), .int .i64 y, .int .i64 seq, .int .i64 n, .int .i64 s, .int .i64 a, .int .i64 b, u, .string (text kx), .int .i64 ix, .bool gx, .string (text vx)] 129 (0, 0)) from hrow)
    clear hI hall h10 h13 hrow
    simp only [flowAct, List.zipWith_cons_cons, List.zipWith_nil_left]
    go_wp2
    go_ret
    exact ⟨_, _, _, rfl, ⟨HH.out.base, HH.out.below.trans (HT.out.below HH.out.base HH.out.below.size), HBY.out, HR.out⟩, HT.out⟩
set_option maxRecDepth 100000 in
set_option maxHeartbeats 6400000 in
theorem tkSeq_c {w0 w : World} {q : Nat} {av : Option Addr} {nv cv : Nat} {l : List UInt8} {site seq n s a b : Int} {u : Value} {kx : List UInt8} {ix : Int} {gx : Bool} {vx : List UInt8} (h : Rdr w0 w q av nv cv l site seq n s a b u kx ix gx vx) (y k f : Int) (hg : getS l = (y, k, f)) :
    Calls Tryd.prog 106 #[.pointer (some ⟨q, 0, none⟩), .pointer (some ⟨q, 2, none⟩), .func (.func 107) #[] #[]] w (StepTo w0 w q (f == 0) (l.drop k.toNat) site y n s a b u kx ix gx vx) := by
  obtain ⟨kq, rfl, hkl⟩ := cnt_get hg
  rw [Int.toNat_natCast]
  have hnv := h.bytes.len
  have hle := h.bytes.le
  have hmx := h.bytes.max
  obtain ⟨a', hs1, hs2, hby⟩ := bys_from h.bytes (q := kq) (by omega)
  obtain ⟨cc, zc⟩ := rd_any h.row
  obtain ⟨c0, -⟩ := cc
  have HG := get_c (h.bytes.below h.below)
  rw [hg] at HG
  have HGG := Lib.hid HG
  have HH := Lib.hid h
  have HBY := Lib.hid hby
  have hqk : kq ≤ nv := by omega
  clear hg HG h hby hnv zc hkl
  go_enter Tryd.func106, Tryd.ntmps106
  go_upto_region 2 with (go_at_call 107; (with_reducible refine HGG.out.mono ?_); rintro e9 w9 ⟨rfl, rfl⟩)
  refine wp_region_inv [none, none, none, none, none, none, none, none, none, none, none, none, none, none, none, none, none, none, none, none, some 0, some 1, some 2, some 3, some 4, some 5, some 6, some 7, some 8, some 9, some 11, some 12, none, none] (fun i => [undef, undef, undef, undef, undef, undef, undef, undef, undef, undef, undef, undef, undef, undef].getD i undef) (InvS q 129 (fun i => [.pointer (some ⟨q, 2, none⟩), .pointer (some ⟨q, 0, none⟩), .int .i64 y, .pointer (some ⟨q, 0, none⟩), .pointer (some ⟨q, 0, none⟩), .pointer (some ⟨q, 0, none⟩), .slice av nv cv, .int .i64 (kq : Int), (.slice a' (nv - kq) (cv - kq)), .pointer (some ⟨q, 2, none⟩), undef, .pointer (some ⟨q, 0, none⟩), .pointer (some ⟨q, 0, none⟩), undef].getD i undef) #[.slice av nv cv, .int .i64 site, .int .i64 seq, .int .i64 n, .int .i64 s, .int .i64 a, .int .i64 b, u, .string (text kx), .int .i64 ix, .bool gx, .string (text vx)] #[.slice av nv cv, .int .i64 site, .int .i64 y, .int .i64 n, .int .i64 s, .int .i64 a, .int .i64 b, u, .string (text kx), .int .i64 ix, .bool gx, .string (text vx)] #[(.slice a' (nv - kq) (cv - kq)), .int .i64 site, .int .i64 seq, .int .i64 n, .int .i64 s, .int .i64 a, .int .i64 b, u, .string (text kx), .int .i64 ix, .bool gx, .string (text vx)] #[(.slice a' (nv - kq) (cv - kq)), .int .i64 site, .int .i64 y, .int .i64 n, .int .i64 s, .int .i64 a, .int .i64 b, u, .string (text kx), .int .i64 ix, .bool gx, .string (text vx)] w) (by kernel_rfl) (by kernel_rfl) rfl rfl (fun L hL => InvS.start (fun i hi => hL i hi) HH.out.row) ?_ ?_
  · simp only [invOps, and_true]
    refine ⟨?_, ?_, ?_, ?_, ?_, ?_, ?_, ?_, ?_, ?_, ?_, ?_, ?_, ?_⟩
    · intro L xs W hI hL hn
      simp only [flowAct, List.zipWith_cons_cons, List.zipWith_nil_left]
      go_wp2_with (fail)
      exact ⟨rfl, _, rfl, hI.val 0 (by decide) (fun h => absurd h (by decide)) rfl⟩
    · intro L xs W hI hL hn
      simp only [flowAct, List.zipWith_cons_cons, List.zipWith_nil_left]
      go_wp2_with (fail)
      exact ⟨rfl, _, rfl, hI.val 1 (by decide) (fun h => absurd h (by decide)) rfl⟩
    · intro L xs W hI hL hn
      simp only [flowAct, List.zipWith_cons_cons, List.zipWith_nil_left]
      go_wp2_with (fail)
      exact ⟨rfl, _, rfl, hI.val 2 (by decide) (fun h => absurd h (by decide)) rfl⟩
    · intro L xs W hI hL hn
      simp only [flowAct, List.zipWith_cons_cons, List.zipWith_nil_left]
      go_wp2_with (fail)
      exact ⟨rfl, _, rfl, hI.val 3 (by decide) (fun h => absurd h (by decide)) rfl⟩
    · intro L xs W hI hL hn
      simp [invNeeds, Region.binds] at hn
      have e3 : xs 3 = .pointer (some ⟨q, 0, none⟩) := hI.at' 3 (by decide) (by simp only [hn]) (by decide) (by decide)
      simp only [flowAct, List.zipWith_cons_cons, List.zipWith_nil_left]
      simp only [e3]
      go_wp2_with (fail)
      exact ⟨rfl, _, rfl, hI.val 4 (by decide) (fun h => absurd h (by decide)) rfl⟩
    · intro L xs W hI hL hn
      simp [invNeeds, Region.binds] at hn
      have e4 : xs 4 = .pointer (some ⟨q, 0, none⟩) := hI.at' 4 (by decide) (by simp only [hn]) (by decide) (by decide)
      simp only [flowAct, List.zipWith_cons_cons, List.zipWith_nil_left]
      simp only [e4]
      go_wp2_with (fail)
      exact ⟨rfl, _, rfl, hI.val 5 (by decide) (fun h => absurd h (by decide)) rfl⟩
    · intro L xs W hI hL hn
      simp [invNeeds, Region.binds] at hn
      have e5 : xs 5 = .pointer (some ⟨q, 0, none⟩) := hI.at' 5 (by decide) (by simp only [hn]) (by decide) (by decide)
      have h13 := hI.no13 hL
      simp only [flowAct, List.zipWith_cons_cons, List.zipWith_nil_left]
      simp only [e5]
      have hrow := hI.row
      rw [h13] at hrow
      cases h10 : L 10
      · rw [h10] at hrow
        obtain ⟨⟨p0, -⟩, pf⟩ := rd_any (show W.heap[q]? = some (.cells #[.slice av nv cv, .int .i64 site, .int .i64 seq, .int .i64 n, .int .i64 s, .int .i64 a, .int .i64 b, u, .string (text kx), .int .i64 ix, .bool gx, .string (text vx)] 129 (0, 0)) from hrow)
        clear hrow
        go_wp2_with (fail)
        exact ⟨rfl, _, rfl, hI.val 6 (by decide) (fun h => absurd h (by decide)) rfl⟩
      · rw [h10] at hrow
        obtain ⟨⟨p0, -⟩, pf⟩ := rd_any (show W.heap[q]? = some (.cells #[.slice av nv cv, .int .i64 site, .int .i64 y, .int .i64 n, .int .i64 s, .int .i64 a, .int .i64 b, u, .string (text kx), .int .i64 ix, .bool gx, .string (text vx)] 129 (0, 0)) from hrow)
        clear hrow
        go_wp2_with (fail)
        exact ⟨rfl, _, rfl, hI.val 6 (by decide) (fun h => absurd h (by decide)) rfl⟩
    · intro L xs W hI hL hn
      simp only [flowAct, List.zipWith_cons_cons, List.zipWith_nil_left]
      go_wp2_with (fail)
      exact ⟨rfl, _, rfl, hI.val 7 (by decide) (fun h => absurd h (by decide)) rfl⟩
    · intro L xs W hI hL hn
      simp [invNeeds, Region.binds] at hn
      have e6 : xs 6 = .slice av nv cv := hI.at' 6 (by decide) (by simp only [hn]) (by decide) (by decide)
      have e7 : xs 7 = .int .i64 (kq : Int) := hI.at' 7 (by decide) (by simp only [hn]) (by decide) (by decide)
      simp only [flowAct, List.zipWith_cons_cons, List.zipWith_nil_left]
      simp only [e6, e7]
      go_wp2_with (fail)
      exact ⟨rfl, _, rfl, hI.val 8 (by decide) (fun _ => by simp only [hn]) rfl⟩
    · intro L xs W hI hL hn
      simp [invNeeds, Region.binds] at hn
      have e0 : xs 0 = .pointer (some ⟨q, 2, none⟩) := hI.at' 0 (by decide) (by simp only [hn]) (by decide) (by decide)
      simp only [flowAct, List.zipWith_cons_cons, List.zipWith_nil_left]
      simp only [e0]
      go_wp2_with (fail)
      exact ⟨rfl, _, rfl, hI.val 9 (by decide) (fun h => absurd h (by decide)) rfl⟩
    · intro L xs W hI hL hn
      simp [invNeeds, Region.binds] at hn
      have e2 : xs 2 = .int .i64 y := hI.at' 2 (by decide) (by simp only [hn]) (by decide) (by decide)
      have e9 : xs 9 = .pointer (some ⟨q, 2, none⟩) := hI.at' 9 (by decide) (by simp only [hn]) (by decide) (by decide)
      simp only [flowAct, List.zipWith_cons_cons, List.zipWith_nil_left]
      simp only [e2, e9]
      have hrow := hI.row
      rw [hL] at hrow
      cases h13 : L 13
      · rw [h13] at hrow
        have hrow0 : W.heap[q]? = some (.cells #[.slice av nv cv, .int .i64 site, .int .i64 seq, .int .i64 n, .int .i64 s, .int .i64 a, .int .i64 b, u, .string (text kx), .int .i64 ix, .bool gx, .string (text vx)] 129 (0, 0)) := hrow
        obtain ⟨⟨-, -, p2, -, -, -, -, -, -, -, -, -⟩, pf⟩ := rd_any hrow0
        clear hrow
        go_wp2_with (fail)
        exact ⟨rfl, undef, rfl, hI.st10 (Only.set _ ⟨q, 2, none⟩ _) (by rw [h13]; exact (heap_setCell_same W q 2 _ _ _ hrow0).trans rfl) undef⟩
      · rw [h13] at hrow
        have hrow0 : W.heap[q]? = some (.cells #[(.slice a' (nv - kq) (cv - kq)), .int .i64 site, .int .i64 seq, .int .i64 n, .int .i64 s, .int .i64 a, .int .i64 b, u, .string (text kx), .int .i64 ix, .bool gx, .string (text vx)] 129 (0, 0)) := hrow
        obtain ⟨⟨-, -, p2, -, -, -, -, -, -, -, -, -⟩, pf⟩ := rd_any hrow0
        clear hrow
        go_wp2_with (fail)
        exact ⟨rfl, undef, rfl, hI.st10 (Only.set _ ⟨q, 2, none⟩ _) (by rw [h13]; exact (heap_setCell_same W q 2 _ _ _ hrow0).trans rfl) undef⟩
    · intro L xs W hI hL hn
      simp [invNeeds, Region.binds] at hn
      have e1 : xs 1 = .pointer (some ⟨q, 0, none⟩) := hI.at' 1 (by decide) (by simp only [hn]) (by decide) (by decide)
      simp only [flowAct, List.zipWith_cons_cons, List.zipWith_nil_left]
      simp only [e1]
      go_wp2_with (fail)
      exact ⟨rfl, _, rfl, hI.val 11 (by decide) (fun h => absurd h (by decide)) rfl⟩
    · intro L xs W hI hL hn
      simp [invNeeds, Region.binds] at hn
      have e11 : xs 11 = .pointer (some ⟨q, 0, none⟩) := hI.at' 11 (by decide) (by simp only [hn]) (by decide) (by decide)
      simp only [flowAct, List.zipWith_cons_cons, List.zipWith_nil_left]
      simp only [e11]
      go_wp2_with (fail)
      exact ⟨rfl, _, rfl, hI.val 12 (by decide) (fun h => absurd h (by decide)) rfl⟩
    · intro L xs W hI hL hn
      simp [invNeeds, Region.binds] at hn
      have e8 : xs 8 = (.slice a' (nv - kq) (cv - kq)) := hI.at' 8 (by decide) (by simp only [hn]) (by decide) (by decide)
      have e12 : xs 12 = .pointer (some ⟨q, 0, none⟩) := hI.at' 12 (by decide) (by simp only [hn]) (by decide) (by decide)
      simp only [flowAct, List.zipWith_cons_cons, List.zipWith_nil_left]
      simp only [e8, e12]
      have hrow := hI.row
      rw [hL] at hrow
      have h8 : L 8 = true := by simp only [hn]
      cases h10 : L 10
      · rw [h10] at hrow
        have hrow0 : W.heap[q]? = some (.cells #[.slice av nv cv, .int .i64 site, .int .i64 seq, .int .i64 n, .int .i64 s, .int .i64 a, .int .i64 b, u, .string (text kx), .int .i64 ix, .bool gx, .string (text vx)] 129 (0, 0)) := hrow
        obtain ⟨⟨p0, -⟩, pf⟩ := rd_any hrow0
        clear hrow
        go_wp2_with (fail)
        exact ⟨rfl, undef, rfl, hI.st13 (Only.set _ ⟨q, 0, none⟩ _) h8 (by rw [h10]; exact (heap_setCell_same W q 0 _ _ _ hrow0).trans rfl) undef⟩
      · rw [h10] at hrow
        have hrow0 : W.heap[q]? = some (.cells #[.slice av nv cv, .int .i64 site, .int .i64 y, .int .i64 n, .int .i64 s, .int .i64 a, .int .i64 b, u, .string (text kx), .int .i64 ix, .bool gx, .string (text vx)] 129 (0, 0)) := hrow
        obtain ⟨⟨p0, -⟩, pf⟩ := rd_any hrow0
        clear hrow
        go_wp2_with (fail)
        exact ⟨rfl, undef, rfl, hI.st13 (Only.set _ ⟨q, 0, none⟩ _) h8 (by rw [h10]; exact (heap_setCell_same W q 0 _ _ _ hrow0).trans rfl) undef⟩
  · intro L xs W hI hall
    have h10 := hall 10 (by decide)
    have h13 := hall 13 (by decide)
    have hrow := hI.row
    rw [h10, h13] at hrow
    have HT := Lib.hid hI.only
    have HR := Lib.hid (show W.heap[q]? = some (.cells #[(.slice a' (nv - kq) (cv - kq)), .int .i64 site, .int .i64 y, .int .i64 n, .int .i64 s, .int .i64 a, .int .i64 b, u, .string (text kx), .int .i64 ix, .bool gx, .string (text vx)] 129 (0, 0)) from hrow)
    clear hI hall h10 h13 hrow
    simp only [flowAct, List.zipWith_cons_cons, List.zipWith_nil_left]
    go_wp2
    go_ret
    exact ⟨_, _, _, rfl, ⟨HH.out.base, HH.out.below.trans (HT.out.below HH.out.base HH.out.below.size), HBY.out, HR.out⟩, HT.out⟩
set_option maxRecDepth 100000 in
set_option maxHeartbeats 6400000 in
theorem tkGroup_c {w0 w : World} {q : Nat} {av : Option Addr} {nv cv : Nat} {l : List UInt8} {site seq n s a b : Int} {u : Value} {kx : List UInt8} {ix : Int} {gx : Bool} {vx : List UInt8} (h : Rdr w0 w q av nv cv l site seq n s a b u kx ix gx vx) (y k f : Int) (hg : getS l = (y, k, f)) :
    Calls Tryd.prog 106 #[.pointer (some ⟨q, 0, none⟩), .pointer (some ⟨q, 9, none⟩), .func (.func 107) #[] #[]] w (StepTo w0 w q (f == 0) (l.drop k.toNat) site seq n s a b u kx y gx vx) := by
  obtain ⟨kq, rfl, hkl⟩ := cnt_get hg
  rw [Int.toNat_natCast]
  have hnv := h.bytes.len
  have hle := h.bytes.le
  have hmx := h.bytes.max
  obtain ⟨a', hs1, hs2, hby⟩ := bys_from h.bytes (q := kq) (by omega)
  obtain ⟨cc, zc⟩ := rd_any h.row
  obtain ⟨c0, -⟩ := cc
  have HG := get_c (h.bytes.below h.below)
  rw [hg] at HG
  have HGG := Lib.hid HG
  have HH := Lib.hid h
  have HBY := Lib.hid hby
  have hqk : kq ≤ nv := by omega
  clear hg HG h hby hnv zc hkl
  go_enter Tryd.func106, Tryd.ntmps106
  go_upto_region 2 with (go_at_call 107; (with_reducible refine HGG.out.mono ?_); rintro e9 w9 ⟨rfl, rfl⟩)
  refine wp_region_inv [none, none, none, none, none, none, none, none, none, none, none, none, none, none, none, none, none, none, none, none, some 0, some 1, some 2, some 3, some 4, some 5, some 6, some 7, some 8, some 9, some 11, some 12, none, none] (fun i => [undef, undef, undef, undef, undef, undef, undef, undef, undef, undef, undef, undef, undef, undef].getD i undef) (InvS q 129 (fun i => [.pointer (some ⟨q, 9, none⟩), .pointer (some ⟨q, 0, none⟩), .int .i64 y, .pointer (some ⟨q, 0, none⟩), .pointer (some ⟨q, 0, none⟩), .pointer (some ⟨q, 0, none⟩), .slice av nv cv, .int .i64 (kq : Int), (.slice a' (nv - kq) (cv - kq)), .pointer (some ⟨q, 9, none⟩), undef, .pointer (some ⟨q, 0, none⟩), .pointer (some ⟨q, 0, none⟩), undef].getD i undef) #[.slice av nv cv, .int .i64 site, .int .i64 seq, .int .i64 n, .int .i64 s, .int .i64 a, .int .i64 b, u, .string (text kx), .int .i64 ix, .bool gx, .string (text vx)] #[.slice av nv cv, .int .i64 site, .int .i64 seq, .int .i64 n, .int .i64 s, .int .i64 a, .int .i64 b, u, .string (text kx), .int .i64 y, .bool gx, .string (text vx)] #[(.slice a' (nv - kq) (cv - kq)), .int .i64 site, .int .i64 seq, .int .i64 n, .int .i64 s, .int .i64 a, .int .i64 b, u, .string (text kx), .int .i64 ix, .bool gx, .string (text vx)] #[(.slice a' (nv - kq) (cv - kq)), .int .i64 site, .int .i64 seq, .int .i64 n, .int .i64 s, .int .i64 a, .int .i64 b, u, .string (text kx), .int .i64 y, .bool gx, .string (text vx)] w) (by kernel_rfl) (by kernel_rfl) rfl rfl (fun L hL => InvS.start (fun i hi => hL i hi) HH.out.row) ?_ ?_
  · simp only [invOps, and_true]
    refine ⟨?_, ?_, ?_, ?_, ?_, ?_, ?_, ?_, ?_, ?_, ?_, ?_, ?_, ?_⟩
    · intro L xs W hI hL hn
      simp only [flowAct, List.zipWith_cons_cons, List.zipWith_nil_left]
      go_wp2_with (fail)
      exact ⟨rfl, _, rfl, hI.val 0 (by decide) (fun h => absurd h (by decide)) rfl⟩
    · intro L xs W hI hL hn
      simp only [flowAct, List.zipWith_cons_cons, List.zipWith_nil_left]
      go_wp2_with (fail)
      exact ⟨rfl, _, rfl, hI.val 1 (by decide) (fun h => absurd h (by decide)) rfl⟩
    · intro L xs W hI hL hn
      simp only [flowAct, List.zipWith_cons_cons, List.zipWith_nil_left]
      go_wp2_with (fail)
      exact ⟨rfl, _, rfl, hI.val 2 (by decide) (fun h => absurd h (by decide)) rfl⟩
    · intro L xs W hI hL hn
      simp only [flowAct, List.zipWith_cons_cons, List.zipWith_nil_left]
      go_wp2_with (fail)
      exact ⟨rfl, _, rfl, hI.val 3 (by decide) (fun h => absurd h (by decide)) rfl⟩
    · intro L xs W hI hL hn
      simp [invNeeds, Region.binds] at hn
      have e3 : xs 3 = .pointer (some ⟨q, 0, none⟩) := hI.at' 3 (by decide) (by simp only [hn]) (by decide) (by decide)
      simp only [flowAct, List.zipWith_cons_cons, List.zipWith_nil_left]
      simp only [e3]
      go_wp2_with (fail)
      exact ⟨rfl, _, rfl, hI.val 4 (by decide) (fun h => absurd h (by decide)) rfl⟩
    · intro L xs W hI hL hn
      simp [invNeeds, Region.binds] at hn
      have e4 : xs 4 = .pointer (some ⟨q, 0, none⟩) := hI.at' 4 (by decide) (by simp only [hn]) (by decide) (by decide)
      simp only [flowAct, List.zipWith_cons_cons, List.zipWith_nil_left]
      simp only [e4]
      go_wp2_with (fail)
      exact ⟨rfl, _, rfl, hI.val 5 (by decide) (fun h => absurd h (by decide)) rfl⟩
    · intro L xs W hI hL hn
      simp [invNeeds, Region.binds] at hn
      have e5 : xs 5 = .pointer (some ⟨q, 0, none⟩) := hI.at' 5 (by decide) (by simp only [hn]) (by decide) (by decide)
      have h13 := hI.no13 hL
      simp only [flowAct, List.zipWith_cons_cons, List.zipWith_nil_left]
      simp only [e5]
      have hrow := hI.row
      rw [h13] at hrow
      cases h10 : L 10
      · rw [h10] at hrow
        obtain ⟨⟨p0, -⟩, pf⟩ := rd_any (show W.heap[q]? = some (.cells #[.slice av nv cv, .int .i64 site, .int .i64 seq, .int .i64 n, .int .i64 s, .int .i64 a, .int .i64 b, u, .string (text kx), .int .i64 ix, .bool gx, .string (text vx)] 129 (0, 0)) from hrow)
        clear hrow
        go_wp2_with (fail)
        exact ⟨rfl, _, rfl, hI.val 6 (by decide) (fun h => absurd h (by decide)) rfl⟩
      · rw [h10] at hrow
        obtain ⟨⟨p0, -⟩, pf⟩ := rd_any (show W.heap[q]? = some (.cells #[.slice av nv cv, .int .i64 site, .int .i64 seq, .int .i64 n, .int .i64 s, .int .i64 a, .int .i64 b, u, .string (text kx), .int .i64 y, .bool gx, .string (text vx)] 129 (0, 0)) from hrow)
        clear hrow
        go_wp2_with (fail)
        exact ⟨rfl, _, rfl, hI.val 6 (by decide) (fun h => absurd h (by decide)) rfl⟩
    · intro L xs W hI hL hn
      simp only [flowAct, List.zipWith_cons_cons, List.zipWith_nil_left]
      go_wp2_with (fail)
      exact ⟨rfl, _, rfl, hI.val 7 (by decide) (fun h => absurd h (by decide)) rfl⟩
    · intro L xs W hI hL hn
      simp [invNeeds, Region.binds] at hn
      have e6 : xs 6 = .slice av nv cv := hI.at' 6 (by decide) (by simp only [hn]) (by decide) (by decide)
      have e7 : xs 7 = .int .i64 (kq : Int) := hI.at' 7 (by decide) (by simp only [hn]) (by decide) (by decide)
      simp only [flowAct, List.zipWith_cons_cons, List.zipWith_nil_left]
      simp only [e6, e7]
      go_wp2_with (fail)
      exact ⟨rfl, _, rfl, hI.val 8 (by decide) (fun _ => by simp only [hn]) rfl⟩
    · intro L xs W hI hL hn
      simp [invNeeds, Region.binds] at hn
      have e0 : xs 0 = .pointer (some ⟨q, 9, none⟩) := hI.at' 0 (by decide) (by simp only [hn]) (by decide) (by decide)
      simp only [flowAct, List.zipWith_cons_cons, List.zipWith_nil_left]
      simp only [e0]
      go_wp2_with (fail)
      exact ⟨rfl, _, rfl, hI.val 9 (by decide) (fun h => absurd h (by decide)) rfl⟩
    · intro L xs W hI hL hn
      simp [invNeeds, Region.binds] at hn
      have e2 : xs 2 = .int .i64 y := hI.at' 2 (by decide) (by simp only [hn]) (by decide) (by decide)
      have e9 : xs 9 = .pointer (some ⟨q, 9, none⟩) := hI.at' 9 (by decide) (by simp only [hn]) (by decide) (by decide)
      simp only [flowAct, List.zipWith_cons_cons, List.zipWith_nil_left]
      simp only [e2, e9]
      have hrow := hI.row
      rw [hL] at hrow
      cases h13 : L 13
      · rw [h13] at hrow
        have hrow0 : W.heap[q]? = some (.cells #[.slice av nv cv, .int .i64 site, .int .i64 seq, .int .i64 n, .int .i64 s, .int .i64 a, .int .i64 b, u, .string (text kx), .int .i64 ix, .bool gx, .string (text vx)] 129 (0, 0)) := hrow
        obtain ⟨⟨-, -, -, -, -, -, -, -, -, p9, -, -⟩, pf⟩ := rd_any hrow0
        clear hrow
        go_wp2_with (fail)
        exact ⟨rfl, undef, rfl, hI.st10 (Only.set _ ⟨q, 9, none⟩ _) (by rw [h13]; exact (heap_setCell_same W q 9 _ _ _ hrow0).trans rfl) undef⟩
      · rw [h13] at hrow
        have hrow0 : W.heap[q]? = some (.cells #[(.slice a' (nv - kq) (cv - kq)), .int .i64 site, .int .i64 seq, .int .i64 n, .int .i64 s, .int .i64 a, .int .i64 b, u, .string (text kx), .int .i64 ix, .bool gx, .string (text vx)] 129 (0, 0)) := hrow
        obtain ⟨⟨-, -, -, -, -, -, -, -, -, p9, -, -⟩, pf⟩ := rd_any hrow0
        clear hrow
        go_wp2_with (fail)
        exact ⟨rfl, undef, rfl, hI.st10 (Only.set _ ⟨q, 9, none⟩ _) (by rw [h13]; exact (heap_setCell_same W q 9 _ _ _ hrow0).trans rfl) undef⟩
    · intro L xs W hI hL hn
      simp [invNeeds, Region.binds] at hn
      have e1 : xs 1 = .pointer (some ⟨q, 0, none⟩) := hI.at' 1 (by decide) (by simp only [hn]) (by decide) (by decide)
      simp only [flowAct, List.zipWith_cons_cons, List.zipWith_nil_left]
      simp only [e1]
      go_wp2_with (fail)
      exact ⟨rfl, _, rfl, hI.val 11 (by decide) (fun h => absurd h (by decide)) rfl⟩
    · intro L xs W hI hL hn
      simp [invNeeds, Region.binds] at hn
      have e11 : xs 11 = .pointer (some ⟨q, 0, none⟩) := hI.at' 11 (by decide) (by simp only [hn]) (by decide) (by decide)
      simp only [flowAct, List.zipWith_cons_cons, List.zipWith_nil_left]
      simp only [e11]
      go_wp2_with (fail)
      exact ⟨rfl, _, rfl, hI.val 12 (by decide) (fun h => absurd h (by decide)) rfl⟩
    · intro L xs W hI hL hn
      simp [invNeeds, Region.binds] at hn
      have e8 : xs 8 = (.slice a' (nv - kq) (cv - kq)) := hI.at' 8 (by decide) (by simp only [hn]) (by decide) (by decide)
      have e12 : xs 12 = .pointer (some ⟨q, 0, none⟩) := hI.at' 12 (by decide) (by simp only [hn]) (by decide) (by decide)
      simp only [flowAct, List.zipWith_cons_cons, List.zipWith_nil_left]
      simp only [e8, e12]
      have hrow := hI.row
      rw [hL] at hrow
      have h8 : L 8 = true := by simp only [hn]
      cases h10 : L 10
      · rw [h10] at hrow
        have hrow0 : W.heap[q]? = some (.cells #[.slice av nv cv, .int .i64 site, .int .i64 seq, .int .i64 n, .int .i64 s, .int .i64 a, .int .i64 b, u, .string (text kx), .int .i64 ix, .bool gx, .string (text vx)] 129 (0, 0)) := hrow
        obtain ⟨⟨p0, -⟩, pf⟩ := rd_any hrow0
        clear hrow
        go_wp2_with (fail)
        exact ⟨rfl, undef, rfl, hI.st13 (Only.set _ ⟨q, 0, none⟩ _) h8 (by rw [h10]; exact (heap_setCell_same W q 0 _ _ _ hrow0).trans rfl) undef⟩
      · rw [h10] at hrow
        have hrow0 : W.heap[q]? = some (.cells #[.slice av nv cv, .int .i64 site, .int .i64 seq, .int .i64 n, .int .i64 s, .int .i64 a, .int .i64 b, u, .string (text kx), .int .i64 y, .bool gx, .string (text vx)] 129 (0, 0)) := hrow
        obtain ⟨⟨p0, -⟩, pf⟩ := rd_any hrow0
        clear hrow
        go_wp2_with (fail)
        exact ⟨rfl, undef, rfl, hI.st13 (Only.set _ ⟨q, 0, none⟩ _) h8 (by rw [h10]; exact (heap_setCell_same W q 0 _ _ _ hrow0).trans rfl) undef⟩
  · intro L xs W hI hall
    have h10 := hall 10 (by decide)
    have h13 := hall 13 (by decide)
    have hrow := hI.row
    rw [h10, h13] at hrow
    have HT := Lib.hid hI.only
    have HR := Lib.hid (show W.heap[q]? = some (.cells #[(.slice a' (nv - kq) (cv - kq)), .int .i64 site, .int .i64 seq, .int .i64 n, .int .i64 s, .int .i64 a, .int .i64 b, u, .string (text kx), .int .i64 y, .bool gx, .string (text vx)] 129 (0, 0)) from hrow)
    clear hI hall h10 h13 hrow
    simp only [flowAct, List.zipWith_cons_cons, List.zipWith_nil_left]
    go_wp2
    go_ret
    exact ⟨_, _, _, rfl, ⟨HH.out.base, HH.out.below.trans (HT.out.below HH.out.base HH.out.below.size), HBY.out, HR.out⟩, HT.out⟩
set_option maxRecDepth 100000 in
set_option maxHeartbeats 6400000 in
theorem tkStamp_c {w0 w : World} {q : Nat} {av : Option Addr} {nv cv : Nat} {l : List UInt8} {site seq n s a b : Int} {u : Value} {kx : List UInt8} {ix : Int} {gx : Bool} {vx : List UInt8} (h : Rdr w0 w q av nv cv l site seq n s a b u kx ix gx vx) (y z k f : Int) (hg : sgetS l = ((y, z), k, f)) :
    Calls Tryd.prog 108 #[.pointer (some ⟨q, 0, none⟩), .pointer (some ⟨q, 3, none⟩), .func (.func 109) #[] #[]] w (StepTo w0 w q (f == 0) (l.drop k.toNat) site seq y z a b u kx ix gx vx) := by
  obtain ⟨kq, rfl, hkl⟩ := cnt_s hg
  rw [Int.toNat_natCast]
  have hnv := h.bytes.len
  have hle := h.bytes.le
  have hmx := h.bytes.max
  obtain ⟨a', hs1, hs2, hby⟩ := bys_from h.bytes (q := kq) (by omega)
  obtain ⟨cc, zc⟩ := rd_any h.row
  obtain ⟨c0, -⟩ := cc
  have HG := sget_c (h.bytes.below h.below)
  rw [hg] at HG
  have HGG := Lib.hid HG
  have HH := Lib.hid h
  have HBY := Lib.hid hby
  have hqk : kq ≤ nv := by omega
  clear hg HG h hby hnv zc hkl
  go_enter Tryd.func108, Tryd.ntmps108
  go_upto_region 2 with (go_at_call 109; (with_reducible refine HGG.out.mono ?_); rintro e9 w1 ⟨rfl, hb1⟩)
  have hal := alloc_below w1 (.cells #[.int .i64 y, .int .i64 z] 24)
  have hp := heap_alloc_new w1 (.cells #[.int .i64 y, .int .i64 z] 24)
  have hb2 : Below w.heap.size w (w1.alloc (.cells #[.int .i64 y, .int .i64 z] 24)) := hb1.trans (hal.mono hb1.size)
  have H1 := Lib.hid (HH.out.grow hb2)
  have HO1 := Lib.hid (Only.of_below (q := q) hb2)
  have hqB : q < w1.heap.size := Nat.lt_of_lt_of_le (Array.getElem?_eq_some_iff.1 HH.out.row).1 hb1.size
  obtain ⟨gb, hgb⟩ : ∃ z, w1.heap.size = z := ⟨_, rfl⟩
  rw [hgb] at hp hqB ⊢
  clear HH c0 hb1 hb2 hal hgb
  generalize w1.alloc (.cells #[.int .i64 y, .int .i64 z] 24) = W2 at *
  have HP := Lib.hid (fun W (h : Only q W2 W) => pair_cells ((h.rest gb (Array.getElem?_eq_some_iff.1 hp).1 (by omega)).trans hp))
  clear hp hqB
  refine wp_region_inv [none, none, none, none, none, none, none, none, none, none, none, none, none, none, none, none, none, none, none, none, some 0, some 1, some 2, some 3, some 4, some 5, some 6, some 7, some 8, some 9, some 11, some 12, none, none] (fun i => [undef, undef, undef, undef, undef, undef, undef, undef, undef, undef, undef, undef, undef, undef].getD i undef) (InvS q 129 (fun i => [.pointer (some ⟨q, 3, none⟩), .pointer (some ⟨q, 0, none⟩), .agg #[.int .i64 y, .int .i64 z], .pointer (some ⟨q, 0, none⟩), .pointer (some ⟨q, 0, none⟩), .pointer (some ⟨q, 0, none⟩), .slice av nv cv, .int .i64 (kq : Int), (.slice a' (nv - kq) (cv - kq)), .pointer (some ⟨q, 3, none⟩), undef, .pointer (some ⟨q, 0, none⟩), .pointer (some ⟨q, 0, none⟩), undef].getD i undef) #[.slice av nv cv, .int .i64 site, .int .i64 seq, .int .i64 n, .int .i64 s, .int .i64 a, .int .i64 b, u, .string (text kx), .int .i64 ix, .bool gx, .string (text vx)] #[.slice av nv cv, .int .i64 site, .int .i64 seq, .int .i64 y, .int .i64 z, .int .i64 a, .int .i64 b, u, .string (text kx), .int .i64 ix, .bool gx, .string (text vx)] #[(.slice a' (nv - kq) (cv - kq)), .int .i64 site, .int .i64 seq, .int .i64 n, .int .i64 s, .int .i64 a, .int .i64 b, u, .string (text kx), .int .i64 ix, .bool gx, .string (text vx)] #[(.slice a' (nv - kq) (cv - kq)), .int .i64 site, .int .i64 seq, .int .i64 y, .int .i64 z, .int .i64 a, .int .i64 b, u, .string (text kx), .int .i64 ix, .bool gx, .string (text vx)] W2) (by kernel_rfl) (by kernel_rfl) rfl rfl (fun L hL => InvS.start (fun i hi => hL i hi) H1.out.row) ?_ ?_
  · simp only [invOps, and_true]
    refine ⟨?_, ?_, ?_, ?_, ?_, ?_, ?_, ?_, ?_, ?_, ?_, ?_, ?_, ?_⟩
    · intro L xs W hI hL hn
      simp only [flowAct, List.zipWith_cons_cons, List.zipWith_nil_left]
      go_wp2_with (fail)
      exact ⟨rfl, _, rfl, hI.val 0 (by decide) (fun h => absurd h (by decide)) rfl⟩
    · intro L xs W hI hL hn
      simp only [flowAct, List.zipWith_cons_cons, List.zipWith_nil_left]
      go_wp2_with (fail)
      exact ⟨rfl, _, rfl, hI.val 1 (by decide) (fun h => absurd h (by decide)) rfl⟩
    · intro L xs W hI hL hn
      obtain ⟨b0, b1⟩ := HP.out W hI.only
      simp only [flowAct, List.zipWith_cons_cons, List.zipWith_nil_left]
      go_wp2_with (fail)
      exact ⟨rfl, _, rfl, hI.val 2 (by decide) (fun h => absurd h (by decide)) rfl⟩
    · intro L xs W hI hL hn
      simp only [flowAct, List.zipWith_cons_cons, List.zipWith_nil_left]
      go_wp2_with (fail)
      exact ⟨rfl, _, rfl, hI.val 3 (by decide) (fun h => absurd h (by decide)) rfl⟩
    · intro L xs W hI hL hn
      simp [invNeeds, Region.binds] at hn
      have e3 : xs 3 = .pointer (some ⟨q, 0, none⟩) := hI.at' 3 (by decide) (by simp only [hn]) (by decide) (by decide)
      simp only [flowAct, List.zipWith_cons_cons, List.zipWith_nil_left]
      simp only [e3]
      go_wp2_with (fail)
      exact ⟨rfl, _, rfl, hI.val 4 (by decide) (fun h => absurd h (by decide)) rfl⟩
    · intro L xs W hI hL hn
      simp [invNeeds, Region.binds] at hn
      have e4 : xs 4 = .pointer (some ⟨q, 0, none⟩) := hI.at' 4 (by decide) (by simp only [hn]) (by decide) (by decide)
      simp only [flowAct, List.zipWith_cons_cons, List.zipWith_nil_left]
      simp only [e4]
      go_wp2_with (fail)
      exact ⟨rfl, _, rfl, hI.val 5 (by decide) (fun h => absurd h (by decide)) rfl⟩
    · intro L xs W hI hL hn
      simp [invNeeds, Region.binds] at hn
      have e5 : xs 5 = .pointer (some ⟨q, 0, none⟩) := hI.at' 5 (by decide) (by simp only [hn]) (by decide) (by decide)
      have h13 := hI.no13 hL
      simp only [flowAct, List.zipWith_cons_cons, List.zipWith_nil_left]
      simp only [e5]
      have hrow := hI.row
      rw [h13] at hrow
      cases h10 : L 10
      · rw [h10] at hrow
        obtain ⟨⟨p0, -⟩, pf⟩ := rd_any (show W.heap[q]? = some (.cells #[.slice av nv cv, .int .i64 site, .int .i64 seq, .int .i64 n, .int .i64 s, .int .i64 a, .int .i64 b, u, .string (text kx), .int .i64 ix, .bool gx, .string (text vx)] 129 (0, 0)) from hrow)
        clear hrow
        go_wp2_with (fail)
        exact ⟨rfl, _, rfl, hI.val 6 (by decide) (fun h => absurd h (by decide)) rfl⟩
      · rw [h10] at hrow
        obtain ⟨⟨p0, -⟩, pf⟩ := rd_any (show W.heap[q]? = some (.cells #[.slice av nv cv, .int .i64 site, .int .i64 seq, .int .i64 y, .int .i64 z, .int .i64 a, .int .i64 b, u, .string (text kx), .int .i64 ix, .bool gx, .string (text vx)] 129 (0, 0)) from hrow)
        clear hrow
        go_wp2_with (fail)
        exact ⟨rfl, _, rfl, hI.val 6 (by decide) (fun h => absurd h (by decide)) rfl⟩
    · intro L xs W hI hL hn
      simp only [flowAct, List.zipWith_cons_cons, List.zipWith_nil_left]
      go_wp2_with (fail)
      exact ⟨rfl, _, rfl, hI.val 7 (by decide) (fun h => absurd h (by decide)) rfl⟩
    · intro L xs W hI hL hn
      simp [invNeeds, Region.binds] at hn
      have e6 : xs 6 = .slice av nv cv := hI.at' 6 (by decide) (by simp only [hn]) (by decide) (by decide)
      have e7 : xs 7 = .int .i64 (kq : Int) := hI.at' 7 (by decide) (by simp only [hn]) (by decide) (by decide)
      simp only [flowAct, List.zipWith_cons_cons, List.zipWith_nil_left]
      simp only [e6, e7]
      go_wp2_with (fail)
      exact ⟨rfl, _, rfl, hI.val 8 (by decide) (fun _ => by simp only [hn]) rfl⟩
    · intro L xs W hI hL hn
      simp [invNeeds, Region.binds] at hn
      have e0 : xs 0 = .pointer (some ⟨q, 3, none⟩) := hI.at' 0 (by decide) (by simp only [hn]) (by decide) (by decide)
      simp only [flowAct, List.zipWith_cons_cons, List.zipWith_nil_left]
      simp only [e0]
      go_wp2_with (fail)
      exact ⟨rfl, _, rfl, hI.val 9 (by decide) (fun h => absurd h (by decide)) rfl⟩
    · intro L xs W hI hL hn
      simp [invNeeds, Region.binds] at hn
      have e2 : xs 2 = .agg #[.int .i64 y, .int .i64 z] := hI.at' 2 (by decide) (by simp only [hn]) (by decide) (by decide)
      have e9 : xs 9 = .pointer (some ⟨q, 3, none⟩) := hI.at' 9 (by decide) (by simp only [hn]) (by decide) (by decide)
      simp only [flowAct, List.zipWith_cons_cons, List.zipWith_nil_left]
      simp only [e2, e9]
      have hrow := hI.row
      rw [hL] at hrow
      cases h13 : L 13
      · rw [h13] at hrow
        have hrow0 : W.heap[q]? = some (.cells #[.slice av nv cv, .int .i64 site, .int .i64 seq, .int .i64 n, .int .i64 s, .int .i64 a, .int .i64 b, u, .string (text kx), .int .i64 ix, .bool gx, .string (text vx)] 129 (0, 0)) := hrow
        obtain ⟨⟨-, -, -, p3, p4, -, -, -, -, -, -, -⟩, pf⟩ := rd_any hrow0
        clear hrow
        go_wp2_with (fail)
        exact ⟨rfl, undef, rfl, hI.st10 ((Only.set _ ⟨q, 3, none⟩ _).trans (Only.set _ ⟨q, 4, none⟩ _)) (by rw [h13]; exact (heap_setCell_same _ q 4 _ _ _ (heap_setCell_same W q 3 _ _ _ hrow0)).trans rfl) undef⟩
      · rw [h13] at hrow
        have hrow0 : W.heap[q]? = some (.cells #[(.slice a' (nv - kq) (cv - kq)), .int .i64 site, .int .i64 seq, .int .i64 n, .int .i64 s, .int .i64 a, .int .i64 b, u, .string (text kx), .int .i64 ix, .bool gx, .string (text vx)] 129 (0, 0)) := hrow
        obtain ⟨⟨-, -, -, p3, p4, -, -, -, -, -, -, -⟩, pf⟩ := rd_any hrow0
        clear hrow
        go_wp2_with (fail)
        exact ⟨rfl, undef, rfl, hI.st10 ((Only.set _ ⟨q, 3, none⟩ _).trans (Only.set _ ⟨q, 4, none⟩ _)) (by rw [h13]; exact (heap_setCell_same _ q 4 _ _ _ (heap_setCell_same W q 3 _ _ _ hrow0)).trans rfl) undef⟩
    · intro L xs W hI hL hn
      simp [invNeeds, Region.binds] at hn
      have e1 : xs 1 = .pointer (some ⟨q, 0, none⟩) := hI.at' 1 (by decide) (by simp only [hn]) (by decide) (by decide)
      simp only [flowAct, List.zipWith_cons_cons, List.zipWith_nil_left]
      simp only [e1]
      go_wp2_with (fail)
      exact ⟨rfl, _, rfl, hI.val 11 (by decide) (fun h => absurd h (by decide)) rfl⟩
    · intro L xs W hI hL hn
      simp [invNeeds, Region.binds] at hn
      have e11 : xs 11 = .pointer (some ⟨q, 0, none⟩) := hI.at' 11 (by decide) (by simp only [hn]) (by decide) (by decide)
      simp only [flowAct, List.zipWith_cons_cons, List.zipWith_nil_left]
      simp only [e11]
      go_wp2_with (fail)
      exact ⟨rfl, _, rfl, hI.val 12 (by decide) (fun h => absurd h (by decide)) rfl⟩
    · intro L xs W hI hL hn
      simp [invNeeds, Region.binds] at hn
      have e8 : xs 8 = (.slice a' (nv - kq) (cv - kq)) := hI.at' 8 (by decide) (by simp only [hn]) (by decide) (by decide)
      have e12 : xs 12 = .pointer (some ⟨q, 0, none⟩) := hI.at' 12 (by decide) (by simp only [hn]) (by decide) (by decide)
      simp only [flowAct, List.zipWith_cons_cons, List.zipWith_nil_left]
      simp only [e8, e12]
      have hrow := hI.row
      rw [hL] at hrow
      have h8 : L 8 = true := by simp only [hn]
      cases h10 : L 10
      · rw [h10] at hrow
        have hrow0 : W.heap[q]? = some (.cells #[.slice av nv cv, .int .i64 site, .int .i64 seq, .int .i64 n, .int .i64 s, .int .i64 a, .int .i64 b, u, .string (text kx), .int .i64 ix, .bool gx, .string (text vx)] 129 (0, 0)) := hrow
        obtain ⟨⟨p0, -⟩, pf⟩ := rd_any hrow0
        clear hrow
        go_wp2_with (fail)
        exact ⟨rfl, undef, rfl, hI.st13 (Only.set _ ⟨q, 0, none⟩ _) h8 (by rw [h10]; exact (heap_setCell_same W q 0 _ _ _ hrow0).trans rfl) undef⟩
      · rw [h10] at hrow
        have hrow0 : W.heap[q]? = some (.cells #[.slice av nv cv, .int .i64 site, .int .i64 seq, .int .i64 y, .int .i64 z, .int .i64 a, .int .i64 b, u, .string (text kx), .int .i64 ix, .bool gx, .string (text vx)] 129 (0, 0)) := hrow
        obtain ⟨⟨p0, -⟩, pf⟩ := rd_any hrow0
        clear hrow
        go_wp2_with (fail)
        exact ⟨rfl, undef, rfl, hI.st13 (Only.set _ ⟨q, 0, none⟩ _) h8 (by rw [h10]; exact (heap_setCell_same W q 0 _ _ _ hrow0).trans rfl) undef⟩
  · intro L xs W hI hall
    have h10 := hall 10 (by decide)
    have h13 := hall 13 (by decide)
    have hrow := hI.row
    rw [h10, h13] at hrow
    have HT := Lib.hid hI.only
    have HR := Lib.hid (show W.heap[q]? = some (.cells #[(.slice a' (nv - kq) (cv - kq)), .int .i64 site, .int .i64 seq, .int .i64 y, .int .i64 z, .int .i64 a, .int .i64 b, u, .string (text kx), .int .i64 ix, .bool gx, .string (text vx)] 129 (0, 0)) from hrow)
    clear hI hall h10 h13 hrow
    simp only [flowAct, List.zipWith_cons_cons, List.zipWith_nil_left]
    go_wp2
    go_ret
    exact ⟨_, _, _, rfl, ⟨H1.out.base, H1.out.below.trans (HT.out.below H1.out.base H1.out.below.size), HBY.out, HR.out⟩, HO1.out.trans HT.out⟩
set_option maxRecDepth 100000 in
set_option maxHeartbeats 6400000 in
theorem tkVec_c {w0 w : World} {q : Nat} {av : Option Addr} {nv cv : Nat} {l : List UInt8} {site seq n s a b : Int} {u : Value} {kx : List UInt8} {ix : Int} {gx : Bool} {vx : List UInt8} (h : Rdr w0 w q av nv cv l site seq n s a b u kx ix gx vx) (y z k f : Int) (hg : vgetS l = ((y, z), k, f)) :
    Calls Tryd.prog 110 #[.pointer (some ⟨q, 0, none⟩), .pointer (some ⟨q, 5, none⟩), .func (.func 111) #[] #[]] w (StepTo w0 w q (f == 0) (l.drop k.toNat) site seq n s y z u kx ix gx vx) := by
  obtain ⟨kq, rfl, hkl⟩ := cnt_v hg
  rw [Int.toNat_natCast]
  have hnv := h.bytes.len
  have hle := h.bytes.le
  have hmx := h.bytes.max
  obtain ⟨a', hs1, hs2, hby⟩ := bys_from h.bytes (q := kq) (by omega)
  obtain ⟨cc, zc⟩ := rd_any h.row
  obtain ⟨c0, -⟩ := cc
  have HG := vget_c (h.bytes.below h.below)
  rw [hg] at HG
  have HGG := Lib.hid HG
  have HH := Lib.hid h
  have HBY := Lib.hid hby
  have hqk : kq ≤ nv := by omega
  clear hg HG h hby hnv zc hkl
  go_enter Tryd.func110, Tryd.ntmps110
  go_upto_region 2 with (go_at_call 111; (with_reducible refine HGG.out.mono ?_); rintro e9 w1 ⟨rfl, hb1⟩)
  have hal := alloc_below w1 (.cells #[.int .i64 y, .int .i64 z] 26)
  have hp := heap_alloc_new w1 (.cells #[.int .i64 y, .int .i64 z] 26)
  have hb2 : Below w.heap.size w (w1.alloc (.cells #[.int .i64 y, .int .i64 z] 26)) := hb1.trans (hal.mono hb1.size)
  have H1 := Lib.hid (HH.out.grow hb2)
  have HO1 := Lib.hid (Only.of_below (q := q) hb2)
  have hqB : q < w1.heap.size := Nat.lt_of_lt_of_le (Array.getElem?_eq_some_iff.1 HH.out.row).1 hb1.size
  obtain ⟨gb, hgb⟩ : ∃ z, w1.heap.size = z := ⟨_, rfl⟩
  rw [hgb] at hp hqB ⊢
  clear HH c0 hb1 hb2 hal hgb
  generalize w1.alloc (.cells #[.int .i64 y, .int .i64 z] 26) = W2 at *
  have HP := Lib.hid (fun W (h : Only q W2 W) => pair_cells ((h.rest gb (Array.getElem?_eq_some_iff.1 hp).1 (by omega)).trans hp))
  clear hp hqB
  refine wp_region_inv [none, none, none, none, none, none, none, none, none, none, none, none, none, none, none, none, none, none, none, none, some 0, some 1, some 2, some 3, some 4, some 5, some 6, some 7, some 8, some 9, some 11, some 12, none, none] (fun i => [undef, undef, undef, undef, undef, undef, undef, undef, undef, undef, undef, undef, undef, undef].getD i undef) (InvS q 129 (fun i => [.pointer (some ⟨q, 5, none⟩), .pointer (some ⟨q, 0, none⟩), .agg #[.int .i64 y, .int .i64 z], .pointer (some ⟨q, 0, none⟩), .pointer (some ⟨q, 0, none⟩), .pointer (some ⟨q, 0, none⟩), .slice av nv cv, .int .i64 (kq : Int), (.slice a' (nv - kq) (cv - kq)), .pointer (some ⟨q, 5, none⟩), undef, .pointer (some ⟨q, 0, none⟩), .pointer (some ⟨q, 0, none⟩), undef].getD i undef) #[.slice av nv cv, .int .i64 site, .int .i64 seq, .int .i64 n, .int .i64 s, .int .i64 a, .int .i64 b, u, .string (text kx), .int .i64 ix, .bool gx, .string (text vx)] #[.slice av nv cv, .int .i64 site, .int .i64 seq, .int .i64 n, .int .i64 s, .int .i64 y, .int .i64 z, u, .string (text kx), .int .i64 ix, .bool gx, .string (text vx)] #[(.slice a' (nv - kq) (cv - kq)), .int .i64 site, .int .i64 seq, .int .i64 n, .int .i64 s, .int .i64 a, .int .i64 b, u, .string (text kx), .int .i64 ix, .bool gx, .string (text vx)] #[(.slice a' (nv - kq) (cv - kq)), .int .i64 site, .int .i64 seq, .int .i64 n, .int .i64 s, .int .i64 y, .int .i64 z, u, .string (text kx), .int .i64 ix, .bool gx, .string (text vx)] W2) (by kernel_rfl) (by kernel_rfl) rfl rfl (fun L hL => InvS.start (fun i hi => hL i hi) H1.out.row) ?_ ?_
  · simp only [invOps, and_true]
    refine ⟨?_, ?_, ?_, ?_, ?_, ?_, ?_, ?_, ?_, ?_, ?_, ?_, ?_, ?_⟩
    · intro L xs W hI hL hn
      simp only [flowAct, List.zipWith_cons_cons, List.zipWith_nil_left]
      go_wp2_with (fail)
      exact ⟨rfl, _, rfl, hI.val 0 (by decide) (fun h => absurd h (by decide)) rfl⟩
    · intro L xs W hI hL hn
      simp only [flowAct, List.zipWith_cons_cons, List.zipWith_nil_left]
      go_wp2_with (fail)
      exact ⟨rfl, _, rfl, hI.val 1 (by decide) (fun h => absurd h (by decide)) rfl⟩
    · intro L xs W hI hL hn
      obtain ⟨b0, b1⟩ := HP.out W hI.only
      simp only [flowAct, List.zipWith_cons_cons, List.zipWith_nil_left]
      go_wp2_with (fail)
      exact ⟨rfl, _, rfl, hI.val 2 (by decide) (fun h => absurd h (by decide)) rfl⟩
    · intro L xs W hI hL hn
      simp only [flowAct, List.zipWith_cons_cons, List.zipWith_nil_left]
      go_wp2_with (fail)
      exact ⟨rfl, _, rfl, hI.val 3 (by decide) (fun h => absurd h (by decide)) rfl⟩
    · intro L xs W hI hL hn
      simp [invNeeds, Region.binds] at hn
      have e3 : xs 3 = .pointer (some ⟨q, 0, none⟩) := hI.at' 3 (by decide) (by simp only [hn]) (by decide) (by decide)
      simp only [flowAct, List.zipWith_cons_cons, List.zipWith_nil_left]
      simp only [e3]
      go_wp2_with (fail)
      exact ⟨rfl, _, rfl, hI.val 4 (by decide) (fun h => absurd h (by decide)) rfl⟩
    · intro L xs W hI hL hn
      simp [invNeeds, Region.binds] at hn
      have e4 : xs 4 = .pointer (some ⟨q, 0, none⟩) := hI.at' 4 (by decide) (by simp only [hn]) (by decide) (by decide)
      simp only [flowAct, List.zipWith_cons_cons, List.zipWith_nil_left]
      simp only [e4]
      go_wp2_with (fail)
      exact ⟨rfl, _, rfl, hI.val 5 (by decide) (fun h => absurd h (by decide)) rfl⟩
    · intro L xs W hI hL hn
      simp [invNeeds, Region.binds] at hn
      have e5 : xs 5 = .pointer (some ⟨q, 0, none⟩) := hI.at' 5 (by decide) (by simp only [hn]) (by decide) (by decide)
      have h13 := hI.no13 hL
      simp only [flowAct, List.zipWith_cons_cons, List.zipWith_nil_left]
      simp only [e5]
      have hrow := hI.row
      rw [h13] at hrow
      cases h10 : L 10
      · rw [h10] at hrow
        obtain ⟨⟨p0, -⟩, pf⟩ := rd_any (show W.heap[q]? = some (.cells #[.slice av nv cv, .int .i64 site, .int .i64 seq, .int .i64 n, .int .i64 s, .int .i64 a, .int .i64 b, u, .string (text kx), .int .i64 ix, .bool gx, .string (text vx)] 129 (0, 0)) from hrow)
        clear hrow
        go_wp2_with (fail)
        exact ⟨rfl, _, rfl, hI.val 6 (by decide) (fun h => absurd h (by decide)) rfl⟩
      · rw [h10] at hrow
        obtain ⟨⟨p0, -⟩, pf⟩ := rd_any (show W.heap[q]? = some (.cells #[.slice av nv cv, .int .i64 site, .int .i64 seq, .int .i64 n, .int .i64 s, .int .i64 y, .int .i64 z, u, .string (text kx), .int .i64 ix, .bool gx, .string (text vx)] 129 (0, 0)) from hrow)
        clear hrow
        go_wp2_with (fail)
        exact ⟨rfl, _, rfl, hI.val 6 (by decide) (fun h => absurd h (by decide)) rfl⟩
    · intro L xs W hI hL hn
      simp only [flowAct, List.zipWith_cons_cons, List.zipWith_nil_left]
      go_wp2_with (fail)
      exact ⟨rfl, _, rfl, hI.val 7 (by decide) (fun h => absurd h (by decide)) rfl⟩
    · intro L xs W hI hL hn
      simp [invNeeds, Region.binds] at hn
      have e6 : xs 6 = .slice av nv cv := hI.at' 6 (by decide) (by simp only [hn]) (by decide) (by decide)
      have e7 : xs 7 = .int .i64 (kq : Int) := hI.at' 7 (by decide) (by simp only [hn]) (by decide) (by decide)
      simp only [flowAct, List.zipWith_cons_cons, List.zipWith_nil_left]
      simp only [e6, e7]
      go_wp2_with (fail)
      exact ⟨rfl, _, rfl, hI.val 8 (by decide) (fun _ => by simp only [hn]) rfl⟩
    · intro L xs W hI hL hn
      simp [invNeeds, Region.binds] at hn
      have e0 : xs 0 = .pointer (some ⟨q, 5, none⟩) := hI.at' 0 (by decide) (by simp only [hn]) (by decide) (by decide)
      simp only [flowAct, List.zipWith_cons_cons, List.zipWith_nil_left]
      simp only [e0]
      go_wp2_with (fail)
      exact ⟨rfl, _, rfl, hI.val 9 (by decide) (fun h => absurd h (by decide)) rfl⟩
    · intro L xs W hI hL hn
      simp [invNeeds, Region.binds] at hn
      have e2 : xs 2 = .agg #[.int .i64 y, .int .i64 z] := hI.at' 2 (by decide) (by simp only [hn]) (by decide) (by decide)
      have e9 : xs 9 = .pointer (some ⟨q, 5, none⟩) := hI.at' 9 (by decide) (by simp only [hn]) (by decide) (by decide)
      simp only [flowAct, List.zipWith_cons_cons, List.zipWith_nil_left]
      simp only [e2, e9]
      have hrow := hI.row
      rw [hL] at hrow
      cases h13 : L 13
      · rw [h13] at hrow
        have hrow0 : W.heap[q]? = some (.cells #[.slice av nv cv, .int .i64 site, .int .i64 seq, .int .i64 n, .int .i64 s, .int .i64 a, .int .i64 b, u, .string (text kx), .int .i64 ix, .bool gx, .string (text vx)] 129 (0, 0)) := hrow
        obtain ⟨⟨-, -, -, -, -, p5, p6, -, -, -, -, -⟩, pf⟩ := rd_any hrow0
        clear hrow
        go_wp2_with (fail)
        exact ⟨rfl, undef, rfl, hI.st10 ((Only.set _ ⟨q, 5, none⟩ _).trans (Only.set _ ⟨q, 6, none⟩ _)) (by rw [h13]; exact (heap_setCell_same _ q 6 _ _ _ (heap_setCell_same W q 5 _ _ _ hrow0)).trans rfl) undef⟩
      · rw [h13] at hrow
        have hrow0 : W.heap[q]? = some (.cells #[(.slice a' (nv - kq) (cv - kq)), .int .i64 site, .int .i64 seq, .int .i64 n, .int .i64 s, .int .i64 a, .int .i64 b, u, .string (text kx), .int .i64 ix, .bool gx, .string (text vx)] 129 (0, 0)) := hrow
        obtain ⟨⟨-, -, -, -, -, p5, p6, -, -, -, -, -⟩, pf⟩ := rd_any hrow0
        clear hrow
        go_wp2_with (fail)
        exact ⟨rfl, undef, rfl, hI.st10 ((Only.set _ ⟨q, 5, none⟩ _).trans (Only.set _ ⟨q, 6, none⟩ _)) (by rw [h13]; exact (heap_setCell_same _ q 6 _ _ _ (heap_setCell_same W q 5 _ _ _ hrow0)).trans rfl) undef⟩
    · intro L xs W hI hL hn
      simp [invNeeds, Region.binds] at hn
      have e1 : xs 1 = .pointer (some ⟨q, 0, none⟩) := hI.at' 1 (by decide) (by simp only [hn]) (by decide) (by decide)
      simp only [flowAct, List.zipWith_cons_cons, List.zipWith_nil_left]
      simp only [e1]
      go_wp2_with (fail)
      exact ⟨rfl, _, rfl, hI.val 11 (by decide) (fun h => absurd h (by decide)) rfl⟩
    · intro L xs W hI hL hn
      simp [invNeeds, Region.binds] at hn
      have e11 : xs 11 = .pointer (some ⟨q, 0, none⟩) := hI.at' 11 (by decide) (by simp only [hn]) (by decide) (by decide)
      simp only [flowAct, List.zipWith_cons_cons, List.zipWith_nil_left]
      simp only [e11]
      go_wp2_with (fail)
      exact ⟨rfl, _, rfl, hI.val 12 (by decide) (fun h => absurd h (by decide)) rfl⟩
    · intro L xs W hI hL hn
      simp [invNeeds, Region.binds] at hn
      have e8 : xs 8 = (.slice a' (nv - kq) (cv - kq)) := hI.at' 8 (by decide) (by simp only [hn]) (by decide) (by decide)
      have e12 : xs 12 = .pointer (some ⟨q, 0, none⟩) := hI.at' 12 (by decide) (by simp only [hn]) (by decide) (by decide)
      simp only [flowAct, List.zipWith_cons_cons, List.zipWith_nil_left]
      simp only [e8, e12]
      have hrow := hI.row
      rw [hL] at hrow
      have h8 : L 8 = true := by simp only [hn]
      cases h10 : L 10
      · rw [h10] at hrow
        have hrow0 : W.heap[q]? = some (.cells #[.slice av nv cv, .int .i64 site, .int .i64 seq, .int .i64 n, .int .i64 s, .int .i64 a, .int .i64 b, u, .string (text kx), .int .i64 ix, .bool gx, .string (text vx)] 129 (0, 0)) := hrow
        obtain ⟨⟨p0, -⟩, pf⟩ := rd_any hrow0
        clear hrow
        go_wp2_with (fail)
        exact ⟨rfl, undef, rfl, hI.st13 (Only.set _ ⟨q, 0, none⟩ _) h8 (by rw [h10]; exact (heap_setCell_same W q 0 _ _ _ hrow0).trans rfl) undef⟩
      · rw [h10] at hrow
        have hrow0 : W.heap[q]? = some (.cells #[.slice av nv cv, .int .i64 site, .int .i64 seq, .int .i64 n, .int .i64 s, .int .i64 y, .int .i64 z, u, .string (text kx), .int .i64 ix, .bool gx, .string (text vx)] 129 (0, 0)) := hrow
        obtain ⟨⟨p0, -⟩, pf⟩ := rd_any hrow0
        clear hrow
        go_wp2_with (fail)
        exact ⟨rfl, undef, rfl, hI.st13 (Only.set _ ⟨q, 0, none⟩ _) h8 (by rw [h10]; exact (heap_setCell_same W q 0 _ _ _ hrow0).trans rfl) undef⟩
  · intro L xs W hI hall
    have h10 := hall 10 (by decide)
    have h13 := hall 13 (by decide)
    have hrow := hI.row
    rw [h10, h13] at hrow
    have HT := Lib.hid hI.only
    have HR := Lib.hid (show W.heap[q]? = some (.cells #[(.slice a' (nv - kq) (cv - kq)), .int .i64 site, .int .i64 seq, .int .i64 n, .int .i64 s, .int .i64 y, .int .i64 z, u, .string (text kx), .int .i64 ix, .bool gx, .string (text vx)] 129 (0, 0)) from hrow)
    clear hI hall h10 h13 hrow
    simp only [flowAct, List.zipWith_cons_cons, List.zipWith_nil_left]
    go_wp2
    go_ret
    exact ⟨_, _, _, rfl, ⟨H1.out.base, H1.out.below.trans (HT.out.below H1.out.base H1.out.below.size), HBY.out, HR.out⟩, HO1.out.trans HT.out⟩
set_option maxRecDepth 100000 in
set_option maxHeartbeats 6400000 in
theorem tkKey_c {w0 w : World} {q : Nat} {av : Option Addr} {nv cv : Nat} {l : List UInt8} {site seq n s a b : Int} {u : Value} {kx : List UInt8} {ix : Int} {gx : Bool} {vx : List UInt8} (h : Rdr w0 w q av nv cv l site seq n s a b u kx ix gx vx) {gm : Nat} (hm : w.heap[gm]? = some (.cells #[.int .i64 32] 3 (0, 0))) (y : List UInt8) (k f : Int) (hg : textS l 32 = (y, k, f)) :
    Calls Tryd.prog 131 #[.pointer (some ⟨q, 0, none⟩), .pointer (some ⟨q, 8, none⟩), .func (.func 139) #[] #[.pointer (some ⟨gm, 0, none⟩)]] w (StepTo w0 w q (f == 0) (l.drop k.toNat) site seq n s a b u y ix gx vx) := by
  obtain ⟨kq, rfl, hkl⟩ := cnt_text hg
  rw [Int.toNat_natCast]
  have hnv := h.bytes.len
  have hle := h.bytes.le
  have hmx := h.bytes.max
  obtain ⟨a', hs1, hs2, hby⟩ := bys_from h.bytes (q := kq) (by omega)
  obtain ⟨cc, zc⟩ := rd_any h.row
  obtain ⟨c0, -⟩ := cc
  have HG := text1_c hm (h.bytes.below h.below) (by omega) (by omega)
  rw [hg] at HG
  have HGG := Lib.hid HG
  have HH := Lib.hid h
  have HBY := Lib.hid hby
  have hqk : kq ≤ nv := by omega
  clear hg HG h hby hnv zc hkl hm
  go_enter Tryd.func131, Tryd.ntmps131
  go_upto_region 2 with (go_at_call 139; (with_reducible refine HGG.out.mono ?_); rintro e9 w9 ⟨rfl, rfl⟩)
  refine wp_region_inv [none, none, none, none, none, none, none, none, none, none, none, none, none, none, none, none, none, none, none, none, some 0, some 1, some 2, some 3, some 4, some 5, some 6, some 7, some 8, some 9, some 11, some 12, none, none] (fun i => [undef, undef, undef, undef, undef, undef, undef, undef, undef, undef, undef, undef, undef, undef].getD i undef) (InvS q 129 (fun i => [.pointer (some ⟨q, 8, none⟩), .pointer (some ⟨q, 0, none⟩), .string (text y), .pointer (some ⟨q, 0, none⟩), .pointer (some ⟨q, 0, none⟩), .pointer (some ⟨q, 0, none⟩), .slice av nv cv, .int .i64 (kq : Int), (.slice a' (nv - kq) (cv - kq)), .pointer (some ⟨q, 8, none⟩), undef, .pointer (some ⟨q, 0, none⟩), .pointer (some ⟨q, 0, none⟩), undef].getD i undef) #[.slice av nv cv, .int .i64 site, .int .i64 seq, .int .i64 n, .int .i64 s, .int .i64 a, .int .i64 b, u, .string (text kx), .int .i64 ix, .bool gx, .string (text vx)] #[.slice av nv cv, .int .i64 site, .int .i64 seq, .int .i64 n, .int .i64 s, .int .i64 a, .int .i64 b, u, .string (text y), .int .i64 ix, .bool gx, .string (text vx)] #[(.slice a' (nv - kq) (cv - kq)), .int .i64 site, .int .i64 seq, .int .i64 n, .int .i64 s, .int .i64 a, .int .i64 b, u, .string (text kx), .int .i64 ix, .bool gx, .string (text vx)] #[(.slice a' (nv - kq) (cv - kq)), .int .i64 site, .int .i64 seq, .int .i64 n, .int .i64 s, .int .i64 a, .int .i64 b, u, .string (text y), .int .i64 ix, .bool gx, .string (text vx)] w) (by kernel_rfl) (by kernel_rfl) rfl rfl (fun L hL => InvS.start (fun i hi => hL i hi) HH.out.row) ?_ ?_
  · simp only [invOps, and_true]
    refine ⟨?_, ?_, ?_, ?_, ?_, ?_, ?_, ?_, ?_, ?_, ?_, ?_, ?_, ?_⟩
    · intro L xs W hI hL hn
      simp only [flowAct, List.zipWith_cons_cons, List.zipWith_nil_left]
      go_wp2_with (fail)
      exact ⟨rfl, _, rfl, hI.val 0 (by decide) (fun h => absurd h (by decide)) rfl⟩
    · intro L xs W hI hL hn
      simp only [flowAct, List.zipWith_cons_cons, List.zipWith_nil_left]
      go_wp2_with (fail)
      exact ⟨rfl, _, rfl, hI.val 1 (by decide) (fun h => absurd h (by decide)) rfl⟩
    · intro L xs W hI hL hn
      simp only [flowAct, List.zipWith_cons_cons, List.zipWith_nil_left]
      go_wp2_with (fail)
      exact ⟨rfl, _, rfl, hI.val 2 (by decide) (fun h => absurd h (by decide)) rfl⟩
    · intro L xs W hI hL hn
      simp only [flowAct, List.zipWith_cons_cons, List.zipWith_nil_left]
      go_wp2_with (fail)
      exact ⟨rfl, _, rfl, hI.val 3 (by decide) (fun h => absurd h (by decide)) rfl⟩
    · intro L xs W hI hL hn
      simp [invNeeds, Region.binds] at hn
      have e3 : xs 3 = .pointer (some ⟨q, 0, none⟩) := hI.at' 3 (by decide) (by simp only [hn]) (by decide) (by decide)
      simp only [flowAct, List.zipWith_cons_cons, List.zipWith_nil_left]
      simp only [e3]
      go_wp2_with (fail)
      exact ⟨rfl, _, rfl, hI.val 4 (by decide) (fun h => absurd h (by decide)) rfl⟩
    · intro L xs W hI hL hn
      simp [invNeeds, Region.binds] at hn
      have e4 : xs 4 = .pointer (some ⟨q, 0, none⟩) := hI.at' 4 (by decide) (by simp only [hn]) (by decide) (by decide)
      simp only [flowAct, List.zipWith_cons_cons, List.zipWith_nil_left]
      simp only [e4]
      go_wp2_with (fail)
      exact ⟨rfl, _, rfl, hI.val 5 (by decide) (fun h => absurd h (by decide)) rfl⟩
    · intro L xs W hI hL hn
      simp [invNeeds, Region.binds] at hn
      have e5 : xs 5 = .pointer (some ⟨q, 0, none⟩) := hI.at' 5 (by decide) (by simp only [hn]) (by decide) (by decide)
      have h13 := hI.no13 hL
      simp only [flowAct, List.zipWith_cons_cons, List.zipWith_nil_left]
      simp only [e5]
      have hrow := hI.row
      rw [h13] at hrow
      cases h10 : L 10
      · rw [h10] at hrow
        obtain ⟨⟨p0, -⟩, pf⟩ := rd_any (show W.heap[q]? = some (.cells #[.slice av nv cv, .int .i64 site, .int .i64 seq, .int .i64 n, .int .i64 s, .int .i64 a, .int .i64 b, u, .string (text kx), .int .i64 ix, .bool gx, .string (text vx)] 129 (0, 0)) from hrow)
        clear hrow
        go_wp2_with (fail)
        exact ⟨rfl, _, rfl, hI.val 6 (by decide) (fun h => absurd h (by decide)) rfl⟩
      · rw [h10] at hrow
        obtain ⟨⟨p0, -⟩, pf⟩ := rd_any (show W.heap[q]? = some (.cells #[.slice av nv cv, .int .i64 site, .int .i64 seq, .int .i64 n, .int .i64 s, .int .i64 a, .int .i64 b, u, .string (text y), .int .i64 ix, .bool gx, .string (text vx)] 129 (0, 0)) from hrow)
        clear hrow
        go_wp2_with (fail)
        exact ⟨rfl, _, rfl, hI.val 6 (by decide) (fun h => absurd h (by decide)) rfl⟩
    · intro L xs W hI hL hn
      simp only [flowAct, List.zipWith_cons_cons, List.zipWith_nil_left]
      go_wp2_with (fail)
      exact ⟨rfl, _, rfl, hI.val 7 (by decide) (fun h => absurd h (by decide)) rfl⟩
    · intro L xs W hI hL hn
      simp [invNeeds, Region.binds] at hn
      have e6 : xs 6 = .slice av nv cv := hI.at' 6 (by decide) (by simp only [hn]) (by decide) (by decide)
      have e7 : xs 7 = .int .i64 (kq : Int) := hI.at' 7 (by decide) (by simp only [hn]) (by decide) (by decide)
      simp only [flowAct, List.zipWith_cons_cons, List.zipWith_nil_left]
      simp only [e6, e7]
      go_wp2_with (fail)
      exact ⟨rfl, _, rfl, hI.val 8 (by decide) (fun _ => by simp only [hn]) rfl⟩
    · intro L xs W hI hL hn
      simp [invNeeds, Region.binds] at hn
      have e0 : xs 0 = .pointer (some ⟨q, 8, none⟩) := hI.at' 0 (by decide) (by simp only [hn]) (by decide) (by decide)
      simp only [flowAct, List.zipWith_cons_cons, List.zipWith_nil_left]
      simp only [e0]
      go_wp2_with (fail)
      exact ⟨rfl, _, rfl, hI.val 9 (by decide) (fun h => absurd h (by decide)) rfl⟩
    · intro L xs W hI hL hn
      simp [invNeeds, Region.binds] at hn
      have e2 : xs 2 = .string (text y) := hI.at' 2 (by decide) (by simp only [hn]) (by decide) (by decide)
      have e9 : xs 9 = .pointer (some ⟨q, 8, none⟩) := hI.at' 9 (by decide) (by simp only [hn]) (by decide) (by decide)
      simp only [flowAct, List.zipWith_cons_cons, List.zipWith_nil_left]
      simp only [e2, e9]
      have hrow := hI.row
      rw [hL] at hrow
      cases h13 : L 13
      · rw [h13] at hrow
        have hrow0 : W.heap[q]? = some (.cells #[.slice av nv cv, .int .i64 site, .int .i64 seq, .int .i64 n, .int .i64 s, .int .i64 a, .int .i64 b, u, .string (text kx), .int .i64 ix, .bool gx, .string (text vx)] 129 (0, 0)) := hrow
        obtain ⟨⟨-, -, -, -, -, -, -, -, p8, -, -, -⟩, pf⟩ := rd_any hrow0
        clear hrow
        go_wp2_with (fail)
        exact ⟨rfl, undef, rfl, hI.st10 (Only.set _ ⟨q, 8, none⟩ _) (by rw [h13]; exact (heap_setCell_same W q 8 _ _ _ hrow0).trans rfl) undef⟩
      · rw [h13] at hrow
        have hrow0 : W.heap[q]? = some (.cells #[(.slice a' (nv - kq) (cv - kq)), .int .i64 site, .int .i64 seq, .int .i64 n, .int .i64 s, .int .i64 a, .int .i64 b, u, .string (text kx), .int .i64 ix, .bool gx, .string (text vx)] 129 (0, 0)) := hrow
        obtain ⟨⟨-, -, -, -, -, -, -, -, p8, -, -, -⟩, pf⟩ := rd_any hrow0
        clear hrow
        go_wp2_with (fail)
        exact ⟨rfl, undef, rfl, hI.st10 (Only.set _ ⟨q, 8, none⟩ _) (by rw [h13]; exact (heap_setCell_same W q 8 _ _ _ hrow0).trans rfl) undef⟩
    · intro L xs W hI hL hn
      simp [invNeeds, Region.binds] at hn
      have e1 : xs 1 = .pointer (some ⟨q, 0, none⟩) := hI.at' 1 (by decide) (by simp only [hn]) (by decide) (by decide)
      simp only [flowAct, List.zipWith_cons_cons, List.zipWith_nil_left]
      simp only [e1]
      go_wp2_with (fail)
      exact ⟨rfl, _, rfl, hI.val 11 (by decide) (fun h => absurd h (by decide)) rfl⟩
    · intro L xs W hI hL hn
      simp [invNeeds, Region.binds] at hn
      have e11 : xs 11 = .pointer (some ⟨q, 0, none⟩) := hI.at' 11 (by decide) (by simp only [hn]) (by decide) (by decide)
      simp only [flowAct, List.zipWith_cons_cons, List.zipWith_nil_left]
      simp only [e11]
      go_wp2_with (fail)
      exact ⟨rfl, _, rfl, hI.val 12 (by decide) (fun h => absurd h (by decide)) rfl⟩
    · intro L xs W hI hL hn
      simp [invNeeds, Region.binds] at hn
      have e8 : xs 8 = (.slice a' (nv - kq) (cv - kq)) := hI.at' 8 (by decide) (by simp only [hn]) (by decide) (by decide)
      have e12 : xs 12 = .pointer (some ⟨q, 0, none⟩) := hI.at' 12 (by decide) (by simp only [hn]) (by decide) (by decide)
      simp only [flowAct, List.zipWith_cons_cons, List.zipWith_nil_left]
      simp only [e8, e12]
      have hrow := hI.row
      rw [hL] at hrow
      have h8 : L 8 = true := by simp only [hn]
      cases h10 : L 10
      · rw [h10] at hrow
        have hrow0 : W.heap[q]? = some (.cells #[.slice av nv cv, .int .i64 site, .int .i64 seq, .int .i64 n, .int .i64 s, .int .i64 a, .int .i64 b, u, .string (text kx), .int .i64 ix, .bool gx, .string (text vx)] 129 (0, 0)) := hrow
        obtain ⟨⟨p0, -⟩, pf⟩ := rd_any hrow0
        clear hrow
        go_wp2_with (fail)
        exact ⟨rfl, undef, rfl, hI.st13 (Only.set _ ⟨q, 0, none⟩ _) h8 (by rw [h10]; exact (heap_setCell_same W q 0 _ _ _ hrow0).trans rfl) undef⟩
      · rw [h10] at hrow
        have hrow0 : W.heap[q]? = some (.cells #[.slice av nv cv, .int .i64 site, .int .i64 seq, .int .i64 n, .int .i64 s, .int .i64 a, .int .i64 b, u, .string (text y), .int .i64 ix, .bool gx, .string (text vx)] 129 (0, 0)) := hrow
        obtain ⟨⟨p0, -⟩, pf⟩ := rd_any hrow0
        clear hrow
        go_wp2_with (fail)
        exact ⟨rfl, undef, rfl, hI.st13 (Only.set _ ⟨q, 0, none⟩ _) h8 (by rw [h10]; exact (heap_setCell_same W q 0 _ _ _ hrow0).trans rfl) undef⟩
  · intro L xs W hI hall
    have h10 := hall 10 (by decide)
    have h13 := hall 13 (by decide)
    have hrow := hI.row
    rw [h10, h13] at hrow
    have HT := Lib.hid hI.only
    have HR := Lib.hid (show W.heap[q]? = some (.cells #[(.slice a' (nv - kq) (cv - kq)), .int .i64 site, .int .i64 seq, .int .i64 n, .int .i64 s, .int .i64 a, .int .i64 b, u, .string (text y), .int .i64 ix, .bool gx, .string (text vx)] 129 (0, 0)) from hrow)
    clear hI hall h10 h13 hrow
    simp only [flowAct, List.zipWith_cons_cons, List.zipWith_nil_left]
    go_wp2
    go_ret
    exact ⟨_, _, _, rfl, ⟨HH.out.base, HH.out.below.trans (HT.out.below HH.out.base HH.out.below.size), HBY.out, HR.out⟩, HT.out⟩
set_option maxRecDepth 100000 in
set_option maxHeartbeats 6400000 in
theorem tkValue_c {w0 w : World} {q : Nat} {av : Option Addr} {nv cv : Nat} {l : List UInt8} {site seq n s a b : Int} {u : Value} {kx : List UInt8} {ix : Int} {gx : Bool} {vx : List UInt8} (h : Rdr w0 w q av nv cv l site seq n s a b u kx ix gx vx) {gm : Nat} (hm : w.heap[gm]? = some (.cells #[.int .i64 64] 3 (0, 0))) (y : List UInt8) (k f : Int) (hg : textS l 64 = (y, k, f)) :
    Calls Tryd.prog 131 #[.pointer (some ⟨q, 0, none⟩), .pointer (some ⟨q, 11, none⟩), .func (.func 139) #[] #[.pointer (some ⟨gm, 0, none⟩)]] w (StepTo w0 w q (f == 0) (l.drop k.toNat) site seq n s a b u kx ix gx y) := by
  obtain ⟨kq, rfl, hkl⟩ := cnt_text hg
  rw [Int.toNat_natCast]
  have hnv := h.bytes.len
  have hle := h.bytes.le
  have hmx := h.bytes.max
  obtain ⟨a', hs1, hs2, hby⟩ := bys_from h.bytes (q := kq) (by omega)
  obtain ⟨cc, zc⟩ := rd_any h.row
  obtain ⟨c0, -⟩ := cc
  have HG := text1_c hm (h.bytes.below h.below) (by omega) (by omega)
  rw [hg] at HG
  have HGG := Lib.hid HG
  have HH := Lib.hid h
  have HBY := Lib.hid hby
  have hqk : kq ≤ nv := by omega
  clear hg HG h hby hnv zc hkl hm
  go_enter Tryd.func131, Tryd.ntmps131
  go_upto_region 2 with (go_at_call 139; (with_reducible refine HGG.out.mono ?_); rintro e9 w9 ⟨rfl, rfl⟩)
  refine wp_region_inv [none, none, none, none, none, none, none, none, none, none, none, none, none, none, none, none, none, none, none, none, some 0, some 1, some 2, some 3, some 4, some 5, some 6, some 7, some 8, some 9, some 11, some 12, none, none] (fun i => [undef, undef, undef, undef, undef, undef, undef, undef, undef, undef, undef, undef, undef, undef].getD i undef) (InvS q 129 (fun i => [.pointer (some ⟨q, 11, none⟩), .pointer (some ⟨q, 0, none⟩), .string (text y), .pointer (some ⟨q, 0, none⟩), .pointer (some ⟨q, 0, none⟩), .pointer (some ⟨q, 0, none⟩), .slice av nv cv, .int .i64 (kq : Int), (.slice a' (nv - kq) (cv - kq)), .pointer (some ⟨q, 11, none⟩), undef, .pointer (some ⟨q, 0, none⟩), .pointer (some ⟨q, 0, none⟩), undef].getD i undef) #[.slice av nv cv, .int .i64 site, .int .i64 seq, .int .i64 n, .int .i64 s, .int .i64 a, .int .i64 b, u, .string (text kx), .int .i64 ix, .bool gx, .string (text vx)] #[.slice av nv cv, .int .i64 site, .int .i64 seq, .int .i64 n, .int .i64 s, .int .i64 a, .int .i64 b, u, .string (text kx), .int .i64 ix, .bool gx, .string (text y)] #[(.slice a' (nv - kq) (cv - kq)), .int .i64 site, .int .i64 seq, .int .i64 n, .int .i64 s, .int .i64 a, .int .i64 b, u, .string (text kx), .int .i64 ix, .bool gx, .string (text vx)] #[(.slice a' (nv - kq) (cv - kq)), .int .i64 site, .int .i64 seq, .int .i64 n, .int .i64 s, .int .i64 a, .int .i64 b, u, .string (text kx), .int .i64 ix, .bool gx, .string (text y)] w) (by kernel_rfl) (by kernel_rfl) rfl rfl (fun L hL => InvS.start (fun i hi => hL i hi) HH.out.row) ?_ ?_
  · simp only [invOps, and_true]
    refine ⟨?_, ?_, ?_, ?_, ?_, ?_, ?_, ?_, ?_, ?_, ?_, ?_, ?_, ?_⟩
    · intro L xs W hI hL hn
      simp only [flowAct, List.zipWith_cons_cons, List.zipWith_nil_left]
      go_wp2_with (fail)
      exact ⟨rfl, _, rfl, hI.val 0 (by decide) (fun h => absurd h (by decide)) rfl⟩
    · intro L xs W hI hL hn
      simp only [flowAct, List.zipWith_cons_cons, List.zipWith_nil_left]
      go_wp2_with (fail)
      exact ⟨rfl, _, rfl, hI.val 1 (by decide) (fun h => absurd h (by decide)) rfl⟩
    · intro L xs W hI hL hn
      simp only [flowAct, List.zipWith_cons_cons, List.zipWith_nil_left]
      go_wp2_with (fail)
      exact ⟨rfl, _, rfl, hI.val 2 (by decide) (fun h => absurd h (by decide)) rfl⟩
    · intro L xs W hI hL hn
      simp only [flowAct, List.zipWith_cons_cons, List.zipWith_nil_left]
      go_wp2_with (fail)
      exact ⟨rfl, _, rfl, hI.val 3 (by decide) (fun h => absurd h (by decide)) rfl⟩
    · intro L xs W hI hL hn
      simp [invNeeds, Region.binds] at hn
      have e3 : xs 3 = .pointer (some ⟨q, 0, none⟩) := hI.at' 3 (by decide) (by simp only [hn]) (by decide) (by decide)
      simp only [flowAct, List.zipWith_cons_cons, List.zipWith_nil_left]
      simp only [e3]
      go_wp2_with (fail)
      exact ⟨rfl, _, rfl, hI.val 4 (by decide) (fun h => absurd h (by decide)) rfl⟩
    · intro L xs W hI hL hn
      simp [invNeeds, Region.binds] at hn
      have e4 : xs 4 = .pointer (some ⟨q, 0, none⟩) := hI.at' 4 (by decide) (by simp only [hn]) (by decide) (by decide)
      simp only [flowAct, List.zipWith_cons_cons, List.zipWith_nil_left]
      simp only [e4]
      go_wp2_with (fail)
      exact ⟨rfl, _, rfl, hI.val 5 (by decide) (fun h => absurd h (by decide)) rfl⟩
    · intro L xs W hI hL hn
      simp [invNeeds, Region.binds] at hn
      have e5 : xs 5 = .pointer (some ⟨q, 0, none⟩) := hI.at' 5 (by decide) (by simp only [hn]) (by decide) (by decide)
      have h13 := hI.no13 hL
      simp only [flowAct, List.zipWith_cons_cons, List.zipWith_nil_left]
      simp only [e5]
      have hrow := hI.row
      rw [h13] at hrow
      cases h10 : L 10
      · rw [h10] at hrow
        obtain ⟨⟨p0, -⟩, pf⟩ := rd_any (show W.heap[q]? = some (.cells #[.slice av nv cv, .int .i64 site, .int .i64 seq, .int .i64 n, .int .i64 s, .int .i64 a, .int .i64 b, u, .string (text kx), .int .i64 ix, .bool gx, .string (text vx)] 129 (0, 0)) from hrow)
        clear hrow
        go_wp2_with (fail)
        exact ⟨rfl, _, rfl, hI.val 6 (by decide) (fun h => absurd h (by decide)) rfl⟩
      · rw [h10] at hrow
        obtain ⟨⟨p0, -⟩, pf⟩ := rd_any (show W.heap[q]? = some (.cells #[.slice av nv cv, .int .i64 site, .int .i64 seq, .int .i64 n, .int .i64 s, .int .i64 a, .int .i64 b, u, .string (text kx), .int .i64 ix, .bool gx, .string (text y)] 129 (0, 0)) from hrow)
        clear hrow
        go_wp2_with (fail)
        exact ⟨rfl, _, rfl, hI.val 6 (by decide) (fun h => absurd h (by decide)) rfl⟩
    · intro L xs W hI hL hn
      simp only [flowAct, List.zipWith_cons_cons, List.zipWith_nil_left]
      go_wp2_with (fail)
      exact ⟨rfl, _, rfl, hI.val 7 (by decide) (fun h => absurd h (by decide)) rfl⟩
    · intro L xs W hI hL hn
      simp [invNeeds, Region.binds] at hn
      have e6 : xs 6 = .slice av nv cv := hI.at' 6 (by decide) (by simp only [hn]) (by decide) (by decide)
      have e7 : xs 7 = .int .i64 (kq : Int) := hI.at' 7 (by decide) (by simp only [hn]) (by decide) (by decide)
      simp only [flowAct, List.zipWith_cons_cons, List.zipWith_nil_left]
      simp only [e6, e7]
      go_wp2_with (fail)
      exact ⟨rfl, _, rfl, hI.val 8 (by decide) (fun _ => by simp only [hn]) rfl⟩
    · intro L xs W hI hL hn
      simp [invNeeds, Region.binds] at hn
      have e0 : xs 0 = .pointer (some ⟨q, 11, none⟩) := hI.at' 0 (by decide) (by simp only [hn]) (by decide) (by decide)
      simp only [flowAct, List.zipWith_cons_cons, List.zipWith_nil_left]
      simp only [e0]
      go_wp2_with (fail)
      exact ⟨rfl, _, rfl, hI.val 9 (by decide) (fun h => absurd h (by decide)) rfl⟩
    · intro L xs W hI hL hn
      simp [invNeeds, Region.binds] at hn
      have e2 : xs 2 = .string (text y) := hI.at' 2 (by decide) (by simp only [hn]) (by decide) (by decide)
      have e9 : xs 9 = .pointer (some ⟨q, 11, none⟩) := hI.at' 9 (by decide) (by simp only [hn]) (by decide) (by decide)
      simp only [flowAct, List.zipWith_cons_cons, List.zipWith_nil_left]
      simp only [e2, e9]
      have hrow := hI.row
      rw [hL] at hrow
      cases h13 : L 13
      · rw [h13] at hrow
        have hrow0 : W.heap[q]? = some (.cells #[.slice av nv cv, .int .i64 site, .int .i64 seq, .int .i64 n, .int .i64 s, .int .i64 a, .int .i64 b, u, .string (text kx), .int .i64 ix, .bool gx, .string (text vx)] 129 (0, 0)) := hrow
        obtain ⟨⟨-, -, -, -, -, -, -, -, -, -, -, p11⟩, pf⟩ := rd_any hrow0
        clear hrow
        go_wp2_with (fail)
        exact ⟨rfl, undef, rfl, hI.st10 (Only.set _ ⟨q, 11, none⟩ _) (by rw [h13]; exact (heap_setCell_same W q 11 _ _ _ hrow0).trans rfl) undef⟩
      · rw [h13] at hrow
        have hrow0 : W.heap[q]? = some (.cells #[(.slice a' (nv - kq) (cv - kq)), .int .i64 site, .int .i64 seq, .int .i64 n, .int .i64 s, .int .i64 a, .int .i64 b, u, .string (text kx), .int .i64 ix, .bool gx, .string (text vx)] 129 (0, 0)) := hrow
        obtain ⟨⟨-, -, -, -, -, -, -, -, -, -, -, p11⟩, pf⟩ := rd_any hrow0
        clear hrow
        go_wp2_with (fail)
        exact ⟨rfl, undef, rfl, hI.st10 (Only.set _ ⟨q, 11, none⟩ _) (by rw [h13]; exact (heap_setCell_same W q 11 _ _ _ hrow0).trans rfl) undef⟩
    · intro L xs W hI hL hn
      simp [invNeeds, Region.binds] at hn
      have e1 : xs 1 = .pointer (some ⟨q, 0, none⟩) := hI.at' 1 (by decide) (by simp only [hn]) (by decide) (by decide)
      simp only [flowAct, List.zipWith_cons_cons, List.zipWith_nil_left]
      simp only [e1]
      go_wp2_with (fail)
      exact ⟨rfl, _, rfl, hI.val 11 (by decide) (fun h => absurd h (by decide)) rfl⟩
    · intro L xs W hI hL hn
      simp [invNeeds, Region.binds] at hn
      have e11 : xs 11 = .pointer (some ⟨q, 0, none⟩) := hI.at' 11 (by decide) (by simp only [hn]) (by decide) (by decide)
      simp only [flowAct, List.zipWith_cons_cons, List.zipWith_nil_left]
      simp only [e11]
      go_wp2_with (fail)
      exact ⟨rfl, _, rfl, hI.val 12 (by decide) (fun h => absurd h (by decide)) rfl⟩
    · intro L xs W hI hL hn
      simp [invNeeds, Region.binds] at hn
      have e8 : xs 8 = (.slice a' (nv - kq) (cv - kq)) := hI.at' 8 (by decide) (by simp only [hn]) (by decide) (by decide)
      have e12 : xs 12 = .pointer (some ⟨q, 0, none⟩) := hI.at' 12 (by decide) (by simp only [hn]) (by decide) (by decide)
      simp only [flowAct, List.zipWith_cons_cons, List.zipWith_nil_left]
      simp only [e8, e12]
      have hrow := hI.row
      rw [hL] at hrow
      have h8 : L 8 = true := by simp only [hn]
      cases h10 : L 10
      · rw [h10] at hrow
        have hrow0 : W.heap[q]? = some (.cells #[.slice av nv cv, .int .i64 site, .int .i64 seq, .int .i64 n, .int .i64 s, .int .i64 a, .int .i64 b, u, .string (text kx), .int .i64 ix, .bool gx, .string (text vx)] 129 (0, 0)) := hrow
        obtain ⟨⟨p0, -⟩, pf⟩ := rd_any hrow0
        clear hrow
        go_wp2_with (fail)
        exact ⟨rfl, undef, rfl, hI.st13 (Only.set _ ⟨q, 0, none⟩ _) h8 (by rw [h10]; exact (heap_setCell_same W q 0 _ _ _ hrow0).trans rfl) undef⟩
      · rw [h10] at hrow
        have hrow0 : W.heap[q]? = some (.cells #[.slice av nv cv, .int .i64 site, .int .i64 seq, .int .i64 n, .int .i64 s, .int .i64 a, .int .i64 b, u, .string (text kx), .int .i64 ix, .bool gx, .string (text y)] 129 (0, 0)) := hrow
        obtain ⟨⟨p0, -⟩, pf⟩ := rd_any hrow0
        clear hrow
        go_wp2_with (fail)
        exact ⟨rfl, undef, rfl, hI.st13 (Only.set _ ⟨q, 0, none⟩ _) h8 (by rw [h10]; exact (heap_setCell_same W q 0 _ _ _ hrow0).trans rfl) undef⟩
  · intro L xs W hI hall
    have h10 := hall 10 (by decide)
    have h13 := hall 13 (by decide)
    have hrow := hI.row
    rw [h10, h13] at hrow
    have HT := Lib.hid hI.only
    have HR := Lib.hid (show W.heap[q]? = some (.cells #[(.slice a' (nv - kq) (cv - kq)), .int .i64 site, .int .i64 seq, .int .i64 n, .int .i64 s, .int .i64 a, .int .i64 b, u, .string (text kx), .int .i64 ix, .bool gx, .string (text y)] 129 (0, 0)) from hrow)
    clear hI hall h10 h13 hrow
    simp only [flowAct, List.zipWith_cons_cons, List.zipWith_nil_left]
    go_wp2
    go_ret
    exact ⟨_, _, _, rfl, ⟨HH.out.base, HH.out.below.trans (HT.out.below HH.out.base HH.out.below.size), HBY.out, HR.out⟩, HT.out⟩
set_option maxRecDepth 100000 in
set_option maxHeartbeats 6400000 in
theorem tkN_c {w0 w : World} {q : Nat} {av : Option Addr} {nv cv : Nat} {l : List UInt8} {site seq n s a b : Int} {u : Value} {kx : List UInt8} {ix : Int} {gx : Bool} {vx : List UInt8} (h : Rdr w0 w q av nv cv l site seq n s a b u kx ix gx vx) {g : Nat} {x0 : Value} (hgb : w.heap[g]? = some (.cells #[x0] 3 (0, 0))) (hqg : q ≠ g) (y k f : Int) (hg : getS l = (y, k, f)) (hgB : w0.heap.size ≤ g) :
    Calls Tryd.prog 106 #[.pointer (some ⟨q, 0, none⟩), .pointer (some ⟨g, 0, none⟩), .func (.func 107) #[] #[]] w (StepN w0 w q g (f == 0) y (l.drop k.toNat) site seq n s a b u kx ix gx vx) := by
  obtain ⟨kq, rfl, hkl⟩ := cnt_get hg
  rw [Int.toNat_natCast]
  have hnv := h.bytes.len
  have hle := h.bytes.le
  have hmx := h.bytes.max
  obtain ⟨a', hs1, hs2, hby⟩ := bys_from h.bytes (q := kq) (by omega)
  obtain ⟨cc, zc⟩ := rd_any h.row
  obtain ⟨c0, -⟩ := cc
  have HG := get_c (h.bytes.below h.below)
  rw [hg] at HG
  have HGG := Lib.hid HG
  have HH := Lib.hid h
  have HBY := Lib.hid hby
  have hqk : kq ≤ nv := by omega
  clear hg HG h hby hnv zc hkl
  have HGB := Lib.hid hgb
  have HNE := Lib.hid hqg
  clear hgb hqg
  go_enter Tryd.func106, Tryd.ntmps106
  go_upto_region 2 with (go_at_call 107; (with_reducible refine HGG.out.mono ?_); rintro e9 w9 ⟨rfl, rfl⟩)
  refine wp_region_inv [none, none, none, none, none, none, none, none, none, none, none, none, none, none, none, none, none, none, none, none, some 0, some 1, some 2, some 3, some 4, some 5, some 6, some 7, some 8, some 9, some 11, some 12, none, none] (fun i => [undef, undef, undef, undef, undef, undef, undef, undef, undef, undef, undef, undef, undef, undef].getD i undef) (InvN q g 129 (fun i => [.pointer (some ⟨g, 0, none⟩), .pointer (some ⟨q, 0, none⟩), .int .i64 y, .pointer (some ⟨q, 0, none⟩), .pointer (some ⟨q, 0, none⟩), .pointer (some ⟨q, 0, none⟩), .slice av nv cv, .int .i64 (kq : Int), (.slice a' (nv - kq) (cv - kq)), .pointer (some ⟨g, 0, none⟩), undef, .pointer (some ⟨q, 0, none⟩), .pointer (some ⟨q, 0, none⟩), undef].getD i undef) #[.slice av nv cv, .int .i64 site, .int .i64 seq, .int .i64 n, .int .i64 s, .int .i64 a, .int .i64 b, u, .string (text kx), .int .i64 ix, .bool gx, .string (text vx)] #[(.slice a' (nv - kq) (cv - kq)), .int .i64 site, .int .i64 seq, .int .i64 n, .int .i64 s, .int .i64 a, .int .i64 b, u, .string (text kx), .int .i64 ix, .bool gx, .string (text vx)] x0 (.int .i64 y) w) (by kernel_rfl) (by kernel_rfl) rfl rfl (fun L hL => InvN.start (fun i hi => hL i hi) HH.out.row HGB.out) ?_ ?_
  · simp only [invOps, and_true]
    refine ⟨?_, ?_, ?_, ?_, ?_, ?_, ?_, ?_, ?_, ?_, ?_, ?_, ?_, ?_⟩
    · intro L xs W hI hL hn
      simp only [flowAct, List.zipWith_cons_cons, List.zipWith_nil_left]
      go_wp2_with (fail)
      exact ⟨rfl, _, rfl, hI.val 0 (by decide) (fun h => absurd h (by decide)) rfl⟩
    · intro L xs W hI hL hn
      simp only [flowAct, List.zipWith_cons_cons, List.zipWith_nil_left]
      go_wp2_with (fail)
      exact ⟨rfl, _, rfl, hI.val 1 (by decide) (fun h => absurd h (by decide)) rfl⟩
    · intro L xs W hI hL hn
      simp only [flowAct, List.zipWith_cons_cons, List.zipWith_nil_left]
      go_wp2_with (fail)
      exact ⟨rfl, _, rfl, hI.val 2 (by decide) (fun h => absurd h (by decide)) rfl⟩
    · intro L xs W hI hL hn
      simp only [flowAct, List.zipWith_cons_cons, List.zipWith_nil_left]
      go_wp2_with (fail)
      exact ⟨rfl, _, rfl, hI.val 3 (by decide) (fun h => absurd h (by decide)) rfl⟩
    · intro L xs W hI hL hn
      simp [invNeeds, Region.binds] at hn
      have e3 : xs 3 = .pointer (some ⟨q, 0, none⟩) := hI.at' 3 (by decide) (by simp only [hn]) (by decide) (by decide)
      simp only [flowAct, List.zipWith_cons_cons, List.zipWith_nil_left]
      simp only [e3]
      go_wp2_with (fail)
      exact ⟨rfl, _, rfl, hI.val 4 (by decide) (fun h => absurd h (by decide)) rfl⟩
    · intro L xs W hI hL hn
      simp [invNeeds, Region.binds] at hn
      have e4 : xs 4 = .pointer (some ⟨q, 0, none⟩) := hI.at' 4 (by decide) (by simp only [hn]) (by decide) (by decide)
      simp only [flowAct, List.zipWith_cons_cons, List.zipWith_nil_left]
      simp only [e4]
      go_wp2_with (fail)
      exact ⟨rfl, _, rfl, hI.val 5 (by decide) (fun h => absurd h (by decide)) rfl⟩
    · intro L xs W hI hL hn
      simp [invNeeds, Region.binds] at hn
      have e5 : xs 5 = .pointer (some ⟨q, 0, none⟩) := hI.at' 5 (by decide) (by simp only [hn]) (by decide) (by decide)
      have h13 := hI.no13 hL
      simp only [flowAct, List.zipWith_cons_cons, List.zipWith_nil_left]
      simp only [e5]
      have hrow := hI.row
      have hbox := hI.box
      rw [h13] at hrow
      obtain ⟨⟨p0, -⟩, pf⟩ := rd_any (show W.heap[q]? = some (.cells #[.slice av nv cv, .int .i64 site, .int .i64 seq, .int .i64 n, .int .i64 s, .int .i64 a, .int .i64 b, u, .string (text kx), .int .i64 ix, .bool gx, .string (text vx)] 129 (0, 0)) from hrow)
      clear hrow hbox
      go_wp2_with (fail)
      exact ⟨rfl, _, rfl, hI.val 6 (by decide) (fun h => absurd h (by decide)) rfl⟩
    · intro L xs W hI hL hn
      simp only [flowAct, List.zipWith_cons_cons, List.zipWith_nil_left]
      go_wp2_with (fail)
      exact ⟨rfl, _, rfl, hI.val 7 (by decide) (fun h => absurd h (by decide)) rfl⟩
    · intro L xs W hI hL hn
      simp [invNeeds, Region.binds] at hn
      have e6 : xs 6 = .slice av nv cv := hI.at' 6 (by decide) (by simp only [hn]) (by decide) (by decide)
      have e7 : xs 7 = .int .i64 (kq : Int) := hI.at' 7 (by decide) (by simp only [hn]) (by decide) (by decide)
      simp only [flowAct, List.zipWith_cons_cons, List.zipWith_nil_left]
      simp only [e6, e7]
      go_wp2_with (fail)
      exact ⟨rfl, _, rfl, hI.val 8 (by decide) (fun _ => by simp only [hn]) rfl⟩
    · intro L xs W hI hL hn
      simp [invNeeds, Region.binds] at hn
      have e0 : xs 0 = .pointer (some ⟨g, 0, none⟩) := hI.at' 0 (by decide) (by simp only [hn]) (by decide) (by decide)
      simp only [flowAct, List.zipWith_cons_cons, List.zipWith_nil_left]
      simp only [e0]
      go_wp2_with (fail)
      exact ⟨rfl, _, rfl, hI.val 9 (by decide) (fun h => absurd h (by decide)) rfl⟩
    · intro L xs W hI hL hn
      simp [invNeeds, Region.binds] at hn
      have e2 : xs 2 = .int .i64 y := hI.at' 2 (by decide) (by simp only [hn]) (by decide) (by decide)
      have e9 : xs 9 = .pointer (some ⟨g, 0, none⟩) := hI.at' 9 (by decide) (by simp only [hn]) (by decide) (by decide)
      simp only [flowAct, List.zipWith_cons_cons, List.zipWith_nil_left]
      simp only [e2, e9]
      have hrow := hI.row
      have hbox := hI.box
      rw [hL] at hbox
      have hbox0 : W.heap[g]? = some (.cells #[x0] 3 (0, 0)) := hbox
      have p0 := one_cell hbox0
      have pf := frozen_of_row W g 0 _ _ hbox0
      clear hrow hbox
      go_wp2_with (fail)
      exact ⟨rfl, undef, rfl, hI.st10 (Two.set2 _ _ _ _ _) (heap_setCell_other W ⟨g, 0, none⟩ q _ HNE.out) ((heap_setCell_same W g 0 _ _ _ hbox0).trans rfl) undef⟩
    · intro L xs W hI hL hn
      simp [invNeeds, Region.binds] at hn
      have e1 : xs 1 = .pointer (some ⟨q, 0, none⟩) := hI.at' 1 (by decide) (by simp only [hn]) (by decide) (by decide)
      simp only [flowAct, List.zipWith_cons_cons, List.zipWith_nil_left]
      simp only [e1]
      go_wp2_with (fail)
      exact ⟨rfl, _, rfl, hI.val 11 (by decide) (fun h => absurd h (by decide)) rfl⟩
    · intro L xs W hI hL hn
      simp [invNeeds, Region.binds] at hn
      have e11 : xs 11 = .pointer (some ⟨q, 0, none⟩) := hI.at' 11 (by decide) (by simp only [hn]) (by decide) (by decide)
      simp only [flowAct, List.zipWith_cons_cons, List.zipWith_nil_left]
      simp only [e11]
      go_wp2_with (fail)
      exact ⟨rfl, _, rfl, hI.val 12 (by decide) (fun h => absurd h (by decide)) rfl⟩
    · intro L xs W hI hL hn
      simp [invNeeds, Region.binds] at hn
      have e8 : xs 8 = (.slice a' (nv - kq) (cv - kq)) := hI.at' 8 (by decide) (by simp only [hn]) (by decide) (by decide)
      have e12 : xs 12 = .pointer (some ⟨q, 0, none⟩) := hI.at' 12 (by decide) (by simp only [hn]) (by decide) (by decide)
      simp only [flowAct, List.zipWith_cons_cons, List.zipWith_nil_left]
      simp only [e8, e12]
      have hrow := hI.row
      have hbox := hI.box
      rw [hL] at hrow
      have hrow0 : W.heap[q]? = some (.cells #[.slice av nv cv, .int .i64 site, .int .i64 seq, .int .i64 n, .int .i64 s, .int .i64 a, .int .i64 b, u, .string (text kx), .int .i64 ix, .bool gx, .string (text vx)] 129 (0, 0)) := hrow
      obtain ⟨⟨p0, -⟩, pf⟩ := rd_any hrow0
      clear hrow hbox
      have h8 : L 8 = true := by simp only [hn]
      go_wp2_with (fail)
      exact ⟨rfl, undef, rfl, hI.st13 (Two.set1 _ _ _ _ _) h8 ((heap_setCell_same W q 0 _ _ _ hrow0).trans rfl) (heap_setCell_other W ⟨q, 0, none⟩ g _ (Ne.symm HNE.out)) undef⟩
  · intro L xs W hI hall
    have h10 := hall 10 (by decide)
    have h13 := hall 13 (by decide)
    have hrow := hI.row
    rw [h13] at hrow
    have hbox := hI.box
    rw [h10] at hbox
    have HT := Lib.hid hI.two
    have HX := Lib.hid (show W.heap[g]? = some (.cells #[.int .i64 y] 3 (0, 0)) from hbox)
    clear hbox
    have HR := Lib.hid (show W.heap[q]? = some (.cells #[(.slice a' (nv - kq) (cv - kq)), .int .i64 site, .int .i64 seq, .int .i64 n, .int .i64 s, .int .i64 a, .int .i64 b, u, .string (text kx), .int .i64 ix, .bool gx, .string (text vx)] 129 (0, 0)) from hrow)
    clear hI hall h10 h13 hrow
    simp only [flowAct, List.zipWith_cons_cons, List.zipWith_nil_left]
    go_wp2
    go_ret
    exact ⟨_, _, _, rfl, ⟨HH.out.base, HH.out.below.trans (HT.out.below HH.out.base hgB HH.out.below.size), HBY.out, HR.out⟩, HX.out, HT.out⟩
end Go.Proofs.YtfkmfccdhmnllaaDoor
end

section
namespace Go.Proofs.YtfkmfccdhmnllaaDoor
open Go.RowKit Go Go.Sort
set_option linter.unusedVariables false
set_option maxRecDepth 20000

theorem stSite_c {w0 w : World} {q : Nat} {av : Option Addr} {nv cv : Nat} {l : List UInt8} {site seq n s a b : Int} {u : Value} {kx : List UInt8} {ix : Int} {gx : Bool} {vx : List UInt8} (h : Rdr w0 w q av nv cv l site seq n s a b u kx ix gx vx) (y k f : Int) (hg : getS l = (y, k, f)) {F : Bool} (hF : (f == 0) = F) : Calls Tryd.prog 78 #[.pointer (some ⟨q, 0, none⟩)] w (StepTo w0 w q F (l.drop k.toNat) y seq n s a b u kx ix gx vx) := by
  have ht := tkSite_c h y k f hg
  rw [hF] at ht
  have HT := Lib.hid ht
  clear ht h hg hF
  go_enter Tryd.func78, Tryd.ntmps78
  go_wp2_with (go_at_call 106; (with_reducible refine HT.out.mono ?_); rintro e9 w9 ⟨a9, n9, c9, rfl, hr9, ho9⟩)
  go_ret
  exact ⟨_, _, _, rfl, hr9, ho9⟩
theorem stSeq_c {w0 w : World} {q : Nat} {av : Option Addr} {nv cv : Nat} {l : List UInt8} {site seq n s a b : Int} {u : Value} {kx : List UInt8} {ix : Int} {gx : Bool} {vx : List UInt8} (h : Rdr w0 w q av nv cv l site seq n s a b u kx ix gx vx) (y k f : Int) (hg : getS l = (y, k, f)) {F : Bool} (hF : (f == 0) = F) : Calls Tryd.prog 79 #[.pointer (some ⟨q, 0, none⟩)] w (StepTo w0 w q F (l.drop k.toNat) site y n s a b u kx ix gx vx) := by
  have ht := tkSeq_c h y k f hg
  rw [hF] at ht
  have HT := Lib.hid ht
  clear ht h hg hF
  go_enter Tryd.func79, Tryd.ntmps79
  go_wp2_with (go_at_call 106; (with_reducible refine HT.out.mono ?_); rintro e9 w9 ⟨a9, n9, c9, rfl, hr9, ho9⟩)
  go_ret
  exact ⟨_, _, _, rfl, hr9, ho9⟩
theorem stStamp_c {w0 w : World} {q : Nat} {av : Option Addr} {nv cv : Nat} {l : List UInt8} {site seq n s a b : Int} {u : Value} {kx : List UInt8} {ix : Int} {gx : Bool} {vx : List UInt8} (h : Rdr w0 w q av nv cv l site seq n s a b u kx ix gx vx) (y z k f : Int) (hg : sgetS l = ((y, z), k, f)) {F : Bool} (hF : (f == 0) = F) : Calls Tryd.prog 80 #[.pointer (some ⟨q, 0, none⟩)] w (StepTo w0 w q F (l.drop k.toNat) site seq y z a b u kx ix gx vx) := by
  have ht := tkStamp_c h y z k f hg
  rw [hF] at ht
  have HT := Lib.hid ht
  clear ht h hg hF
  go_enter Tryd.func80, Tryd.ntmps80
  go_wp2_with (go_at_call 108; (with_reducible refine HT.out.mono ?_); rintro e9 w9 ⟨a9, n9, c9, rfl, hr9, ho9⟩)
  go_ret
  exact ⟨_, _, _, rfl, hr9, ho9⟩
theorem stVec_c {w0 w : World} {q : Nat} {av : Option Addr} {nv cv : Nat} {l : List UInt8} {site seq n s a b : Int} {u : Value} {kx : List UInt8} {ix : Int} {gx : Bool} {vx : List UInt8} (h : Rdr w0 w q av nv cv l site seq n s a b u kx ix gx vx) (y z k f : Int) (hg : vgetS l = ((y, z), k, f)) {F : Bool} (hF : (f == 0) = F) : Calls Tryd.prog 81 #[.pointer (some ⟨q, 0, none⟩)] w (StepTo w0 w q F (l.drop k.toNat) site seq n s y z u kx ix gx vx) := by
  have ht := tkVec_c h y z k f hg
  rw [hF] at ht
  have HT := Lib.hid ht
  clear ht h hg hF
  go_enter Tryd.func81, Tryd.ntmps81
  go_wp2_with (go_at_call 110; (with_reducible refine HT.out.mono ?_); rintro e9 w9 ⟨a9, n9, c9, rfl, hr9, ho9⟩)
  go_ret
  exact ⟨_, _, _, rfl, hr9, ho9⟩
theorem stGroup_c {w0 w : World} {q : Nat} {av : Option Addr} {nv cv : Nat} {l : List UInt8} {site seq n s a b : Int} {u : Value} {kx : List UInt8} {ix : Int} {gx : Bool} {vx : List UInt8} (h : Rdr w0 w q av nv cv l site seq n s a b u kx ix gx vx) (y k f : Int) (hg : getS l = (y, k, f)) {F : Bool} (hF : (f == 0) = F) : Calls Tryd.prog 113 #[.pointer (some ⟨q, 0, none⟩)] w (StepTo w0 w q F (l.drop k.toNat) site seq n s a b u kx y gx vx) := by
  have ht := tkGroup_c h y k f hg
  rw [hF] at ht
  have HT := Lib.hid ht
  clear ht h hg hF
  go_enter Tryd.func113, Tryd.ntmps113
  go_wp2_with (go_at_call 106; (with_reducible refine HT.out.mono ?_); rintro e9 w9 ⟨a9, n9, c9, rfl, hr9, ho9⟩)
  go_ret
  exact ⟨_, _, _, rfl, hr9, ho9⟩
theorem TxF.mono {most : Int} {B B' : Nat} {v : Value} {W : World} (h : TxF most B v W) (hB : B' ≤ B) : TxF most B' v W := by
  obtain ⟨g, e, h1, h2⟩ := h
  exact ⟨g, e, by omega, h2⟩
set_option maxRecDepth 100000 in
theorem stKey_c {w0 w : World} {q : Nat} {av : Option Addr} {nv cv : Nat} {l : List UInt8} {site seq n s a b : Int} {u : Value} {kx : List UInt8} {ix : Int} {gx : Bool} {vx : List UInt8} (h : Rdr w0 w q av nv cv l site seq n s a b u kx ix gx vx) (y : List UInt8) (k f : Int) (hg : textS l 32 = (y, k, f)) {F : Bool} (hF : (f == 0) = F) : Calls Tryd.prog 112 #[.pointer (some ⟨q, 0, none⟩)] w (StepTo w0 w q F (l.drop k.toNat) site seq n s a b u y ix gx vx) := by
  have HTK := Lib.hid (fun (W : World) (gm : Nat) (hb : Below w.heap.size w W) (hm : W.heap[gm]? = some (.cells #[.int .i64 32] 3 (0, 0))) => by have ht := tkKey_c (h.grow hb) hm y k f hg; rw [hF] at ht; exact ht)
  clear h hg hF
  go_enter Tryd.func112, Tryd.ntmps112
  go_upto_region 1 with (fail)
  refine wp_region_flow_tail 6 [none, none, none, some 0, some 1, some 2, some 3, some 4, some 5, none] (fun i => [undef, undef, undef, undef, undef, undef].getD i undef) [(fun v _ => v = .pointer (some ⟨q, 0, none⟩)), (fun v _ => v = .pointer (some ⟨q, 0, none⟩)), (fun v _ => v = .pointer (some ⟨q, 0, none⟩)), (fun v _ => v = .pointer (some ⟨q, 8, none⟩)), (fun v _ => v = .pointer (some ⟨q, 8, none⟩)), TxF 32 w.heap.size] (fun _ => False) (by kernel_rfl) (by kernel_rfl) (by kernel_rfl) rfl rfl rfl ?_ ?_ ?_
  · intro g hg v X Y hX hY hv
    simp only [List.mem_cons, List.not_mem_nil, or_false] at hg
    rcases hg with rfl | rfl | rfl | rfl | rfl | rfl
    all_goals first
      | exact hv
      | exact hv.kept hY
  · simp only [flowOpsF, List.take_succ_cons, List.take_zero, and_true]
    refine ⟨?_, ?_, ?_, ?_, ?_, ?_⟩
    · intro xs W hW hn
      simp only [flowAct, List.zipWith_cons_cons, List.zipWith_nil_left]
      go_wp2_with (fail)
      exact ⟨rfl, _, rfl, Below.refl _ _, rfl, fun h => h.elim⟩
    · intro xs W hW hn
      simp only [flowAct, List.zipWith_cons_cons, List.zipWith_nil_left]
      go_wp2_with (fail)
      exact ⟨rfl, _, rfl, Below.refl _ _, rfl, fun h => h.elim⟩
    · intro xs W hW hn
      simp [flowNeeds, Region.binds] at hn
      simp only [flowAct, List.zipWith_cons_cons, List.zipWith_nil_left]
      try simp only [hn]
      go_wp2_with (fail)
      exact ⟨rfl, _, rfl, Below.refl _ _, rfl, fun h => h.elim⟩
    · intro xs W hW hn
      simp [flowNeeds, Region.binds] at hn
      simp only [flowAct, List.zipWith_cons_cons, List.zipWith_nil_left]
      try simp only [hn]
      go_wp2_with (fail)
      exact ⟨rfl, _, rfl, Below.refl _ _, rfl, fun h => h.elim⟩
    · intro xs W hW hn
      simp [flowNeeds, Region.binds] at hn
      simp only [flowAct, List.zipWith_cons_cons, List.zipWith_nil_left]
      try simp only [hn]
      go_wp2_with (fail)
      exact ⟨rfl, _, rfl, Below.refl _ _, rfl, fun h => h.elim⟩
    · intro xs W hW hn
      simp only [flowAct, List.zipWith_cons_cons, List.zipWith_nil_left]
      go_wp2_with (go_at_call 132; (with_reducible refine (textf_c _ _).mono ?_); rintro e9 w9 ⟨v9, rfl, ht9, hb9⟩)
      exact ⟨rfl, _, rfl, hb9, TxF.mono ht9 hW.size, fun h => h.elim⟩
  · intro xs W hW hall hfr
    clear hfr
    simp only [flowAll, and_true, Nat.zero_add, Nat.reduceAdd] at hall
    obtain ⟨e0, -, -, -, e4, e5⟩ := hall
    obtain ⟨gm, e5, -, hm⟩ := e5
    simp only [flowAct, List.zipWith_cons_cons, List.zipWith_nil_left, List.drop_succ_cons, List.drop_zero]
    simp only [e0, e4, e5]
    have HB := Lib.hid hW
    have HM := Lib.hid hm
    clear hW hm e0 e4 e5
    go_wp2_with (go_at_call 131; (with_reducible refine (HTK.out _ _ HB.out HM.out).mono ?_); rintro e9 w9 ⟨a9, n9, c9, rfl, hr9, ho9⟩)
    go_ret
    exact ⟨_, _, _, rfl, hr9, (Only.of_below HB.out).trans ho9⟩
set_option maxRecDepth 100000 in
theorem stValue_c {w0 w : World} {q : Nat} {av : Option Addr} {nv cv : Nat} {l : List UInt8} {site seq n s a b : Int} {u : Value} {kx : List UInt8} {ix : Int} {vx : List UInt8} (h : Rdr w0 w q av nv cv l site seq n s a b u kx ix false vx) (y : List UInt8) (k f : Int) (hg : textS l 64 = (y, k, f)) {F : Bool} (hF : (f == 0) = F) : Calls Tryd.prog 115 #[.pointer (some ⟨q, 0, none⟩)] w (StepTo w0 w q F (l.drop k.toNat) site seq n s a b u kx ix false y) := by
  have HTK := Lib.hid (fun (W : World) (gm : Nat) (hb : Below w.heap.size w W) (hm : W.heap[gm]? = some (.cells #[.int .i64 64] 3 (0, 0))) => by have ht := tkValue_c (h.grow hb) hm y k f hg; rw [hF] at ht; exact ht)
  have HH := Lib.hid h
  clear h hg hF
  go_enter Tryd.func115, Tryd.ntmps115
  go_upto_region 1 with (fail)
  refine wp_region_flow_tail 12 [none, none, none, some 0, some 1, some 2, some 3, some 4, some 5, some 6, some 7, some 8, some 9, some 10, some 11, none, none] (fun i => [undef, undef, undef, undef, undef, undef, undef, undef, undef, undef, undef, undef].getD i undef) [(fun v _ => v = .pointer (some ⟨q, 0, none⟩)), (fun v _ => v = .pointer (some ⟨q, 0, none⟩)), (fun v _ => v = .pointer (some ⟨q, 8, none⟩)), (fun v _ => v = .pointer (some ⟨q, 10, none⟩)), (fun v _ => v = .bool false), (fun v _ => v = .bool false), (fun v _ => v = .pointer (some ⟨q, 0, none⟩)), (fun v _ => v = .pointer (some ⟨q, 0, none⟩)), (fun v _ => v = .pointer (some ⟨q, 0, none⟩)), (fun v _ => v = .pointer (some ⟨q, 8, none⟩)), (fun v _ => v = .pointer (some ⟨q, 11, none⟩)), TxF 64 w.heap.size] (fun _ => False) (by kernel_rfl) (by kernel_rfl) (by kernel_rfl) rfl rfl rfl ?_ ?_ ?_
  · intro g hg v X Y hX hY hv
    simp only [List.mem_cons, List.not_mem_nil, or_false] at hg
    rcases hg with rfl | rfl | rfl | rfl | rfl | rfl | rfl | rfl | rfl | rfl | rfl | rfl
    all_goals first
      | exact hv
      | exact hv.kept hY
  · simp only [flowOpsF, List.take_succ_cons, List.take_zero, and_true]
    refine ⟨?_, ?_, ?_, ?_, ?_, ?_, ?_, ?_, ?_, ?_, ?_, ?_⟩
    · intro xs W hW hn
      simp only [flowAct, List.zipWith_cons_cons, List.zipWith_nil_left]
      go_wp2_with (fail)
      exact ⟨rfl, _, rfl, Below.refl _ _, rfl, fun h => h.elim⟩
    · intro xs W hW hn
      simp [flowNeeds, Region.binds] at hn
      simp only [flowAct, List.zipWith_cons_cons, List.zipWith_nil_left]
      try simp only [hn]
      go_wp2_with (fail)
      exact ⟨rfl, _, rfl, Below.refl _ _, rfl, fun h => h.elim⟩
    · intro xs W hW hn
      simp [flowNeeds, Region.binds] at hn
      simp only [flowAct, List.zipWith_cons_cons, List.zipWith_nil_left]
      try simp only [hn]
      go_wp2_with (fail)
      exact ⟨rfl, _, rfl, Below.refl _ _, rfl, fun h => h.elim⟩
    · intro xs W hW hn
      simp [flowNeeds, Region.binds] at hn
      simp only [flowAct, List.zipWith_cons_cons, List.zipWith_nil_left]
      try simp only [hn]
      go_wp2_with (fail)
      exact ⟨rfl, _, rfl, Below.refl _ _, rfl, fun h => h.elim⟩
    · intro xs W hW hn
      obtain ⟨⟨-, -, -, -, -, -, -, -, -, -, c10, -⟩, -⟩ := rd_any (HH.out.grow hW).row
      simp [flowNeeds, Region.binds] at hn
      simp only [flowAct, List.zipWith_cons_cons, List.zipWith_nil_left]
      try simp only [hn]
      go_wp2_with (fail)
      exact ⟨rfl, _, rfl, Below.refl _ _, rfl, fun h => h.elim⟩
    · intro xs W hW hn
      simp [flowNeeds, Region.binds] at hn
      simp only [flowAct, List.zipWith_cons_cons, List.zipWith_nil_left]
      try simp only [hn]
      go_wp2_with (fail)
      exact ⟨rfl, _, rfl, Below.refl _ _, rfl, fun h => h.elim⟩
    · intro xs W hW hn
      simp [flowNeeds, Region.binds] at hn
      simp only [flowAct, List.zipWith_cons_cons, List.zipWith_nil_left]
      try simp only [hn]
      go_wp2_with (fail)
      exact ⟨rfl, _, rfl, Below.refl _ _, rfl, fun h => h.elim⟩
    · intro xs W hW hn
      simp [flowNeeds, Region.binds] at hn
      simp only [flowAct, List.zipWith_cons_cons, List.zipWith_nil_left]
      try simp only [hn]
      go_wp2_with (fail)
      exact ⟨rfl, _, rfl, Below.refl _ _, rfl, fun h => h.elim⟩
    · intro xs W hW hn
      simp [flowNeeds, Region.binds] at hn
      simp only [flowAct, List.zipWith_cons_cons, List.zipWith_nil_left]
      try simp only [hn]
      go_wp2_with (fail)
      exact ⟨rfl, _, rfl, Below.refl _ _, rfl, fun h => h.elim⟩
    · intro xs W hW hn
      simp [flowNeeds, Region.binds] at hn
      simp only [flowAct, List.zipWith_cons_cons, List.zipWith_nil_left]
      try simp only [hn]
      go_wp2_with (fail)
      exact ⟨rfl, _, rfl, Below.refl _ _, rfl, fun h => h.elim⟩
    · intro xs W hW hn
      simp [flowNeeds, Region.binds] at hn
      simp only [flowAct, List.zipWith_cons_cons, List.zipWith_nil_left]
      try simp only [hn]
      go_wp2_with (fail)
      exact ⟨rfl, _, rfl, Below.refl _ _, rfl, fun h => h.elim⟩
    · intro xs W hW hn
      simp [flowNeeds, Region.binds] at hn
      simp only [flowAct, List.zipWith_cons_cons, List.zipWith_nil_left]
      simp only [hn]
      go_wp2_with (go_at_call 132; (with_reducible refine (textf_c _ _).mono ?_); rintro e9 w9 ⟨v9, rfl, ht9, hb9⟩)
      exact ⟨rfl, _, rfl, hb9, TxF.mono ht9 hW.size, fun h => h.elim⟩
  · intro xs W hW hall hfr
    clear hfr
    simp only [flowAll, and_true, Nat.zero_add, Nat.reduceAdd] at hall
    obtain ⟨-, -, -, -, -, eg, e0, -, -, -, e4, e5⟩ := hall
    obtain ⟨gm, e5, -, hm⟩ := e5
    simp only [flowAct, List.zipWith_cons_cons, List.zipWith_nil_left, List.drop_succ_cons, List.drop_zero]
    simp only [eg, e0, e4, e5]
    have HB := Lib.hid hW
    have HM := Lib.hid hm
    clear hW hm e0 e4 e5
    go_wp2_with (go_at_call 131; (with_reducible refine (HTK.out _ _ HB.out HM.out).mono ?_); rintro e9 w9 ⟨a9, n9, c9, rfl, hr9, ho9⟩)
    go_ret
    exact ⟨_, _, _, rfl, hr9, (Only.of_below HB.out).trans ho9⟩
set_option maxRecDepth 100000 in
theorem stValueG_c {w0 w : World} {q : Nat} {av : Option Addr} {nv cv : Nat} {l : List UInt8} {site seq n s a b : Int} {u : Value} {kx : List UInt8} {ix : Int} {vx : List UInt8} (h : Rdr w0 w q av nv cv l site seq n s a b u kx ix true vx) : Calls Tryd.prog 115 #[.pointer (some ⟨q, 0, none⟩)] w (StepTo w0 w q true l site seq n s a b u kx ix true vx) := by
  have HH := Lib.hid h
  clear h
  go_enter Tryd.func115, Tryd.ntmps115
  go_upto_region 1 with (fail)
  refine wp_region_flow_tail 12 [none, none, none, some 0, some 1, some 2, some 3, some 4, some 5, some 6, some 7, some 8, some 9, some 10, some 11, none, none] (fun i => [undef, undef, undef, undef, undef, undef, undef, undef, undef, undef, undef, undef].getD i undef) [(fun v _ => v = .pointer (some ⟨q, 0, none⟩)), (fun v _ => v = .pointer (some ⟨q, 0, none⟩)), (fun v _ => v = .pointer (some ⟨q, 8, none⟩)), (fun v _ => v = .pointer (some ⟨q, 10, none⟩)), (fun v _ => v = .bool true), (fun v _ => v = .bool true), (fun v _ => v = undef), (fun v _ => v = undef), (fun v _ => v = undef), (fun v _ => v = undef), (fun v _ => v = undef), (fun v _ => v = undef)] (fun _ => False) (by kernel_rfl) (by kernel_rfl) (by kernel_rfl) rfl rfl rfl ?_ ?_ ?_
  · intro g hg v X Y hX hY hv
    simp only [List.mem_cons, List.not_mem_nil, or_false] at hg
    rcases hg with rfl | rfl | rfl | rfl | rfl | rfl | rfl | rfl | rfl | rfl | rfl | rfl
    all_goals first
      | exact hv
      | exact hv.kept hY
  · simp only [flowOpsF, List.take_succ_cons, List.take_zero, and_true]
    refine ⟨?_, ?_, ?_, ?_, ?_, ?_, ?_, ?_, ?_, ?_, ?_, ?_⟩
    · intro xs W hW hn
      simp only [flowAct, List.zipWith_cons_cons, List.zipWith_nil_left]
      go_wp2_with (fail)
      exact ⟨rfl, _, rfl, Below.refl _ _, rfl, fun h => h.elim⟩
    · intro xs W hW hn
      simp [flowNeeds, Region.binds] at hn
      simp only [flowAct, List.zipWith_cons_cons, List.zipWith_nil_left]
      try simp only [hn]
      go_wp2_with (fail)
      exact ⟨rfl, _, rfl, Below.refl _ _, rfl, fun h => h.elim⟩
    · intro xs W hW hn
      simp [flowNeeds, Region.binds] at hn
      simp only [flowAct, List.zipWith_cons_cons, List.zipWith_nil_left]
      try simp only [hn]
      go_wp2_with (fail)
      exact ⟨rfl, _, rfl, Below.refl _ _, rfl, fun h => h.elim⟩
    · intro xs W hW hn
      simp [flowNeeds, Region.binds] at hn
      simp only [flowAct, List.zipWith_cons_cons, List.zipWith_nil_left]
      try simp only [hn]
      go_wp2_with (fail)
      exact ⟨rfl, _, rfl, Below.refl _ _, rfl, fun h => h.elim⟩
    · intro xs W hW hn
      obtain ⟨⟨-, -, -, -, -, -, -, -, -, -, c10, -⟩, -⟩ := rd_any (HH.out.grow hW).row
      simp [flowNeeds, Region.binds] at hn
      simp only [flowAct, List.zipWith_cons_cons, List.zipWith_nil_left]
      try simp only [hn]
      go_wp2_with (fail)
      exact ⟨rfl, _, rfl, Below.refl _ _, rfl, fun h => h.elim⟩
    · intro xs W hW hn
      simp [flowNeeds, Region.binds] at hn
      simp only [flowAct, List.zipWith_cons_cons, List.zipWith_nil_left]
      try simp only [hn]
      go_wp2_with (fail)
      exact ⟨rfl, _, rfl, Below.refl _ _, rfl, fun h => h.elim⟩
    · intro xs W hW hn
      simp [flowNeeds, Region.binds] at hn
      simp only [flowAct, List.zipWith_cons_cons, List.zipWith_nil_left]
      try simp only [hn]
      go_wp2_with (fail)
      exact ⟨rfl, _, rfl, Below.refl _ _, rfl, fun h => h.elim⟩
    · intro xs W hW hn
      simp [flowNeeds, Region.binds] at hn
      simp only [flowAct, List.zipWith_cons_cons, List.zipWith_nil_left]
      try simp only [hn]
      go_wp2_with (fail)
      exact ⟨rfl, _, rfl, Below.refl _ _, rfl, fun h => h.elim⟩
    · intro xs W hW hn
      simp [flowNeeds, Region.binds] at hn
      simp only [flowAct, List.zipWith_cons_cons, List.zipWith_nil_left]
      try simp only [hn]
      go_wp2_with (fail)
      exact ⟨rfl, _, rfl, Below.refl _ _, rfl, fun h => h.elim⟩
    · intro xs W hW hn
      simp [flowNeeds, Region.binds] at hn
      simp only [flowAct, List.zipWith_cons_cons, List.zipWith_nil_left]
      try simp only [hn]
      go_wp2_with (fail)
      exact ⟨rfl, _, rfl, Below.refl _ _, rfl, fun h => h.elim⟩
    · intro xs W hW hn
      simp [flowNeeds, Region.binds] at hn
      simp only [flowAct, List.zipWith_cons_cons, List.zipWith_nil_left]
      try simp only [hn]
      go_wp2_with (fail)
      exact ⟨rfl, _, rfl, Below.refl _ _, rfl, fun h => h.elim⟩
    · intro xs W hW hn
      simp [flowNeeds, Region.binds] at hn
      simp only [flowAct, List.zipWith_cons_cons, List.zipWith_nil_left]
      try simp only [hn]
      go_wp2_with (fail)
      exact ⟨rfl, _, rfl, Below.refl _ _, rfl, fun h => h.elim⟩
  · intro xs W hW hall hfr
    clear hfr
    simp only [flowAll, and_true, Nat.zero_add, Nat.reduceAdd] at hall
    obtain ⟨-, -, -, -, -, eg, e0, -, -, -, e4, e5⟩ := hall
    simp only [flowAct, List.zipWith_cons_cons, List.zipWith_nil_left, List.drop_succ_cons, List.drop_zero]
    simp only [eg]
    have HB := Lib.hid hW
    clear hW e0 e4 e5
    go_wp2_with (fail)
    go_ret
    exact ⟨_, _, _, rfl, HH.out.grow HB.out, Only.of_below HB.out⟩
set_option maxRecDepth 100000 in
set_option maxHeartbeats 3200000 in
theorem stGone_c {w0 w : World} {q : Nat} {av : Option Addr} {nv cv : Nat} {l : List UInt8} {site seq n s a b : Int} {u : Value} {kx : List UInt8} {ix : Int} {gx : Bool} {vx : List UInt8} (h : Rdr w0 w q av nv cv l site seq n s a b u kx ix gx vx) (y k f : Int) (hg : getS l = (y, k, f)) {F G Z : Bool} (hF : (f == 0) = F) (hG : (y == 1) = G) (hZ : (y == 0) = Z) : Calls Tryd.prog 114 #[.pointer (some ⟨q, 0, none⟩)] w (StepTo w0 w q (F && (G || Z)) (l.drop k.toNat) site seq n s a b u kx ix G vx) := by
  have hb := alloc_below w (.cells #[.int .i64 0] 3)
  have hz := heap_alloc_new w (.cells #[.int .i64 0] 3)
  have h1 := h.grow hb
  have hqg : q ≠ w.heap.size := by have := (Array.getElem?_eq_some_iff.1 h.row).1; omega
  have hs0 := h.below.size
  have ht := tkN_c h1 hz hqg y k f hg hs0
  rw [hF] at ht
  obtain ⟨B, hB⟩ : ∃ z, w.heap.size = z := ⟨_, rfl⟩
  rw [hB] at ht hqg hs0
  have HT := Lib.hid ht
  have HB := Lib.hid hb
  have HH := Lib.hid h1
  have HS := Lib.hid hs0
  clear ht h h1 hg hF hb hz hs0
  go_enter Tryd.func114, Tryd.ntmps114
  go_upto_region 2 with (fail)
  have HBe := Lib.hid hB
  try rw [hB]
  clear hB
  generalize w.alloc (.cells #[.int .i64 0] 3) = W1 at *
  go_upto_region 3 with (go_at_call 106; (with_reducible refine HT.out.mono ?_); rintro e9 w2 ⟨a9, n9, c9, rfl, hr9, hg9, ht9⟩)
  have HR := Lib.hid hr9
  have HTW := Lib.hid ht9
  obtain ⟨⟨-, -, -, -, -, -, -, -, -, -, c10, -⟩, z10⟩ := rd_any hr9.row
  have g0 := one_cell hg9
  have hne2 : ¬ (B = q) := fun e => hqg e.symm
  have hne1 : ¬ (q = B) := hqg
  clear hr9 ht9 hg9 hqg HT
  have HQ := Lib.hid (show Only q w w2 from HTW.out.only (Only.of_below HB.out) (by rw [HBe.out]; exact Nat.le_refl _))
  have HFIN := Lib.hid (show ∀ ok : Bool, StepTo w0 w q ok (l.drop k.toNat) site seq n s a b u kx ix G vx (.returned (.bool ok)) (w2.setCell ⟨q, 10, none⟩ (.bool G)) from fun ok => ⟨_, _, _, rfl, ⟨HR.out.base, HR.out.below.trans ((Only.set w2 ⟨q, 10, none⟩ _).below HR.out.base HR.out.below.size), HR.out.bytes, (heap_setCell_same w2 q 10 _ _ _ HR.out.row).trans rfl⟩, HQ.out.trans (Only.set w2 ⟨q, 10, none⟩ _)⟩)
  clear HR HTW HQ HB HH HS HBe
  cases F <;> cases G <;> cases Z
  all_goals
    go_wp2
    go_ret
    exact HFIN.out _
/-- How the reading of one write ends. -/
def WStep (w0 w : World) (q : Nat) (l : List UInt8) (site seq n s a b : Int) (u : Value) (e : Ending) (w' : World) : Prop :=
  ∃ ok, e = .returned (.bool ok) ∧ Only q w w' ∧ (ok = false → wgetS l = none) ∧ (ok = true → ∃ (kx : List UInt8) (ix : Int) (gx : Bool) (vx : List UInt8) (qn : Nat) (a9 : Option Addr) (n9 c9 : Nat), wgetS l = some (⟨kx, ix, gx, vx⟩, qn) ∧ Rdr w0 w' q a9 n9 c9 (l.drop qn) site seq n s a b u kx ix gx vx)
theorem row4 {W : World} {q : Nat} {ty : TypeId} {x0 x1 x2 x3 : Value} (h : W.heap[q]? = some (.cells #[x0, x1, x2, x3] ty (0, 0))) : W.cell? ⟨q, 0, none⟩ = some x0 ∧ W.cell? ⟨q, 1, none⟩ = some x1 ∧ W.cell? ⟨q, 2, none⟩ = some x2 ∧ W.cell? ⟨q, 3, none⟩ = some x3 := by
  refine ⟨?_, ?_, ?_, ?_⟩ <;> (rw [cell_of_row W q _ _ ty (0, 0) h]; rfl)
set_option maxRecDepth 100000 in
set_option maxHeartbeats 6400000 in
theorem wstep_c {w0 w : World} {q : Nat} {av : Option Addr} {nv cv : Nat} {l : List UInt8} {site seq n s a b : Int} {u : Value} (h : Rdr w0 w q av nv cv l site seq n s a b u [] 0 false []) {gs : Nat}
    (hs : w.heap[gs]? = some (.cells #[.func (.func 112) #[.pointer (some ⟨q, 0, none⟩)] #[], .func (.func 113) #[.pointer (some ⟨q, 0, none⟩)] #[], .func (.func 114) #[.pointer (some ⟨q, 0, none⟩)] #[], .func (.func 115) #[.pointer (some ⟨q, 0, none⟩)] #[]] 33 (0, 0))) (hne : gs ≠ q) : Calls Tryd.prog 77 #[.slice (some ⟨gs, 0, none⟩) 4 4] w (WStep w0 w q l site seq n s a b u) := by
  obtain ⟨⟨t1, k1, f1⟩, h1⟩ : ∃ z, textS l 32 = z := ⟨_, rfl⟩
  obtain ⟨q1, rfl, hq1⟩ := cnt_text h1
  obtain ⟨⟨i2, k2, f2⟩, h2⟩ : ∃ z, getS (l.drop q1) = z := ⟨_, rfl⟩
  obtain ⟨q2, rfl, hq2⟩ := cnt_get h2
  obtain ⟨⟨y3, k3, f3⟩, h3⟩ : ∃ z, getS (l.drop (q1 + q2)) = z := ⟨_, rfl⟩
  obtain ⟨q3, rfl, hq3⟩ := cnt_get h3
  obtain ⟨⟨t4, k4, f4⟩, h4⟩ : ∃ z, textS (l.drop (q1 + q2 + q3)) 64 = z := ⟨_, rfl⟩
  obtain ⟨q4, rfl, hq4⟩ := cnt_text h4
  obtain ⟨F1, hF1⟩ : ∃ z, (f1 == 0) = z := ⟨_, rfl⟩
  obtain ⟨F2, hF2⟩ : ∃ z, (f2 == 0) = z := ⟨_, rfl⟩
  obtain ⟨F3, hF3⟩ : ∃ z, (f3 == 0) = z := ⟨_, rfl⟩
  obtain ⟨F4, hF4⟩ : ∃ z, (f4 == 0) = z := ⟨_, rfl⟩
  obtain ⟨G, hG⟩ : ∃ z, (y3 == 1) = z := ⟨_, rfl⟩
  obtain ⟨Z, hZ⟩ : ∃ z, (y3 == 0) = z := ⟨_, rfl⟩
  have hy3 : 0 ≤ y3 := by
    by_cases e : (getS (l.drop (q1 + q2))).2.2 = 0
    · obtain ⟨_, _, _, _, h5, _⟩ := getS_ok _ e
      rw [h3] at h5; exact h5
    · have := (getS_bad _ e).1
      rw [h3] at this; simp only at this; omega
  have HS1 := Lib.hid (stKey_c h t1 q1 f1 h1 hF1)
  have HS2 := Lib.hid (fun (W : World) (a9 : Option Addr) (n9 c9 : Nat) (hr : Rdr w0 W q a9 n9 c9 (l.drop q1) site seq n s a b u t1 0 false []) => by have hx := stGroup_c hr i2 q2 f2 h2 hF2; rw [Int.toNat_natCast, List.drop_drop] at hx; exact hx)
  have HS3 := Lib.hid (fun (W : World) (a9 : Option Addr) (n9 c9 : Nat) (hr : Rdr w0 W q a9 n9 c9 (l.drop (q1 + q2)) site seq n s a b u t1 i2 false []) => by have hx := stGone_c hr y3 q3 f3 h3 hF3 hG hZ; rw [Int.toNat_natCast, List.drop_drop] at hx; exact hx)
  have HS4 := Lib.hid (fun (W : World) (a9 : Option Addr) (n9 c9 : Nat) (hr : Rdr w0 W q a9 n9 c9 (l.drop (q1 + q2 + q3)) site seq n s a b u t1 i2 false []) => by have hx := stValue_c hr t4 q4 f4 h4 hF4; rw [Int.toNat_natCast, List.drop_drop] at hx; exact hx)
  have HS5 := Lib.hid (fun (W : World) (a9 : Option Addr) (n9 c9 : Nat) (hr : Rdr w0 W q a9 n9 c9 (l.drop (q1 + q2 + q3)) site seq n s a b u t1 i2 true []) => stValueG_c hr)
  rw [Int.toNat_natCast] at HS1
  have HE1 := Lib.hid (show F1 = false → wgetS l = none from fun e => wget_1 h1 (by simpa [e] using hF1))
  have HE2 := Lib.hid (show F1 = true → F2 = false → wgetS l = none from fun e e' => by
    obtain rfl : f1 = 0 := by simpa [e] using hF1
    exact wget_2 h1 h2 (by simpa [e'] using hF2))
  have HE3 := Lib.hid (show F1 = true → F2 = true → (F3 && (G || Z)) = false → wgetS l = none from fun e e' e'' => by
    obtain rfl : f1 = 0 := by simpa [e] using hF1
    obtain rfl : f2 = 0 := by simpa [e'] using hF2
    cases F3 with
    | false => exact wget_3 h1 h2 h3 (by simpa using hF3)
    | true =>
      obtain rfl : f3 = 0 := by simpa using hF3
      simp only [Bool.true_and, Bool.or_eq_false_iff] at e''
      obtain ⟨rfl, rfl⟩ := e''
      have n1 : y3 ≠ 1 := by simpa using hG
      have n0 : y3 ≠ 0 := by simpa using hZ
      exact wget_4 h1 h2 h3 (by omega))
  have HE4 := Lib.hid (show F1 = true → F2 = true → (F3 && (G || Z)) = true → G = true → wgetS l = some (⟨t1, i2, true, []⟩, q1 + q2 + q3) from fun e e' e'' e3 => by
    obtain rfl : f1 = 0 := by simpa [e] using hF1
    obtain rfl : f2 = 0 := by simpa [e'] using hF2
    obtain rfl : f3 = 0 := by simp only [Bool.and_eq_true] at e''; simpa [e''.1] using hF3
    obtain rfl : y3 = 1 := by simpa [e3] using hG
    exact wget_5 h1 h2 h3)
  have HE5 := Lib.hid (show F1 = true → F2 = true → (F3 && (G || Z)) = true → G = false → F4 = false → wgetS l = none from fun e e' e'' e3 e4 => by
    obtain rfl : f1 = 0 := by simpa [e] using hF1
    obtain rfl : f2 = 0 := by simpa [e'] using hF2
    obtain rfl : f3 = 0 := by simp only [Bool.and_eq_true] at e''; simpa [e''.1] using hF3
    have n1 : ¬ y3 = 1 := by simpa [e3] using hG
    obtain rfl : y3 = 0 := by simp only [Bool.and_eq_true, e3, Bool.false_or] at e''; simpa [e''.2] using hZ
    exact wget_6 h1 h2 h3 (by omega) n1 h4 (by simpa [e4] using hF4))
  have HE6 := Lib.hid (show F1 = true → F2 = true → (F3 && (G || Z)) = true → G = false → F4 = true → wgetS l = some (⟨t1, i2, false, t4⟩, q1 + q2 + q3 + q4) from fun e e' e'' e3 e4 => by
    obtain rfl : f1 = 0 := by simpa [e] using hF1
    obtain rfl : f2 = 0 := by simpa [e'] using hF2
    obtain rfl : f3 = 0 := by simp only [Bool.and_eq_true] at e''; simpa [e''.1] using hF3
    have n1 : ¬ y3 = 1 := by simpa [e3] using hG
    obtain rfl : y3 = 0 := by simp only [Bool.and_eq_true, e3, Bool.false_or] at e''; simpa [e''.2] using hZ
    obtain rfl : f4 = 0 := by simpa [e4] using hF4
    exact wget_7 h1 h2 h3 (by omega) n1 h4)
  obtain ⟨F5, hF5⟩ : ∃ z, (F3 && (G || Z)) = z := ⟨_, rfl⟩
  rw [hF5] at HE3 HE4 HE5 HE6
  simp only [hF5] at HS3
  have HK := Lib.hid (fun W (ho : Only q w W) => row4 ((ho.rest gs (Array.getElem?_eq_some_iff.1 hs).1 hne).trans hs))
  clear h hs hne h1 h2 h3 h4 hq1 hq2 hq3 hq4 hF1 hF2 hF3 hF4 hF5 hG hZ hy3
  obtain ⟨d0, d1, d2, d3⟩ := HK.out w (Only.of_below (Below.refl _ _))
  go_enter Tryd.func77, Tryd.ntmps77
  go_wp2
  refine wp_loop_rounds 5 ?_
  rw [rounds_succ]
  go_upto_region 4 with (fail)
  clear d0 d1 d2 d3
  cases F1 with
  | false =>
    go_wp2_with (go_at_call 112; (with_reducible refine HS1.out.mono ?_); rintro e9 w1 ⟨a1, n1, c1, rfl, hr1, ho1⟩)
    go_ret
    exact ⟨false, rfl, ho1, fun _ => HE1.out (by first | rfl | trivial), fun h => by cases h⟩
  | true =>
    go_wp2_with (go_at_call 112; (with_reducible refine HS1.out.mono ?_); rintro e9 w1 ⟨a1, n1, c1, rfl, hr1, ho1⟩)
    have HR1 := Lib.hid hr1
    have HO1 := Lib.hid ho1
    obtain ⟨d0, d1, d2, d3⟩ := HK.out w1 ho1
    clear hr1 ho1 HS1 HE1
    rw [rounds_succ]
    go_upto_region 4 with (fail)
    clear d0 d1 d2 d3
    cases F2 with
    | false =>
      go_wp2_with (go_at_call 113; (with_reducible refine (HS2.out _ _ _ _ HR1.out).mono ?_); rintro e9 w2 ⟨a2, n2, c2, rfl, hr2, ho2⟩)
      go_ret
      exact ⟨false, rfl, HO1.out.trans ho2, fun _ => HE2.out (by first | rfl | trivial) (by first | rfl | trivial), fun h => by cases h⟩
    | true =>
      go_wp2_with (go_at_call 113; (with_reducible refine (HS2.out _ _ _ _ HR1.out).mono ?_); rintro e9 w2 ⟨a2, n2, c2, rfl, hr2, ho2⟩)
      have HR2 := Lib.hid hr2
      have HO2 := Lib.hid (HO1.out.trans ho2)
      obtain ⟨d0, d1, d2, d3⟩ := HK.out w2 HO2.out
      clear hr2 ho2 HS2 HE2 HR1 HO1
      rw [rounds_succ]
      go_upto_region 4 with (fail)
      clear d0 d1 d2 d3
      cases F5 with
      | false =>
        go_wp2_with (go_at_call 114; (with_reducible refine (HS3.out _ _ _ _ HR2.out).mono ?_); rintro e9 w3 ⟨a3, n3, c3, rfl, hr3, ho3⟩)
        go_ret
        exact ⟨false, rfl, HO2.out.trans ho3, fun _ => HE3.out (by first | rfl | trivial) (by first | rfl | trivial) (by first | rfl | trivial), fun h => by cases h⟩
      | true =>
        go_wp2_with (go_at_call 114; (with_reducible refine (HS3.out _ _ _ _ HR2.out).mono ?_); rintro e9 w3 ⟨a3, n3, c3, rfl, hr3, ho3⟩)
        have HR3 := Lib.hid hr3
        have HO3 := Lib.hid (HO2.out.trans ho3)
        obtain ⟨d0, d1, d2, d3⟩ := HK.out w3 HO3.out
        clear hr3 ho3 HS3 HE3 HR2 HO2
        rw [rounds_succ]
        go_upto_region 4 with (fail)
        clear d0 d1 d2 d3
        cases G with
        | true =>
          go_wp2_with (go_at_call 115; (with_reducible refine (HS5.out _ _ _ _ HR3.out).mono ?_); rintro e9 w4 ⟨a4, n4, c4, rfl, hr4, ho4⟩)
          rw [rounds_succ]
          go_wp2
          go_ret
          exact ⟨true, rfl, HO3.out.trans ho4, fun h => (by cases h), fun _ => ⟨_, _, _, _, _, _, _, _, HE4.out (by first | rfl | trivial) (by first | rfl | trivial) (by first | rfl | trivial) (by first | rfl | trivial), hr4⟩⟩
        | false =>
          cases F4 with
          | false =>
            go_wp2_with (go_at_call 115; (with_reducible refine (HS4.out _ _ _ _ HR3.out).mono ?_); rintro e9 w4 ⟨a4, n4, c4, rfl, hr4, ho4⟩)
            go_ret
            exact ⟨false, rfl, HO3.out.trans ho4, fun _ => HE5.out (by first | rfl | trivial) (by first | rfl | trivial) (by first | rfl | trivial) (by first | rfl | trivial) (by first | rfl | trivial), fun h => by cases h⟩
          | true =>
            go_wp2_with (go_at_call 115; (with_reducible refine (HS4.out _ _ _ _ HR3.out).mono ?_); rintro e9 w4 ⟨a4, n4, c4, rfl, hr4, ho4⟩)
            rw [rounds_succ]
            go_wp2
            go_ret
            exact ⟨true, rfl, HO3.out.trans ho4, fun h => (by cases h), fun _ => ⟨_, _, _, _, _, _, _, _, HE6.out (by first | rfl | trivial) (by first | rfl | trivial) (by first | rfl | trivial) (by first | rfl | trivial) (by first | rfl | trivial), hr4⟩⟩
end Go.Proofs.YtfkmfccdhmnllaaDoor
end

section
namespace Go.Proofs.YtfkmfccdhmnllaaDoor
open Go.RowKit Go Go.Sort
set_option linter.unusedVariables false
set_option maxRecDepth 20000

/-- The writes behind a place, and where they end. -/
def wsS (l : List UInt8) (A : Nat) : Option (List Wr × Nat) := if ¬ (getS (l.drop A)).2.2 = 0 then none else if 8 < (getS (l.drop A)).1 then none else readN l (A + (getS (l.drop A)).2.1.toNat) (getS (l.drop A)).1.toNat
theorem ws_1 {l : List UInt8} {A : Nat} {m9 k f : Int} (h : getS (l.drop A) = (m9, k, f)) (hf : ¬ f = 0) : wsS l A = none := by unfold wsS; rw [h, if_pos hf]
theorem ws_2 {l : List UInt8} {A : Nat} {m9 k f : Int} (h : getS (l.drop A) = (m9, k, f)) (hf : 8 < m9) : wsS l A = none := by
  unfold wsS; rw [h]
  split
  all_goals first
    | rfl
    | exact if_pos hf
theorem ws_3 {l : List UInt8} {A q5 : Nat} {m9 : Int} (h : getS (l.drop A) = (m9, (q5 : Int), 0)) (hf : ¬ 8 < m9) : wsS l A = readN l (A + q5) m9.toNat := by
  unfold wsS; rw [h]; simp [hf]
theorem rd_w {l : List UInt8} {q1 q2 q3 q4 : Nat} {site seq n s a b : Int} (h1 : getS l = (site, (q1 : Int), 0)) (h2 : getS (l.drop q1) = (seq, (q2 : Int), 0)) (h3 : sgetS (l.drop (q1 + q2)) = ((n, s), (q3 : Int), 0)) (h4 : vgetS (l.drop (q1 + q2 + q3)) = ((a, b), (q4 : Int), 0)) :
    chreadS l = (wsS l (q1 + q2 + q3 + q4)).map fun r => (site, seq, n, s, a, b, r.1, r.2) := by
  obtain ⟨⟨m9, k, f⟩, h⟩ : ∃ z, getS (l.drop (q1 + q2 + q3 + q4)) = z := ⟨_, rfl⟩
  obtain ⟨q5, rfl, hq⟩ := cnt_get h
  by_cases hf : f = 0
  · subst hf
    by_cases h8 : 8 < m9
    · rw [rd_6 h1 h2 h3 h4 h h8, ws_2 h h8]; rfl
    · rw [rd_7 h1 h2 h3 h4 h h8, ws_3 h h8]
  · rw [rd_5 h1 h2 h3 h4 h hf, ws_1 h hf]; rfl
theorem OwnL.only {w w' : World} {B q : Nat} {v : Value} {l : List Wr} (h : OwnW w B v l) (ho : Only q w w') (hq : q < B) : OwnW w' B v l :=
  h.of_block fun k hk => by
    have := h.lt k hk
    exact ho.rest k this.2 (by omega)
theorem Only.app {w W0 w' : World} {q B : Nat} {o : Obj} {r : Option Nat} (ho : Only q w W0) (hg : (W0.alloc o).grownBy w' r) (hB : w.heap.size ≤ B) (hr : ∀ k, r = some k → B ≤ k) : Only q w w' := by
  have hal := alloc_below W0 o
  have hsz := hal.size
  have h1 := ho.size
  refine ⟨hg.os.trans ho.os, hg.tape.trans ho.tape, hg.output.trans ho.output, Nat.le_trans h1 (Nat.le_trans hsz hg.size), fun k hk hne => ?_⟩
  refine (hg.block k (by omega) (fun e => ?_)).trans ((hal.block k (by omega)).trans (ho.rest k hk hne))
  have := hr k e.symm
  omega
/-- Where the appending of one write stands. -/
structure InvA (V : Nat → Value) (ph : Bool → Bool → Bool → Value → Value → World → Prop) (L : Nat → Bool) (xs : Nat → Value) (W : World) : Prop where
  at' : ∀ i, i < 16 → L i = true → i ≠ 10 → i ≠ 11 → i ≠ 15 → xs i = V i
  ph : ph (L 10) (L 11) (L 15) (xs 10) (xs 11) W
  d10 : L 10 = true → L 9 = true
  d11 : L 11 = true → L 10 = true ∧ L 5 = true
  d15 : L 15 = true → L 11 = true
section
variable {V : Nat → Value} {ph : Bool → Bool → Bool → Value → Value → World → Prop} {L : Nat → Bool} {xs : Nat → Value} {W W' : World}
theorem InvA.start {xs0 : Nat → Value} (h : ∀ i, i < 16 → L i = false) (hp : ph false false false (xs0 10) (xs0 11) W) : InvA V ph L xs0 W := by
  refine ⟨fun i hi hL _ _ _ => (by rw [h i hi] at hL; cases hL), ?_, fun h8 => ?_, fun h8 => ?_, fun h8 => ?_⟩
  · rw [h 10 (by omega), h 11 (by omega), h 15 (by omega)]; exact hp
  · rw [h 10 (by omega)] at h8; cases h8
  · rw [h 11 (by omega)] at h8; cases h8
  · rw [h 15 (by omega)] at h8; cases h8
theorem InvA.no11 (h : InvA V ph L xs W) (h5 : L 5 = false ∨ L 10 = false) : L 11 = false := by
  cases h1 : L 11 with
  | false => rfl
  | true =>
    obtain ⟨a, b⟩ := h.d11 h1
    rcases h5 with e | e
    · rw [e] at b; cases b
    · rw [e] at a; cases a
theorem InvA.no15 (h : InvA V ph L xs W) (h5 : L 11 = false) : L 15 = false := by
  cases h1 : L 15 with
  | false => rfl
  | true => have := h.d15 h1; rw [h5] at this; cases this
theorem InvA.no10 (h : InvA V ph L xs W) (h5 : L 9 = false) : L 10 = false := by
  cases h1 : L 10 with
  | false => rfl
  | true => have := h.d10 h1; rw [h5] at this; cases this
theorem InvA.val (h : InvA V ph L xs W) (i : Nat) (hi : i ≠ 10 ∧ i ≠ 11 ∧ i ≠ 15) {v : Value} (hv : v = V i) : InvA V ph (fun j => if j = i then true else L j) (fun j => if j = i then v else xs j) W := by
  obtain ⟨i1, i2, i3⟩ := hi
  refine ⟨fun j hj hL h1 h2 h3 => ?_, ?_, fun hL => ?_, fun hL => ?_, fun hL => ?_⟩
  · by_cases e : j = i
    · subst e; simpa using hv
    · simp only [if_neg e] at hL ⊢; exact h.at' j hj hL h1 h2 h3
  · simp only [if_neg (Ne.symm i1), if_neg (Ne.symm i2), if_neg (Ne.symm i3)]; exact h.ph
  · simp only [if_neg (Ne.symm i1)] at hL
    split
    · rfl
    · exact h.d10 hL
  · simp only [if_neg (Ne.symm i2)] at hL
    obtain ⟨a, b⟩ := h.d11 hL
    refine ⟨?_, ?_⟩
    · split
      · rfl
      · exact a
    · split
      · rfl
      · exact b
  · simp only [if_neg (Ne.symm i3)] at hL
    split
    · rfl
    · exact h.d15 hL
theorem InvA.box (h : InvA V ph L xs W) (h9 : L 9 = true) (v : Value) (hp : ph true (L 11) (L 15) v (xs 11) W') : InvA V ph (fun j => if j = 10 then true else L j) (fun j => if j = 10 then v else xs j) W' :=
  ⟨fun j hj hL h1 h2 h3 => by simp only [if_neg h1] at hL ⊢; exact h.at' j hj hL h1 h2 h3, by simpa using hp, fun _ => by simpa using h9, fun hL => ⟨by simp, by simpa using (h.d11 (by simpa using hL)).2⟩, fun hL => by simpa using h.d15 (by simpa using hL)⟩
theorem InvA.app (h : InvA V ph L xs W) (h10 : L 10 = true) (h5 : L 5 = true) (v : Value) (hp : ph (L 10) true (L 15) (xs 10) v W') : InvA V ph (fun j => if j = 11 then true else L j) (fun j => if j = 11 then v else xs j) W' :=
  ⟨fun j hj hL h1 h2 h3 => by simp only [if_neg h2] at hL ⊢; exact h.at' j hj hL h1 h2 h3, by simpa using hp, fun hL => by simpa using h.d10 (by simpa using hL), fun _ => ⟨by simpa using h10, by simpa using h5⟩, fun _ => by simp⟩
theorem InvA.put (h : InvA V ph L xs W) (h11 : L 11 = true) (v : Value) (hp : ph (L 10) (L 11) true (xs 10) (xs 11) W') : InvA V ph (fun j => if j = 15 then true else L j) (fun j => if j = 15 then v else xs j) W' :=
  ⟨fun j hj hL h1 h2 h3 => by simp only [if_neg h3] at hL ⊢; exact h.at' j hj hL h1 h2 h3, by simpa using hp, fun hL => by simpa using h.d10 (by simpa using hL), fun hL => by simpa using h.d11 (by simpa using hL), fun _ => by simpa using h11⟩
end
/-- What holds where: ahead of all, behind the box, behind append, behind the store. -/
def Ph4 (P0 : World → Prop) (P1 P2 P3 : Value → World → Prop) (b10 b11 b15 : Bool) (x10 x11 : Value) (W : World) : Prop :=
  match b15, b11, b10 with
  | true, _, _ => P3 x11 W
  | false, true, _ => P2 x11 W
  | false, false, true => P1 x10 W
  | false, false, false => P0 W
theorem ph0 {P0 : World → Prop} {P1 P2 P3 : Value → World → Prop} {b10 b11 b15 : Bool} {x10 x11 : Value} {W : World} (h : Ph4 P0 P1 P2 P3 b10 b11 b15 x10 x11 W) (h1 : b10 = false) (h2 : b11 = false) (h3 : b15 = false) : P0 W := by subst h1 h2 h3; exact h
theorem ph1 {P0 : World → Prop} {P1 P2 P3 : Value → World → Prop} {b10 b11 b15 : Bool} {x10 x11 : Value} {W : World} (h : Ph4 P0 P1 P2 P3 b10 b11 b15 x10 x11 W) (h1 : b10 = true) (h2 : b11 = false) (h3 : b15 = false) : P1 x10 W := by subst h1 h2 h3; exact h
theorem ph2 {P0 : World → Prop} {P1 P2 P3 : Value → World → Prop} {b10 b11 b15 : Bool} {x10 x11 : Value} {W : World} (h : Ph4 P0 P1 P2 P3 b10 b11 b15 x10 x11 W) (h2 : b11 = true) (h3 : b15 = false) : P2 x11 W := by subst h2 h3; exact h
theorem ph3 {P0 : World → Prop} {P1 P2 P3 : Value → World → Prop} {b10 b11 b15 : Bool} {x10 x11 : Value} {W : World} (h : Ph4 P0 P1 P2 P3 b10 b11 b15 x10 x11 W) (h3 : b15 = true) : P3 x11 W := by subst h3; exact h
def MidA (w : World) (q base : Nat) (row : Array Value) (ty : TypeId) (ws : List Wr) (v : Value) (W : World) : Prop := OwnW W base v ws ∧ W.heap[q]? = some (.cells row ty (0, 0)) ∧ Only q w W
def FinA (w : World) (q base : Nat) (row : Value → Array Value) (ty : TypeId) (ws : List Wr) (v : Value) (W : World) : Prop := OwnW W base v ws ∧ W.heap[q]? = some (.cells (row v) ty (0, 0)) ∧ Only q w W
def BoxA (W0 : World) (o : Obj) (v : Value) (W : World) : Prop := v = .slice (some ⟨W0.heap.size, 0, none⟩) 1 1 ∧ W = W0.alloc o
/-- How the reading of the writes ends. -/
def WsStep (w0 w : World) (q : Nat) (l : List UInt8) (A : Nat) (site seq n s a b : Int) (e : Ending) (w' : World) : Prop :=
  ∃ ok, e = .returned (.bool ok) ∧ Only q w w' ∧ (ok = false → wsS l A = none) ∧ (ok = true → ∃ (u : Value) (kx : List UInt8) (ix : Int) (gx : Bool) (vx : List UInt8) (ws : List Wr) (at' : Nat) (a9 : Option Addr) (n9 c9 : Nat),
    wsS l A = some (ws, at') ∧ at' ≤ l.length ∧ Rdr w0 w' q a9 n9 c9 (l.drop at') site seq n s a b u kx ix gx vx ∧ OwnW w' w.heap.size u ws ∧ WShort ws)
set_option maxRecDepth 100000 in
set_option maxHeartbeats 12800000 in
theorem stWrites_c {w0 w : World} {q : Nat} {av : Option Addr} {nv cv A : Nat} {l : List UInt8} {site seq n s a b : Int} (hA : A ≤ l.length) (h : Rdr w0 w q av nv cv (l.drop A) site seq n s a b (.slice none 0 0) [] 0 false []) :
    Calls Tryd.prog 82 #[.pointer (some ⟨q, 0, none⟩)] w (WsStep w0 w q l A site seq n s a b) := by
  obtain ⟨⟨m9, k5, f5⟩, h5⟩ : ∃ z, getS (l.drop A) = z := ⟨_, rfl⟩
  obtain ⟨q5, rfl, hq5⟩ := cnt_get h5
  obtain ⟨F, hF⟩ : ∃ z, (f5 == 0) = z := ⟨_, rfl⟩
  have hm9 : 0 ≤ m9 := by
    by_cases e : (getS (l.drop A)).2.2 = 0
    · obtain ⟨_, _, _, _, h6, _⟩ := getS_ok _ e
      rw [h5] at h6; exact h6
    · have := (getS_bad _ e).1
      rw [h5] at this; simp only at this; omega
  have hb := alloc_below w (.cells #[.int .i64 0] 3)
  have hz := heap_alloc_new w (.cells #[.int .i64 0] 3)
  have h1 := h.grow hb
  have hqw : q < w.heap.size := (Array.getElem?_eq_some_iff.1 h.row).1
  have hqg : q ≠ w.heap.size := by omega
  have hs0 := h.below.size
  have ht := tkN_c h1 hz hqg m9 q5 f5 h5 hs0
  rw [hF, Int.toNat_natCast, List.drop_drop] at ht
  have HQW := Lib.hid hqw
  have HBW0 := Lib.hid h.below
  obtain ⟨B, hB⟩ : ∃ z, w.heap.size = z := ⟨_, rfl⟩
  rw [hB] at ht hqg hs0
  have HT := Lib.hid ht
  have HB := Lib.hid hb
  have HS := Lib.hid hs0
  have H1 := Lib.hid (show F = false → wsS l A = none from fun e => ws_1 h5 (by simpa [e] using hF))
  have H2 := Lib.hid (show F = true → 8 < m9 → wsS l A = none from fun e e' => ws_2 h5 e')
  have H3 := Lib.hid (show F = true → ¬ 8 < m9 → wsS l A = readN l (A + q5) m9.toNat from fun e e' => by
    obtain rfl : f5 = 0 := by simpa [e] using hF
    exact ws_3 h5 e')
  have hA5 : A + q5 ≤ l.length := by rw [List.length_drop] at hq5; omega
  obtain ⟨P, hP⟩ : ∃ z, A + q5 = z := ⟨_, rfl⟩
  rw [hP] at HT H3 hA5
  have HPL := Lib.hid hA5
  clear ht h h1 h5 hF hb hz hs0 hq5 hP hA hA5 hqw
  go_enter Tryd.func82, Tryd.ntmps82
  go_upto_region 2 with (fail)
  have HBe := Lib.hid hB
  try rw [hB]
  clear hB
  generalize w.alloc (.cells #[.int .i64 0] 3) = W1 at *
  cases F with
  | false =>
    go_wp2_with (go_at_call 106; (with_reducible refine HT.out.mono ?_); rintro e9 w2 ⟨a2, n2, c2, rfl, hr2, hg2, ht2⟩; have HR2 := Lib.hid hr2; have HQ2 := Lib.hid (show Only q w w2 from ht2.only (Only.of_below HB.out) (by rw [HBe.out]; exact Nat.le_refl _)); have HG2 := Lib.hid hg2; have g2 := one_cell hg2; clear hr2 ht2 hg2)
    go_ret
    exact ⟨false, rfl, HQ2.out, fun _ => H1.out (by first | rfl | trivial), fun h => (by cases h)⟩
  | true =>
    by_cases h8 : 8 < m9
    · go_wp2_with (go_at_call 106; (with_reducible refine HT.out.mono ?_); rintro e9 w2 ⟨a2, n2, c2, rfl, hr2, hg2, ht2⟩; have HR2 := Lib.hid hr2; have HQ2 := Lib.hid (show Only q w w2 from ht2.only (Only.of_below HB.out) (by rw [HBe.out]; exact Nat.le_refl _)); have HG2 := Lib.hid hg2; have g2 := one_cell hg2; clear hr2 ht2 hg2)
      go_ret
      exact ⟨false, rfl, HQ2.out, fun _ => H2.out (by first | rfl | trivial) h8, fun h => (by cases h)⟩
    · obtain ⟨mm, rfl⟩ : ∃ mm : Nat, m9 = (mm : Int) := ⟨m9.toNat, by omega⟩
      have hmm : mm ≤ 8 := by omega
      have HWS0 := Lib.hid (H3.out (by first | rfl | trivial) h8)
      clear H1 H2 H3
      go_upto_region 5 with (go_at_call 106; (with_reducible refine HT.out.mono ?_); rintro e9 w2 ⟨a2, n2, c2, rfl, hr2, hg2, ht2⟩; have HR2 := Lib.hid hr2; have HQ2 := Lib.hid (show Only q w w2 from ht2.only (Only.of_below HB.out) (by rw [HBe.out]; exact Nat.le_refl _)); have HG2 := Lib.hid hg2; have g2 := one_cell hg2; clear hr2 ht2 hg2)
      clear g2 HG2 HT
      go_loopw [12] (fun i wr => ∃ (k at0 : Nat) (ws : List Wr) (u : Value) (kx : List UInt8) (ix : Int) (gx : Bool) (vx : List UInt8) (a9 : Option Addr) (n9 c9 : Nat), k ≤ mm ∧ i = .int .i64 (k : Int) ∧ at0 ≤ l.length ∧ readN l P k = some (ws, at0) ∧ ws.length = k ∧ WShort ws ∧ Rdr w0 wr q a9 n9 c9 (l.drop at0) site seq n s a b u kx ix gx vx ∧ OwnW wr w.heap.size u ws ∧ Only q w wr) (fun i _ => mm - (intOf i).toNat)
      case atStart => exact ⟨0, P, [], .slice none 0 0, [], 0, false, [], a2, n2, c2, by omega, rfl, HPL.out, rfl, rfl, (fun c hc => by cases hc), HR2.out, OwnL.nil _ _ _, HQ2.out⟩
      case round =>
        clear HR2 HQ2
        obtain ⟨k, at0, ws, u, kx0, ix0, gx0, vx0, a9, n9, c9, hk, rfl, hat, hn, hwl, hsh, hr, ho, hq⟩ := hrel
        have HN := Lib.hid hn
        have HWL := Lib.hid hwl
        have HSH := Lib.hid hsh
        have HR := Lib.hid hr
        have HO := Lib.hid ho
        have HQ := Lib.hid hq
        have HAT0 := Lib.hid hat
        clear hn hwl hsh hr ho hq hat
        by_cases hlt : k < mm
        · have hki : (k : Int) < (mm : Int) := by omega
          obtain ⟨⟨-, -, -, -, -, -, -, -, p8, p9, p10, p11⟩, pf⟩ := rd_any HR.out.row
          go_upto_region 7 with (fail)
          have hoz : Only q wr ((((wr.setCell ⟨q, 8, none⟩ (.string ⟨#[]⟩)).setCell ⟨q, 9, none⟩ (.int .i64 0)).setCell ⟨q, 10, none⟩ (.bool false)).setCell ⟨q, 11, none⟩ (.string ⟨#[]⟩)) := (((Only.set wr ⟨q, 8, none⟩ _).trans (Only.set _ ⟨q, 9, none⟩ _)).trans (Only.set _ ⟨q, 10, none⟩ _)).trans (Only.set _ ⟨q, 11, none⟩ _)
          have hrz : ((((wr.setCell ⟨q, 8, none⟩ (.string ⟨#[]⟩)).setCell ⟨q, 9, none⟩ (.int .i64 0)).setCell ⟨q, 10, none⟩ (.bool false)).setCell ⟨q, 11, none⟩ (.string ⟨#[]⟩)).heap[q]? = some (.cells #[(.slice a9 n9 c9), .int .i64 site, .int .i64 seq, .int .i64 n, .int .i64 s, .int .i64 a, .int .i64 b, u, .string (text []), .int .i64 0, .bool false, .string (text [])] 129 (0, 0)) := (heap_setCell_same _ q 11 _ _ _ (heap_setCell_same _ q 10 _ _ _ (heap_setCell_same _ q 9 _ _ _ (heap_setCell_same wr q 8 _ _ _ HR.out.row)))).trans rfl
          have HRZ := Lib.hid (show Rdr w0 ((((wr.setCell ⟨q, 8, none⟩ (.string ⟨#[]⟩)).setCell ⟨q, 9, none⟩ (.int .i64 0)).setCell ⟨q, 10, none⟩ (.bool false)).setCell ⟨q, 11, none⟩ (.string ⟨#[]⟩)) q a9 n9 c9 (l.drop at0) site seq n s a b u [] 0 false [] from ⟨HR.out.base, HR.out.below.trans (hoz.below HR.out.base HR.out.below.size), HR.out.bytes, hrz⟩)
          have HOZ := Lib.hid (show OwnW ((((wr.setCell ⟨q, 8, none⟩ (.string ⟨#[]⟩)).setCell ⟨q, 9, none⟩ (.int .i64 0)).setCell ⟨q, 10, none⟩ (.bool false)).setCell ⟨q, 11, none⟩ (.string ⟨#[]⟩)) w.heap.size u ws from OwnL.only HO.out hoz HQW.out)
          have HQZ := Lib.hid (HQ.out.trans hoz)
          clear hoz hrz p8 p9 p10 p11 pf HR HO HQ
          generalize ((((wr.setCell ⟨q, 8, none⟩ (.string ⟨#[]⟩)).setCell ⟨q, 9, none⟩ (.int .i64 0)).setCell ⟨q, 10, none⟩ (.bool false)).setCell ⟨q, 11, none⟩ (.string ⟨#[]⟩)) = WZ at *
          have hqz : q < WZ.heap.size := (Array.getElem?_eq_some_iff.1 HRZ.out.row).1
          have HST := Lib.hid (wstep_c (HRZ.out.grow (alloc_below WZ (.cells #[.func (.func 112) #[.pointer (some ⟨q, 0, none⟩)] #[], .func (.func 113) #[.pointer (some ⟨q, 0, none⟩)] #[], .func (.func 114) #[.pointer (some ⟨q, 0, none⟩)] #[], .func (.func 115) #[.pointer (some ⟨q, 0, none⟩)] #[]] 33))) (heap_alloc_new WZ (.cells #[.func (.func 112) #[.pointer (some ⟨q, 0, none⟩)] #[], .func (.func 113) #[.pointer (some ⟨q, 0, none⟩)] #[], .func (.func 114) #[.pointer (some ⟨q, 0, none⟩)] #[], .func (.func 115) #[.pointer (some ⟨q, 0, none⟩)] #[]] 33)) (by omega))
          clear hqz
          go_upto_region 8 with (go_at_call 77; (with_reducible refine HST.out.mono ?_); rintro e9 w5 ⟨ok, rfl, ho5, hf5, ht5⟩)
          · obtain rfl : ok = false := by first | assumption | (cases ok <;> first | rfl | (exfalso; contradiction))
            have HF5 := Lib.hid (hf5 rfl)
            have HQ5 := Lib.hid (show Only q w w5 from (HQZ.out.trans (Only.of_below (alloc_below WZ _))).trans ho5)
            clear hf5 ht5 ho5
            go_wp2
            go_ret
            exact ⟨false, rfl, HQ5.out, fun _ => HWS0.out.trans (readN_none (readN_bad HN.out HF5.out) _ (by omega)), fun h => (by cases h)⟩
          · obtain rfl : ok = true := by first | assumption | (cases ok <;> first | rfl | (exfalso; contradiction))
            obtain ⟨kx, ix, gx, vx, qn, av9, nv9, cv9, hw5, hr5⟩ := ht5 rfl
            clear hf5 ht5
            have HR5 := Lib.hid hr5
            have HO5 := Lib.hid (show OwnW w5 w.heap.size u ws from OwnL.only (OwnL.kept HOZ.out (alloc_below WZ _)) ho5 HQW.out)
            have HQ5 := Lib.hid (show Only q w w5 from (HQZ.out.trans (Only.of_below (alloc_below WZ _))).trans ho5)
            obtain ⟨l1, l2, l3⟩ := wget_few hw5
            rw [List.length_drop] at l3
            simp only at l1 l2
            have HAT := Lib.hid (show at0 + qn ≤ l.length by have := HAT0.out; omega)
            have HNN := Lib.hid (readN_ok HN.out hw5)
            have hshn : WShort (ws ++ [⟨kx, ix, gx, vx⟩]) := by
              intro c hc
              rcases List.mem_append.1 hc with h | h
              · exact HSH.out c h
              · rw [List.mem_singleton.1 h]; exact ⟨Nat.le_trans l1 (by decide), Nat.le_trans l2 (by decide)⟩
            have HSHN := Lib.hid hshn
            have HL9 := Lib.hid (show ws.length ≤ 1000000000 by have := HWL.out; omega)
            have HSZ5 := Lib.hid HQ5.out.size
            rw [List.drop_drop] at HR5
            have HRD := Lib.hid (show ({ w5 with drawn := w5.drawn + 1 } : World).heap[q]? = some (.cells #[(.slice av9 nv9 cv9), .int .i64 site, .int .i64 seq, .int .i64 n, .int .i64 s, .int .i64 a, .int .i64 b, u, .string (text kx), .int .i64 ix, .bool gx, .string (text vx)] 129 (0, 0)) from HR5.out.row)
            have HRX := Lib.hid (show (({ w5 with drawn := w5.drawn + 1 } : World).alloc (.cells #[.string (text kx), .int .i64 ix, .bool gx, .string (text vx)] 31)).heap[q]? = some (.cells #[(.slice av9 nv9 cv9), .int .i64 site, .int .i64 seq, .int .i64 n, .int .i64 s, .int .i64 a, .int .i64 b, u, .string (text kx), .int .i64 ix, .bool gx, .string (text vx)] 129 (0, 0)) from heap_below HRD.out (alloc_below _ _))
            have HQD := Lib.hid (show Only q w { w5 with drawn := w5.drawn + 1 } from ⟨HQ5.out.os, HQ5.out.tape, HQ5.out.output, HQ5.out.size, HQ5.out.rest⟩)
            clear hr5 hw5 ho5 l1 l2 l3 hshn HOZ HQZ HRZ
            go_upto_region 9 with (fail)
            refine wp_region_inv [none, none, none, none, none, none, none, none, none, none, none, none, none, none, none, none, none, none, none, none, none, none, none, none, none, none, none, none, none, some 0, some 1, some 2, some 3, some 4, some 5, some 6, some 7, some 8, some 9, some 10, some 11, some 12, some 13, some 14, none] (fun i => [u29, u30, u31, u32, u33, u34, u35, u36, u37, u38, u39, u40, u41, u42, u43, undef].getD i undef) (InvA (fun i => [.pointer (some ⟨q, 0, none⟩), .pointer (some ⟨q, 0, none⟩), .pointer (some ⟨q, 0, none⟩), .pointer (some ⟨q, 1, none⟩), .pointer (some ⟨q, 7, none⟩), u, .pointer (some ⟨q, 0, none⟩), .pointer (some ⟨q, 0, none⟩), .pointer (some ⟨q, 8, none⟩), .agg #[.string (text kx), .int .i64 ix, .bool gx, .string (text vx)], undef, undef, .pointer (some ⟨q, 0, none⟩), .pointer (some ⟨q, 1, none⟩), .pointer (some ⟨q, 7, none⟩), undef].getD i undef) (Ph4 (fun W => W = { w5 with drawn := w5.drawn + 1 }) (BoxA { w5 with drawn := w5.drawn + 1 } (.cells #[.string (text kx), .int .i64 ix, .bool gx, .string (text vx)] 31)) (MidA w q w.heap.size #[(.slice av9 nv9 cv9), .int .i64 site, .int .i64 seq, .int .i64 n, .int .i64 s, .int .i64 a, .int .i64 b, u, .string (text kx), .int .i64 ix, .bool gx, .string (text vx)] 129 (ws ++ [⟨kx, ix, gx, vx⟩])) (FinA w q w.heap.size (fun v' => #[(.slice av9 nv9 cv9), .int .i64 site, .int .i64 seq, .int .i64 n, .int .i64 s, .int .i64 a, .int .i64 b, v', .string (text kx), .int .i64 ix, .bool gx, .string (text vx)]) 129 (ws ++ [⟨kx, ix, gx, vx⟩])))) (by kernel_rfl) (by kernel_rfl) rfl rfl (fun L hL => InvA.start (fun i hi => hL i hi) (show Ph4 _ _ _ _ false false false _ _ _ from rfl)) ?_ ?_
            · simp only [invOps, and_true]
              refine ⟨?_, ?_, ?_, ?_, ?_, ?_, ?_, ?_, ?_, ?_, ?_, ?_, ?_, ?_, ?_, ?_⟩
              · intro L xs W hI hL hn
                simp only [flowAct, List.zipWith_cons_cons, List.zipWith_nil_left]
                go_wp2_with (fail)
                exact ⟨rfl, _, rfl, hI.val 0 (by decide) rfl⟩
              · intro L xs W hI hL hn
                simp only [flowAct, List.zipWith_cons_cons, List.zipWith_nil_left]
                go_wp2_with (fail)
                exact ⟨rfl, _, rfl, hI.val 1 (by decide) rfl⟩
              · intro L xs W hI hL hn
                simp [invNeeds, Region.binds] at hn
                have e1 : xs 1 = .pointer (some ⟨q, 0, none⟩) := hI.at' 1 (by decide) (by simp only [hn]) (by decide) (by decide) (by decide)
                simp only [flowAct, List.zipWith_cons_cons, List.zipWith_nil_left]
                simp only [e1]
                go_wp2_with (fail)
                exact ⟨rfl, _, rfl, hI.val 2 (by decide) rfl⟩
              · intro L xs W hI hL hn
                simp [invNeeds, Region.binds] at hn
                have e2 : xs 2 = .pointer (some ⟨q, 0, none⟩) := hI.at' 2 (by decide) (by simp only [hn]) (by decide) (by decide) (by decide)
                simp only [flowAct, List.zipWith_cons_cons, List.zipWith_nil_left]
                simp only [e2]
                go_wp2_with (fail)
                exact ⟨rfl, _, rfl, hI.val 3 (by decide) rfl⟩
              · intro L xs W hI hL hn
                simp [invNeeds, Region.binds] at hn
                have e3 : xs 3 = .pointer (some ⟨q, 1, none⟩) := hI.at' 3 (by decide) (by simp only [hn]) (by decide) (by decide) (by decide)
                simp only [flowAct, List.zipWith_cons_cons, List.zipWith_nil_left]
                simp only [e3]
                go_wp2_with (fail)
                exact ⟨rfl, _, rfl, hI.val 4 (by decide) rfl⟩
              · intro L xs W hI hL hn
                simp [invNeeds, Region.binds] at hn
                have e4 : xs 4 = .pointer (some ⟨q, 7, none⟩) := hI.at' 4 (by decide) (by simp only [hn]) (by decide) (by decide) (by decide)
                have n11 := hI.no11 (.inl hL)
                have n15 := hI.no15 n11
                have hrow : W.heap[q]? = some (.cells #[(.slice av9 nv9 cv9), .int .i64 site, .int .i64 seq, .int .i64 n, .int .i64 s, .int .i64 a, .int .i64 b, u, .string (text kx), .int .i64 ix, .bool gx, .string (text vx)] 129 (0, 0)) := by
                  cases h10 : L 10 with
                  | false => have h0 := ph0 hI.ph h10 n11 n15; rw [h0]; exact HR5.out.row
                  | true =>
                    obtain ⟨-, h0⟩ := ph1 hI.ph h10 n11 n15
                    rw [h0]
                    exact heap_below HRD.out (alloc_below _ _)
                obtain ⟨⟨-, -, -, -, -, -, -, p7, -⟩, -⟩ := rd_any hrow
                clear hrow n11 n15
                simp only [flowAct, List.zipWith_cons_cons, List.zipWith_nil_left]
                simp only [e4]
                go_wp2_with (fail)
                exact ⟨rfl, _, rfl, hI.val 5 (by decide) rfl⟩
              · intro L xs W hI hL hn
                simp only [flowAct, List.zipWith_cons_cons, List.zipWith_nil_left]
                go_wp2_with (fail)
                exact ⟨rfl, _, rfl, hI.val 6 (by decide) rfl⟩
              · intro L xs W hI hL hn
                simp [invNeeds, Region.binds] at hn
                have e6 : xs 6 = .pointer (some ⟨q, 0, none⟩) := hI.at' 6 (by decide) (by simp only [hn]) (by decide) (by decide) (by decide)
                simp only [flowAct, List.zipWith_cons_cons, List.zipWith_nil_left]
                simp only [e6]
                go_wp2_with (fail)
                exact ⟨rfl, _, rfl, hI.val 7 (by decide) rfl⟩
              · intro L xs W hI hL hn
                simp [invNeeds, Region.binds] at hn
                have e7 : xs 7 = .pointer (some ⟨q, 0, none⟩) := hI.at' 7 (by decide) (by simp only [hn]) (by decide) (by decide) (by decide)
                simp only [flowAct, List.zipWith_cons_cons, List.zipWith_nil_left]
                simp only [e7]
                go_wp2_with (fail)
                exact ⟨rfl, _, rfl, hI.val 8 (by decide) rfl⟩
              · intro L xs W hI hL hn
                simp [invNeeds, Region.binds] at hn
                have e8 : xs 8 = .pointer (some ⟨q, 8, none⟩) := hI.at' 8 (by decide) (by simp only [hn]) (by decide) (by decide) (by decide)
                have n10 := hI.no10 hL
                have n11 := hI.no11 (.inr n10)
                have n15 := hI.no15 n11
                have h0 := ph0 hI.ph n10 n11 n15
                have hrow : W.heap[q]? = some (.cells #[(.slice av9 nv9 cv9), .int .i64 site, .int .i64 seq, .int .i64 n, .int .i64 s, .int .i64 a, .int .i64 b, u, .string (text kx), .int .i64 ix, .bool gx, .string (text vx)] 129 (0, 0)) := by rw [h0]; exact HR5.out.row
                obtain ⟨⟨-, -, -, -, -, -, -, -, p8, p9, p10, p11⟩, -⟩ := rd_any hrow
                clear hrow n10 n11 n15 h0
                simp only [flowAct, List.zipWith_cons_cons, List.zipWith_nil_left]
                simp only [e8]
                go_wp2_with (fail)
                exact ⟨rfl, _, rfl, hI.val 9 (by decide) rfl⟩
              · intro L xs W hI hL hn
                simp [invNeeds, Region.binds] at hn
                have e9 : xs 9 = .agg #[.string (text kx), .int .i64 ix, .bool gx, .string (text vx)] := hI.at' 9 (by decide) (by simp only [hn]) (by decide) (by decide) (by decide)
                have n11 := hI.no11 (.inr hL)
                have n15 := hI.no15 n11
                have h0 := ph0 hI.ph hL n11 n15
                have h9 : L 9 = true := by simp only [hn]
                have HPN := Lib.hid (And.intro n11 n15)
                clear n11 n15
                subst h0
                simp only [flowAct, List.zipWith_cons_cons, List.zipWith_nil_left]
                simp only [e9]
                go_wp2_with (fail)
                exact ⟨rfl, _, rfl, hI.box h9 _ (by rw [HPN.out.1, HPN.out.2]; exact ⟨rfl, rfl⟩)⟩
              · intro L xs W hI hL hn
                simp [invNeeds, Region.binds] at hn
                have h10 : L 10 = true := by simp only [hn]
                have h5 : L 5 = true := by simp only [hn]
                have n15 := hI.no15 hL
                obtain ⟨e10, h0⟩ := ph1 hI.ph h10 hL n15
                have e5 : xs 5 = u := hI.at' 5 (by decide) h5 (by decide) (by decide) (by decide)
                have HPN := Lib.hid n15
                clear n15
                subst h0
                simp only [flowAct, List.zipWith_cons_cons, List.zipWith_nil_left]
                simp only [e5, e10]
                go_wp2_with (at_builtin; refine wpList_append_wr rfl _ _ rfl (w := { w5 with drawn := w5.drawn + 1 }) (base := w.heap.size) (u := u) (l := ws) rfl HO5.out kx _ _ _ rfl HL9.out HSZ5.out ?_; intro v' w' ho' hg')
                exact ⟨rfl, _, rfl, hI.app h10 h5 _ (by rw [HPN.out]; exact ⟨ho', heap_grown HRX.out hg' (own_ne HR5.out.row (by decide) HO5.out), HQD.out.app hg' (Nat.le_refl _) (fun z e => (OwnL.lt HO5.out z e).1)⟩)⟩
              · intro L xs W hI hL hn
                simp [invNeeds, Region.binds] at hn
                have e0 : xs 0 = .pointer (some ⟨q, 0, none⟩) := hI.at' 0 (by decide) (by simp only [hn]) (by decide) (by decide) (by decide)
                simp only [flowAct, List.zipWith_cons_cons, List.zipWith_nil_left]
                simp only [e0]
                go_wp2_with (fail)
                exact ⟨rfl, _, rfl, hI.val 12 (by decide) rfl⟩
              · intro L xs W hI hL hn
                simp [invNeeds, Region.binds] at hn
                have e12 : xs 12 = .pointer (some ⟨q, 0, none⟩) := hI.at' 12 (by decide) (by simp only [hn]) (by decide) (by decide) (by decide)
                simp only [flowAct, List.zipWith_cons_cons, List.zipWith_nil_left]
                simp only [e12]
                go_wp2_with (fail)
                exact ⟨rfl, _, rfl, hI.val 13 (by decide) rfl⟩
              · intro L xs W hI hL hn
                simp [invNeeds, Region.binds] at hn
                have e13 : xs 13 = .pointer (some ⟨q, 1, none⟩) := hI.at' 13 (by decide) (by simp only [hn]) (by decide) (by decide) (by decide)
                simp only [flowAct, List.zipWith_cons_cons, List.zipWith_nil_left]
                simp only [e13]
                go_wp2_with (fail)
                exact ⟨rfl, _, rfl, hI.val 14 (by decide) rfl⟩
              · intro L xs W hI hL hn
                simp [invNeeds, Region.binds] at hn
                have h14 : L 14 = true := by simp only [hn]
                have h11 : L 11 = true := by simp only [hn]
                have e14 : xs 14 = .pointer (some ⟨q, 7, none⟩) := hI.at' 14 (by decide) h14 (by decide) (by decide) (by decide)
                obtain ⟨ho', hrow, hq'⟩ := ph2 hI.ph h11 hL
                have HO' := Lib.hid ho'
                have HRW := Lib.hid hrow
                have HQ' := Lib.hid hq'
                obtain ⟨⟨-, -, -, -, -, -, -, p7, -⟩, pf⟩ := rd_any hrow
                clear ho' hrow hq'
                obtain ⟨ax, cx, e11, -⟩ := OwnL.wrs HO'.out
                obtain ⟨lx, hlx⟩ : ∃ z, (ws ++ [(⟨kx, ix, gx, vx⟩ : Wr)]).length = z := ⟨_, rfl⟩
                rw [hlx] at e11
                rw [e11] at HO'
                clear hlx
                simp only [flowAct, List.zipWith_cons_cons, List.zipWith_nil_left]
                simp only [e14, e11]
                go_wp2_with (fail)
                exact ⟨rfl, undef, rfl, hI.put h11 _ (show Ph4 _ _ _ _ _ _ true _ _ _ from by rw [e11]; exact ⟨OwnL.only HO'.out (Only.set _ ⟨q, 7, none⟩ _) HQW.out, (heap_setCell_same W q 7 _ _ _ HRW.out).trans rfl, HQ'.out.trans (Only.set _ ⟨q, 7, none⟩ _)⟩)⟩
            · intro L xs W hI hall
              obtain ⟨ho', hrow, hq'⟩ := ph3 hI.ph (hall 15 (by decide))
              have HO' := Lib.hid ho'
              have HRW := Lib.hid hrow
              have HQ' := Lib.hid hq'
              clear hI hall ho' hrow hq'
              simp only [flowAct, List.zipWith_cons_cons, List.zipWith_nil_left]
              go_wp2
              go_roundw
              case rel => exact ⟨k + 1, at0 + qn, ws ++ [⟨kx, ix, gx, vx⟩], _, kx, ix, gx, vx, av9, nv9, cv9, by omega, by go_num, HAT.out, HNN.out, by rw [List.length_append, HWL.out]; rfl, HSHN.out, ⟨HR5.out.base, HBW0.out.trans (HQ'.out.below HR5.out.base HBW0.out.size), HR5.out.bytes, HRW.out⟩, HO'.out, HQ'.out⟩
              case measure => simp [intOf]; omega
        · obtain rfl : mm = k := by omega
          go_wp2
          go_ret
          exact ⟨true, rfl, HQ.out, fun h => (by cases h), fun _ => ⟨_, _, _, _, _, ws, at0, _, _, _, HWS0.out.trans HN.out, HAT0.out, HR.out, HO.out, HSH.out⟩⟩
end Go.Proofs.YtfkmfccdhmnllaaDoor
end

section
namespace Go.Proofs.YtfkmfccdhmnllaaDoor
open Go.RowKit Go Go.Sort
set_option linter.unusedVariables false
set_option maxRecDepth 20000

theorem only7 (W : World) (B : Nat) (a b c d e f g : Value) : Only B W (((((((W.setCell ⟨B, 0, none⟩ a).setCell ⟨B, 1, none⟩ b).setCell ⟨B, 2, none⟩ c).setCell ⟨B, 3, none⟩ d).setCell ⟨B, 4, none⟩ e).setCell ⟨B, 5, none⟩ f).setCell ⟨B, 6, none⟩ g) :=
  (((((((Only.set _ ⟨B, 0, none⟩ _).trans (Only.set _ ⟨B, 1, none⟩ _)).trans (Only.set _ ⟨B, 2, none⟩ _)).trans (Only.set _ ⟨B, 3, none⟩ _)).trans (Only.set _ ⟨B, 4, none⟩ _)).trans (Only.set _ ⟨B, 5, none⟩ _)).trans (Only.set _ ⟨B, 6, none⟩ _))
/-- Values of a region's operations, one of which turns the world. -/
def selW (b : Bool) (W1 W2 : World) : World := match b with
  | false => W1
  | true => W2
structure InvW (N k : Nat) (V : Nat → Value) (W1 W2 : World) (L : Nat → Bool) (xs : Nat → Value) (W : World) : Prop where
  at' : ∀ i, i < N → L i = true → i ≠ k → xs i = V i
  world : W = selW (L k) W1 W2
section
variable {N k : Nat} {V : Nat → Value} {W1 W2 W : World} {L : Nat → Bool} {xs : Nat → Value}
theorem InvW.start (h : ∀ i, i < N → L i = false) (hk : k < N) (xs0 : Nat → Value) : InvW N k V W1 W2 L xs0 W1 :=
  ⟨fun i hi hL _ => (by rw [h i hi] at hL; cases hL), by rw [h k hk]; rfl⟩
theorem InvW.val (h : InvW N k V W1 W2 L xs W) (i : Nat) (hi : i ≠ k) {v : Value} (hv : v = V i) : InvW N k V W1 W2 (fun j => if j = i then true else L j) (fun j => if j = i then v else xs j) W := by
  refine ⟨fun j hj hL h1 => ?_, by simp only [if_neg (Ne.symm hi)]; exact h.world⟩
  by_cases e : j = i
  · subst e; simpa using hv
  · simp only [if_neg e] at hL ⊢; exact h.at' j hj hL h1
theorem InvW.st (h : InvW N k V W1 W2 L xs W) {W' : World} (hw : W' = W2) (v : Value) : InvW N k V W1 W2 (fun j => if j = k then true else L j) (fun j => if j = k then v else xs j) W' :=
  ⟨fun j hj hL h1 => by simp only [if_neg h1] at hL ⊢; exact h.at' j hj hL h1, by rw [hw]; simp [selW]⟩
end
/-- How the reading of a change ends. -/
def RStep (w0 w : World) (q : Nat) (l : List UInt8) (e : Ending) (w' : World) : Prop :=
  ∃ ok, e = .returned (.bool ok) ∧ Only q w w' ∧ (ok = false → chreadS l = none) ∧ (ok = true → ∃ (site seq n s a b : Int) (u : Value) (kx : List UInt8) (ix : Int) (gx : Bool) (vx : List UInt8) (ws : List Wr) (at' : Nat) (a9 : Option Addr) (n9 c9 : Nat),
    chreadS l = some (site, seq, n, s, a, b, ws, at') ∧ at' ≤ l.length ∧ Rdr w0 w' q a9 n9 c9 (l.drop at') site seq n s a b u kx ix gx vx ∧ OwnW w' w.heap.size u ws ∧ WShort ws)
theorem row5 {W : World} {q : Nat} {ty : TypeId} {x0 x1 x2 x3 x4 : Value} (h : W.heap[q]? = some (.cells #[x0, x1, x2, x3, x4] ty (0, 0))) : W.cell? ⟨q, 0, none⟩ = some x0 ∧ W.cell? ⟨q, 1, none⟩ = some x1 ∧ W.cell? ⟨q, 2, none⟩ = some x2 ∧ W.cell? ⟨q, 3, none⟩ = some x3 ∧ W.cell? ⟨q, 4, none⟩ = some x4 := by
  refine ⟨?_, ?_, ?_, ?_, ?_⟩ <;> (rw [cell_of_row W q _ _ ty (0, 0) h]; rfl)
set_option maxRecDepth 100000 in
set_option maxHeartbeats 6400000 in
theorem rstep_c {w0 w : World} {q : Nat} {av : Option Addr} {nv cv : Nat} {l : List UInt8} (h : Rdr w0 w q av nv cv l 0 0 0 0 0 0 (.slice none 0 0) [] 0 false []) {gs : Nat}
    (hs : w.heap[gs]? = some (.cells #[.func (.func 78) #[.pointer (some ⟨q, 0, none⟩)] #[], .func (.func 79) #[.pointer (some ⟨q, 0, none⟩)] #[], .func (.func 80) #[.pointer (some ⟨q, 0, none⟩)] #[], .func (.func 81) #[.pointer (some ⟨q, 0, none⟩)] #[], .func (.func 82) #[.pointer (some ⟨q, 0, none⟩)] #[]] 33 (0, 0))) (hne : gs ≠ q) : Calls Tryd.prog 77 #[.slice (some ⟨gs, 0, none⟩) 5 5] w (RStep w0 w q l) := by
  obtain ⟨⟨site, k1, f1⟩, h1⟩ : ∃ z, getS l = z := ⟨_, rfl⟩
  obtain ⟨q1, rfl, hq1⟩ := cnt_get h1
  obtain ⟨⟨seq, k2, f2⟩, h2⟩ : ∃ z, getS (l.drop q1) = z := ⟨_, rfl⟩
  obtain ⟨q2, rfl, hq2⟩ := cnt_get h2
  obtain ⟨⟨⟨n, s⟩, k3, f3⟩, h3⟩ : ∃ z, sgetS (l.drop (q1 + q2)) = z := ⟨_, rfl⟩
  obtain ⟨q3, rfl, hq3⟩ := cnt_s h3
  obtain ⟨⟨⟨a, b⟩, k4, f4⟩, h4⟩ : ∃ z, vgetS (l.drop (q1 + q2 + q3)) = z := ⟨_, rfl⟩
  obtain ⟨q4, rfl, hq4⟩ := cnt_v h4
  rw [List.length_drop] at hq2 hq3 hq4
  obtain ⟨F1, hF1⟩ : ∃ z, (f1 == 0) = z := ⟨_, rfl⟩
  obtain ⟨F2, hF2⟩ : ∃ z, (f2 == 0) = z := ⟨_, rfl⟩
  obtain ⟨F3, hF3⟩ : ∃ z, (f3 == 0) = z := ⟨_, rfl⟩
  obtain ⟨F4, hF4⟩ : ∃ z, (f4 == 0) = z := ⟨_, rfl⟩
  have HS1 := Lib.hid (stSite_c h site q1 f1 h1 hF1)
  have HS2 := Lib.hid (fun (W : World) (a9 : Option Addr) (n9 c9 : Nat) (hr : Rdr w0 W q a9 n9 c9 (l.drop q1) site 0 0 0 0 0 (.slice none 0 0) [] 0 false []) => by have hx := stSeq_c hr seq q2 f2 h2 hF2; rw [Int.toNat_natCast, List.drop_drop] at hx; exact hx)
  have HS3 := Lib.hid (fun (W : World) (a9 : Option Addr) (n9 c9 : Nat) (hr : Rdr w0 W q a9 n9 c9 (l.drop (q1 + q2)) site seq 0 0 0 0 (.slice none 0 0) [] 0 false []) => by have hx := stStamp_c hr n s q3 f3 h3 hF3; rw [Int.toNat_natCast, List.drop_drop] at hx; exact hx)
  have HS4 := Lib.hid (fun (W : World) (a9 : Option Addr) (n9 c9 : Nat) (hr : Rdr w0 W q a9 n9 c9 (l.drop (q1 + q2 + q3)) site seq n s 0 0 (.slice none 0 0) [] 0 false []) => by have hx := stVec_c hr a b q4 f4 h4 hF4; rw [Int.toNat_natCast, List.drop_drop] at hx; exact hx)
  have HS5 := Lib.hid (fun (W : World) (a9 : Option Addr) (n9 c9 : Nat) (hr : Rdr w0 W q a9 n9 c9 (l.drop (q1 + q2 + q3 + q4)) site seq n s a b (.slice none 0 0) [] 0 false []) => stWrites_c (by omega) hr)
  rw [Int.toNat_natCast] at HS1
  have HE1 := Lib.hid (show F1 = false → chreadS l = none from fun e => rd_1 h1 (by simpa [e] using hF1))
  have HE2 := Lib.hid (show F1 = true → F2 = false → chreadS l = none from fun e e' => by
    obtain rfl : f1 = 0 := by simpa [e] using hF1
    exact rd_2 h1 h2 (by simpa [e'] using hF2))
  have HE3 := Lib.hid (show F1 = true → F2 = true → F3 = false → chreadS l = none from fun e e' e'' => by
    obtain rfl : f1 = 0 := by simpa [e] using hF1
    obtain rfl : f2 = 0 := by simpa [e'] using hF2
    exact rd_3 h1 h2 h3 (by simpa [e''] using hF3))
  have HE4 := Lib.hid (show F1 = true → F2 = true → F3 = true → F4 = false → chreadS l = none from fun e e' e'' e3 => by
    obtain rfl : f1 = 0 := by simpa [e] using hF1
    obtain rfl : f2 = 0 := by simpa [e'] using hF2
    obtain rfl : f3 = 0 := by simpa [e''] using hF3
    exact rd_4 h1 h2 h3 h4 (by simpa [e3] using hF4))
  have HE5 := Lib.hid (show F1 = true → F2 = true → F3 = true → F4 = true → chreadS l = (wsS l (q1 + q2 + q3 + q4)).map fun r => (site, seq, n, s, a, b, r.1, r.2) from fun e e' e'' e3 => by
    obtain rfl : f1 = 0 := by simpa [e] using hF1
    obtain rfl : f2 = 0 := by simpa [e'] using hF2
    obtain rfl : f3 = 0 := by simpa [e''] using hF3
    obtain rfl : f4 = 0 := by simpa [e3] using hF4
    exact rd_w h1 h2 h3 h4)
  have HK := Lib.hid (fun W (ho : Only q w W) => row5 ((ho.rest gs (Array.getElem?_eq_some_iff.1 hs).1 hne).trans hs))
  clear h hs hne h1 h2 h3 h4 hq1 hq2 hq3 hq4 hF1 hF2 hF3 hF4
  obtain ⟨d0, d1, d2, d3, d4⟩ := HK.out w (Only.of_below (Below.refl _ _))
  go_enter Tryd.func77, Tryd.ntmps77
  go_wp2
  refine wp_loop_rounds 6 ?_
  rw [rounds_succ]
  go_upto_region 4 with (fail)
  clear d0 d1 d2 d3 d4
  cases F1 with
  | false =>
    go_wp2_with (go_at_call 78; (with_reducible refine (HS1.out).mono ?_); rintro e9 w1 ⟨a1, n1, c1, rfl, hr1, ho1⟩)
    go_ret
    exact ⟨false, rfl, ho1, fun _ => HE1.out (by first | rfl | trivial), fun h => (by cases h)⟩
  | true =>
    go_wp2_with (go_at_call 78; (with_reducible refine (HS1.out).mono ?_); rintro e9 w1 ⟨a1, n1, c1, rfl, hr1, ho1⟩)
    have HR1 := Lib.hid hr1
    have HO1 := Lib.hid (ho1)
    obtain ⟨d0, d1, d2, d3, d4⟩ := HK.out w1 HO1.out
    clear hr1 ho1 HS1 HE1
    rw [rounds_succ]
    go_upto_region 4 with (fail)
    clear d0 d1 d2 d3 d4
    cases F2 with
    | false =>
      go_wp2_with (go_at_call 79; (with_reducible refine ((HS2.out _ _ _ _ HR1.out)).mono ?_); rintro e9 w2 ⟨a2, n2, c2, rfl, hr2, ho2⟩)
      go_ret
      exact ⟨false, rfl, HO1.out.trans ho2, fun _ => HE2.out (by first | rfl | trivial) (by first | rfl | trivial), fun h => (by cases h)⟩
    | true =>
      go_wp2_with (go_at_call 79; (with_reducible refine ((HS2.out _ _ _ _ HR1.out)).mono ?_); rintro e9 w2 ⟨a2, n2, c2, rfl, hr2, ho2⟩)
      have HR2 := Lib.hid hr2
      have HO2 := Lib.hid (HO1.out.trans ho2)
      obtain ⟨d0, d1, d2, d3, d4⟩ := HK.out w2 HO2.out
      clear hr2 ho2 HS2 HE2 HR1 HO1
      rw [rounds_succ]
      go_upto_region 4 with (fail)
      clear d0 d1 d2 d3 d4
      cases F3 with
      | false =>
        go_wp2_with (go_at_call 80; (with_reducible refine ((HS3.out _ _ _ _ HR2.out)).mono ?_); rintro e9 w3 ⟨a3, n3, c3, rfl, hr3, ho3⟩)
        go_ret
        exact ⟨false, rfl, HO2.out.trans ho3, fun _ => HE3.out (by first | rfl | trivial) (by first | rfl | trivial) (by first | rfl | trivial), fun h => (by cases h)⟩
      | true =>
        go_wp2_with (go_at_call 80; (with_reducible refine ((HS3.out _ _ _ _ HR2.out)).mono ?_); rintro e9 w3 ⟨a3, n3, c3, rfl, hr3, ho3⟩)
        have HR3 := Lib.hid hr3
        have HO3 := Lib.hid (HO2.out.trans ho3)
        obtain ⟨d0, d1, d2, d3, d4⟩ := HK.out w3 HO3.out
        clear hr3 ho3 HS3 HE3 HR2 HO2
        rw [rounds_succ]
        go_upto_region 4 with (fail)
        clear d0 d1 d2 d3 d4
        cases F4 with
        | false =>
          go_wp2_with (go_at_call 81; (with_reducible refine ((HS4.out _ _ _ _ HR3.out)).mono ?_); rintro e9 w4 ⟨a4, n4, c4, rfl, hr4, ho4⟩)
          go_ret
          exact ⟨false, rfl, HO3.out.trans ho4, fun _ => HE4.out (by first | rfl | trivial) (by first | rfl | trivial) (by first | rfl | trivial) (by first | rfl | trivial), fun h => (by cases h)⟩
        | true =>
          go_wp2_with (go_at_call 81; (with_reducible refine ((HS4.out _ _ _ _ HR3.out)).mono ?_); rintro e9 w4 ⟨a4, n4, c4, rfl, hr4, ho4⟩)
          have HR4 := Lib.hid hr4
          have HO4 := Lib.hid (HO3.out.trans ho4)
          obtain ⟨d0, d1, d2, d3, d4⟩ := HK.out w4 HO4.out
          clear hr4 ho4 HS4 HE4 HR3 HO3
          rw [rounds_succ]
          go_upto_region 4 with (fail)
          clear d0 d1 d2 d3 d4
          go_upto_region 5 with (go_at_call 82; (with_reducible refine (HS5.out _ _ _ _ HR4.out).mono ?_); rintro e9 w5 ⟨ok, rfl, ho5, hf5, ht5⟩)
          · obtain rfl : ok = false := by first | assumption | (cases ok <;> first | rfl | (exfalso; contradiction))
            go_wp2
            go_ret
            exact ⟨false, rfl, HO4.out.trans ho5, fun _ => (HE5.out (by first | rfl | trivial) (by first | rfl | trivial) (by first | rfl | trivial) (by first | rfl | trivial)).trans (by rw [hf5 (by first | rfl | trivial)]; rfl), fun h => (by cases h)⟩
          · obtain rfl : ok = true := by first | assumption | (cases ok <;> first | rfl | (exfalso; contradiction))
            have HT5 := Lib.hid (ht5 rfl)
            have HO5 := Lib.hid ho5
            clear hf5 ht5 ho5
            go_upto_region 6 with (fail)
            go_wp2
            rw [rounds_succ]
            go_wp2
            go_ret
            obtain ⟨u, kx, ix, gx, vx, ws, at', a9, n9, c9, hw, hat, hr, ho, hx⟩ := HT5.out
            exact ⟨true, rfl, HO4.out.trans HO5.out, fun h => (by cases h), fun _ => ⟨_, _, _, _, _, _, _, _, _, _, _, _, _, _, _, _, (HE5.out (by first | rfl | trivial) (by first | rfl | trivial) (by first | rfl | trivial) (by first | rfl | trivial)).trans (by rw [hw]; rfl), hat, hr, OwnL.mono ho HO4.out.size, hx⟩⟩
set_option maxRecDepth 100000 in
set_option maxHeartbeats 6400000 in
theorem read_c {w : World} {ad : Option Addr} {m cap : Nat} {l : List UInt8} (hl : Bys w ad m cap l) : Calls Tryd.prog 48 #[.slice ad m cap] w (RdPost (chreadS l) m w) := by
  have hlen := hl.len
  have hle := hl.le
  have hmx := hl.max
  have hz := heap_alloc_new w (.cells #[.int .i64 0, .int .i64 0, .int .i64 0, .int .i64 0, .int .i64 0, .int .i64 0, .slice none 0 0] 29)
  have hb := alloc_below w (.cells #[.int .i64 0, .int .i64 0, .int .i64 0, .int .i64 0, .int .i64 0, .int .i64 0, .slice none 0 0] 29)
  have hbe := World.size_alloc w (.cells #[.int .i64 0, .int .i64 0, .int .i64 0, .int .i64 0, .int .i64 0, .int .i64 0, .slice none 0 0] 29)
  have HL := Lib.hid hl
  obtain ⟨RV, hRV⟩ : ∃ z, chreadS l = z := ⟨_, rfl⟩
  rw [hRV]
  have HRV := Lib.hid hRV
  clear hl hRV
  go_enter Tryd.func48, Tryd.ntmps48
  go_upto_region 1 with (fail)
  obtain ⟨B, hB⟩ : ∃ z, w.heap.size = z := ⟨_, rfl⟩
  have HBe := Lib.hid hB
  rw [hB] at hz hbe ⊢
  clear hB
  generalize w.alloc (.cells #[.int .i64 0, .int .i64 0, .int .i64 0, .int .i64 0, .int .i64 0, .int .i64 0, .slice none 0 0] 29) = W1 at *
  have hr2 := heap_alloc_new W1 (.cells #[.slice ad m cap, .int .i64 0, .int .i64 0, .int .i64 0, .int .i64 0, .int .i64 0, .int .i64 0, .slice none 0 0, .string ⟨#[]⟩, .int .i64 0, .bool false, .string ⟨#[]⟩] 129)
  have hb2 := alloc_below W1 (.cells #[.slice ad m cap, .int .i64 0, .int .i64 0, .int .i64 0, .int .i64 0, .int .i64 0, .int .i64 0, .slice none 0 0, .string ⟨#[]⟩, .int .i64 0, .bool false, .string ⟨#[]⟩] 129)
  have hbe2 := World.size_alloc W1 (.cells #[.slice ad m cap, .int .i64 0, .int .i64 0, .int .i64 0, .int .i64 0, .int .i64 0, .int .i64 0, .slice none 0 0, .string ⟨#[]⟩, .int .i64 0, .bool false, .string ⟨#[]⟩] 129)
  rw [hbe] at hr2 hbe2
  have HZ2 := Lib.hid (heap_below hz hb2)
  have HB2 := Lib.hid (hb.trans (hb2.mono hb.size))
  clear hz hb hb2
  go_upto_region 2 with (fail)
  try rw [hbe]
  clear hbe
  generalize W1.alloc (.cells #[.slice ad m cap, .int .i64 0, .int .i64 0, .int .i64 0, .int .i64 0, .int .i64 0, .int .i64 0, .slice none 0 0, .string ⟨#[]⟩, .int .i64 0, .bool false, .string ⟨#[]⟩] 129) = W2 at *
  have h2 : Rdr w W2 (B + 1) ad m cap l 0 0 0 0 0 0 (.slice none 0 0) [] 0 false [] := ⟨by rw [HBe.out]; omega, HB2.out, HL.out, hr2⟩
  have HST := Lib.hid (rstep_c (h2.grow (alloc_below W2 (.cells #[.func (.func 78) #[.pointer (some ⟨B + 1, 0, none⟩)] #[], .func (.func 79) #[.pointer (some ⟨B + 1, 0, none⟩)] #[], .func (.func 80) #[.pointer (some ⟨B + 1, 0, none⟩)] #[], .func (.func 81) #[.pointer (some ⟨B + 1, 0, none⟩)] #[], .func (.func 82) #[.pointer (some ⟨B + 1, 0, none⟩)] #[]] 33))) (heap_alloc_new W2 (.cells #[.func (.func 78) #[.pointer (some ⟨B + 1, 0, none⟩)] #[], .func (.func 79) #[.pointer (some ⟨B + 1, 0, none⟩)] #[], .func (.func 80) #[.pointer (some ⟨B + 1, 0, none⟩)] #[], .func (.func 81) #[.pointer (some ⟨B + 1, 0, none⟩)] #[], .func (.func 82) #[.pointer (some ⟨B + 1, 0, none⟩)] #[]] 33)) (by rw [hbe2]; omega))
  have HB3 := Lib.hid (alloc_below W2 (.cells #[.func (.func 78) #[.pointer (some ⟨B + 1, 0, none⟩)] #[], .func (.func 79) #[.pointer (some ⟨B + 1, 0, none⟩)] #[], .func (.func 80) #[.pointer (some ⟨B + 1, 0, none⟩)] #[], .func (.func 81) #[.pointer (some ⟨B + 1, 0, none⟩)] #[], .func (.func 82) #[.pointer (some ⟨B + 1, 0, none⟩)] #[]] 33))
  have hs3 := World.size_alloc W2 (.cells #[.func (.func 78) #[.pointer (some ⟨B + 1, 0, none⟩)] #[], .func (.func 79) #[.pointer (some ⟨B + 1, 0, none⟩)] #[], .func (.func 80) #[.pointer (some ⟨B + 1, 0, none⟩)] #[], .func (.func 81) #[.pointer (some ⟨B + 1, 0, none⟩)] #[], .func (.func 82) #[.pointer (some ⟨B + 1, 0, none⟩)] #[]] 33)
  rw [hbe2] at hs3
  have HS3 := Lib.hid hs3
  clear h2 hr2 hs3
  rw [hbe2] at HST
  clear hlen
  go_upto_region 3 with (go_at_call 77; (with_reducible refine HST.out.mono ?_); rintro e9 w5 ⟨ok, rfl, ho5, hf5, ht5⟩)
  · obtain rfl : ok = false := by first | assumption | (cases ok <;> first | rfl | (exfalso; contradiction))
    have HC := Lib.hid (HRV.out.symm.trans (hf5 rfl))
    have hz5 := (ho5.rest B (by rw [HS3.out]; omega) (by omega)).trans (heap_below HZ2.out HB3.out)
    obtain ⟨⟨r0, r1, r2, r3, r4, r5, r6⟩, rf⟩ := ch_any hz5
    have HB5 := Lib.hid ((HB2.out.trans (HB3.out.mono HB2.out.size)).trans (ho5.below (by rw [HBe.out]; omega) (HB2.out.trans (HB3.out.mono HB2.out.size)).size))
    clear hf5 ht5 ho5
    have HSB := Lib.hid (ch_set hz5 (.int .i64 0) (.int .i64 0) (.int .i64 0) (.int .i64 0) (.int .i64 0) (.int .i64 0) (.slice none 0 0))
    clear hz5
    go_wp2
    refine bodyPost_ret (res_cell_tmp2 rfl _ _ B 29 _ (0, 0) _ (.int .i64 0) (.bool false) rfl rfl rfl HSB.out Tryd.underlying29 rfl (by kernel_rfl)) rfl ⟨0, 0, 0, 0, 0, 0, .slice none 0 0, [], 0, false, rfl, OwnL.nil _ _ _, (fun c hc => by cases hc), HB5.out.trans (Only.below (only7 _ B _ _ _ _ _ _ _) (by rw [HBe.out]; exact Nat.le_refl _) HB5.out.size), fun _ => HC.out, fun h => (by cases h)⟩
  · obtain rfl : ok = true := by first | assumption | (cases ok <;> first | rfl | (exfalso; contradiction))
    obtain ⟨site, seq, n, s, a, b, u, kx, ix, gx, vx, ws, at9, a9, n9, c9, hc, hat, hr5, how, hsh⟩ := ht5 rfl
    obtain ⟨xu, cu, rfl, -⟩ := OwnL.wrs how
    obtain ⟨lu, hlu⟩ : ∃ z, ws.length = z := ⟨_, rfl⟩
    rw [hlu] at hr5 how
    clear hlu
    have HC := Lib.hid (HRV.out.symm.trans hc)
    have HZ5 := Lib.hid ((ho5.rest B (by rw [HS3.out]; omega) (by omega)).trans (heap_below HZ2.out HB3.out))
    have HB5 := Lib.hid ((HB2.out.trans (HB3.out.mono HB2.out.size)).trans (ho5.below (by rw [HBe.out]; omega) (HB2.out.trans (HB3.out.mono HB2.out.size)).size))
    have hn9 := hr5.bytes.len
    have hlen := HL.out.len
    rw [List.length_drop] at hn9
    have HAT := Lib.hid (show at9 ≤ m by omega)
    have HSUB := Lib.hid (show (m : Int) - (n9 : Int) = (at9 : Int) by omega)
    have hsz := HS3.out
    have HR5 := Lib.hid hr5
    rw [hsz] at how
    have HOW := Lib.hid how
    have HSH := Lib.hid hsh
    obtain ⟨Wd, hWd⟩ : ∃ X, ({ w5 with drawn := w5.drawn + 1 } : World) = X := ⟨_, rfl⟩
    obtain ⟨W2, hW2⟩ : ∃ X, (World.setCell (World.setCell (World.setCell (World.setCell (World.setCell (World.setCell (World.setCell Wd ⟨B, 0, none⟩ (.int .i64 site)) ⟨B, 1, none⟩ (.int .i64 seq)) ⟨B, 2, none⟩ (.int .i64 n)) ⟨B, 3, none⟩ (.int .i64 s)) ⟨B, 4, none⟩ (.int .i64 a)) ⟨B, 5, none⟩ (.int .i64 b)) ⟨B, 6, none⟩ (.slice xu lu cu)) = X := ⟨_, rfl⟩
    have hzd : Wd.heap[B]? = some (.cells #[.int .i64 0, .int .i64 0, .int .i64 0, .int .i64 0, .int .i64 0, .int .i64 0, .slice none 0 0] 29 (0, 0)) := by rw [← hWd]; exact HZ5.out
    have hrd : Wd.heap[B + 1]? = some (.cells #[(.slice a9 n9 c9), .int .i64 site, .int .i64 seq, .int .i64 n, .int .i64 s, .int .i64 a, .int .i64 b, .slice xu lu cu, .string (text kx), .int .i64 ix, .bool gx, .string (text vx)] 129 (0, 0)) := by rw [← hWd]; exact HR5.out.row
    have hso : Only B Wd W2 := by rw [← hW2]; exact (only7 _ B _ _ _ _ _ _ _)
    have HSB := Lib.hid (show W2.heap[B]? = some (.cells #[.int .i64 site, .int .i64 seq, .int .i64 n, .int .i64 s, .int .i64 a, .int .i64 b, .slice xu lu cu] 29 (0, 0)) from by rw [← hW2]; exact ch_set hzd (.int .i64 site) (.int .i64 seq) (.int .i64 n) (.int .i64 s) (.int .i64 a) (.int .i64 b) (.slice xu lu cu))
    have HRW := Lib.hid (fun (W : World) {bb : Bool} (h : W = selW bb Wd W2) => show W.heap[B + 1]? = some (.cells #[(.slice a9 n9 c9), .int .i64 site, .int .i64 seq, .int .i64 n, .int .i64 s, .int .i64 a, .int .i64 b, .slice xu lu cu, .string (text kx), .int .i64 ix, .bool gx, .string (text vx)] 129 (0, 0)) from by
      cases bb with
      | false => replace h : W = Wd := h; rw [h]; exact hrd
      | true => replace h : W = W2 := h; rw [h]; exact (hso.rest (B + 1) (Array.getElem?_eq_some_iff.1 hrd).1 (by omega)).trans hrd)
    have HBD := Lib.hid (show Below w.heap.size w Wd from by rw [← hWd]; exact ⟨HB5.out.os, HB5.out.tape, HB5.out.output, HB5.out.size, HB5.out.block⟩)
    have HOD := Lib.hid (show OwnW Wd (B + 1 + 1 + 1) (.slice xu lu cu) ws from by rw [← hWd]; exact how)
    have HZD := Lib.hid hzd
    have HSO := Lib.hid hso
    have HW2 := Lib.hid hW2
    have HWD := Lib.hid hWd
    clear hzd hrd hso hW2 hWd
    clear hf5 ht5 ho5 hc hat hr5 how hsh hn9 hlen hsz
    refine wp_region_inv [none, none, none, some 13, some 14, none, none, none, none, none, none, none, none, none, none, none, none, none, none, none, none, none, none, some 0, some 1, some 2, some 3, some 4, some 5, some 6, some 7, some 8, some 9, some 10, some 11] (fun i => [undef, undef, undef, undef, undef, undef, undef, undef, undef, undef, undef, undef, undef, .int .i64 0, .bool false].getD i undef) (InvW 15 12 (fun i => [.pointer (some ⟨B + 1, 0, none⟩), .pointer (some ⟨B + 1, 0, none⟩), .pointer (some ⟨B + 1, 1, none⟩), .agg #[.int .i64 site, .int .i64 seq, .int .i64 n, .int .i64 s, .int .i64 a, .int .i64 b, .slice xu lu cu], .slice ad m cap, .int .i64 (m : Int), .pointer (some ⟨B + 1, 0, none⟩), .pointer (some ⟨B + 1, 0, none⟩), .pointer (some ⟨B + 1, 0, none⟩), .slice a9 n9 c9, .int .i64 (n9 : Int), .int .i64 (at9 : Int), undef, .int .i64 (at9 : Int), .bool true].getD i undef) Wd W2) (by kernel_rfl) (by kernel_rfl) rfl rfl (fun L hL => by rw [HWD.out]; exact InvW.start (fun i hi => hL i hi) (by decide) _) ?_ ?_
    · simp only [invOps, and_true]
      refine ⟨?_, ?_, ?_, ?_, ?_, ?_, ?_, ?_, ?_, ?_, ?_, ?_, ?_, ?_, ?_⟩
      · intro L xs W hI hL hn
        simp only [flowAct, List.zipWith_cons_cons, List.zipWith_nil_left]
        go_wp2_with (fail)
        exact ⟨rfl, _, rfl, hI.val 0 (by decide) rfl⟩
      · intro L xs W hI hL hn
        simp [invNeeds, Region.binds] at hn
        have e0 : xs 0 = .pointer (some ⟨B + 1, 0, none⟩) := hI.at' 0 (by decide) (by simp only [hn]) (by decide)
        simp only [flowAct, List.zipWith_cons_cons, List.zipWith_nil_left]
        simp only [e0]
        go_wp2_with (fail)
        exact ⟨rfl, _, rfl, hI.val 1 (by decide) rfl⟩
      · intro L xs W hI hL hn
        simp [invNeeds, Region.binds] at hn
        have e1 : xs 1 = .pointer (some ⟨B + 1, 0, none⟩) := hI.at' 1 (by decide) (by simp only [hn]) (by decide)
        simp only [flowAct, List.zipWith_cons_cons, List.zipWith_nil_left]
        simp only [e1]
        go_wp2_with (fail)
        exact ⟨rfl, _, rfl, hI.val 2 (by decide) rfl⟩
      · intro L xs W hI hL hn
        simp [invNeeds, Region.binds] at hn
        have e2 : xs 2 = .pointer (some ⟨B + 1, 1, none⟩) := hI.at' 2 (by decide) (by simp only [hn]) (by decide)
        obtain ⟨⟨p0, p1, p2, p3, p4, p5, p6, p7, -⟩, -⟩ := rd_any (HRW.out W hI.world)
        simp only [flowAct, List.zipWith_cons_cons, List.zipWith_nil_left]
        simp only [e2]
        go_wp2_with (fail)
        exact ⟨rfl, _, rfl, hI.val 3 (by decide) rfl⟩
      · intro L xs W hI hL hn
        simp only [flowAct, List.zipWith_cons_cons, List.zipWith_nil_left]
        go_wp2_with (fail)
        exact ⟨rfl, _, rfl, hI.val 4 (by decide) rfl⟩
      · intro L xs W hI hL hn
        simp [invNeeds, Region.binds] at hn
        have e4 : xs 4 = .slice ad m cap := hI.at' 4 (by decide) (by simp only [hn]) (by decide)
        simp only [flowAct, List.zipWith_cons_cons, List.zipWith_nil_left]
        simp only [e4]
        go_wp2_with (fail)
        exact ⟨rfl, _, rfl, hI.val 5 (by decide) rfl⟩
      · intro L xs W hI hL hn
        simp only [flowAct, List.zipWith_cons_cons, List.zipWith_nil_left]
        go_wp2_with (fail)
        exact ⟨rfl, _, rfl, hI.val 6 (by decide) rfl⟩
      · intro L xs W hI hL hn
        simp [invNeeds, Region.binds] at hn
        have e6 : xs 6 = .pointer (some ⟨B + 1, 0, none⟩) := hI.at' 6 (by decide) (by simp only [hn]) (by decide)
        simp only [flowAct, List.zipWith_cons_cons, List.zipWith_nil_left]
        simp only [e6]
        go_wp2_with (fail)
        exact ⟨rfl, _, rfl, hI.val 7 (by decide) rfl⟩
      · intro L xs W hI hL hn
        simp [invNeeds, Region.binds] at hn
        have e7 : xs 7 = .pointer (some ⟨B + 1, 0, none⟩) := hI.at' 7 (by decide) (by simp only [hn]) (by decide)
        simp only [flowAct, List.zipWith_cons_cons, List.zipWith_nil_left]
        simp only [e7]
        go_wp2_with (fail)
        exact ⟨rfl, _, rfl, hI.val 8 (by decide) rfl⟩
      · intro L xs W hI hL hn
        simp [invNeeds, Region.binds] at hn
        have e8 : xs 8 = .pointer (some ⟨B + 1, 0, none⟩) := hI.at' 8 (by decide) (by simp only [hn]) (by decide)
        obtain ⟨⟨p0, p1, p2, p3, p4, p5, p6, p7, -⟩, -⟩ := rd_any (HRW.out W hI.world)
        simp only [flowAct, List.zipWith_cons_cons, List.zipWith_nil_left]
        simp only [e8]
        go_wp2_with (fail)
        exact ⟨rfl, _, rfl, hI.val 9 (by decide) rfl⟩
      · intro L xs W hI hL hn
        simp [invNeeds, Region.binds] at hn
        have e9 : xs 9 = .slice a9 n9 c9 := hI.at' 9 (by decide) (by simp only [hn]) (by decide)
        simp only [flowAct, List.zipWith_cons_cons, List.zipWith_nil_left]
        simp only [e9]
        go_wp2_with (fail)
        exact ⟨rfl, _, rfl, hI.val 10 (by decide) rfl⟩
      · intro L xs W hI hL hn
        simp [invNeeds, Region.binds] at hn
        have e5 : xs 5 = .int .i64 (m : Int) := hI.at' 5 (by decide) (by simp only [hn]) (by decide)
        have e10 : xs 10 = .int .i64 (n9 : Int) := hI.at' 10 (by decide) (by simp only [hn]) (by decide)
        have hsub := HSUB.out
        simp only [flowAct, List.zipWith_cons_cons, List.zipWith_nil_left]
        simp only [e5, e10]
        go_wp2_with (fail)
        exact ⟨rfl, _, rfl, hI.val 11 (by decide) (show (Value.int .i64 _ : Value) = .int .i64 (at9 : Int) from by first | rfl | go_num)⟩
      · intro L xs W hI hL hn
        simp [invNeeds, Region.binds] at hn
        have e3 : xs 3 = .agg #[.int .i64 site, .int .i64 seq, .int .i64 n, .int .i64 s, .int .i64 a, .int .i64 b, .slice xu lu cu] := hI.at' 3 (by decide) (by simp only [hn]) (by decide)
        have hw := hI.world
        rw [hL] at hw
        replace hw : W = Wd := hw
        subst hw
        obtain ⟨⟨r0, r1, r2, r3, r4, r5, r6⟩, rf⟩ := ch_any HZD.out
        simp only [flowAct, List.zipWith_cons_cons, List.zipWith_nil_left]
        simp only [e3]
        go_wp2_with (fail)
        exact ⟨rfl, undef, rfl, hI.st HW2.out undef⟩
      · intro L xs W hI hL hn
        simp [invNeeds, Region.binds] at hn
        have e11 : xs 11 = .int .i64 (at9 : Int) := hI.at' 11 (by decide) (by simp only [hn]) (by decide)
        simp only [flowAct, List.zipWith_cons_cons, List.zipWith_nil_left]
        simp only [e11]
        go_wp2_with (fail)
        exact ⟨rfl, _, rfl, hI.val 13 (by decide) rfl⟩
      · intro L xs W hI hL hn
        simp only [flowAct, List.zipWith_cons_cons, List.zipWith_nil_left]
        go_wp2_with (fail)
        exact ⟨rfl, _, rfl, hI.val 14 (by decide) rfl⟩
    · intro L xs W hI hall
      have hw := hI.world
      rw [hall 12 (by decide)] at hw
      replace hw : W = W2 := hw
      subst hw
      have e13 := hI.at' 13 (by decide) (hall 13 (by decide)) (by decide)
      have e14 := hI.at' 14 (by decide) (hall 14 (by decide)) (by decide)
      replace e13 : xs 13 = .int .i64 (at9 : Int) := e13
      replace e14 : xs 14 = .bool true := e14
      clear hI hall
      simp only [flowAct, List.zipWith_cons_cons, List.zipWith_nil_left]
      simp only [e13, e14]
      clear e13 e14
      go_wp2
      refine bodyPost_ret (res_cell_tmp2 rfl _ _ B 29 _ (0, 0) _ (.int .i64 (at9 : Int)) (.bool true) rfl rfl rfl HSB.out Tryd.underlying29 rfl (by kernel_rfl)) rfl ⟨site, seq, n, s, a, b, .slice xu lu cu, ws, (at9 : Int), true, rfl, OwnL.mono (OwnL.only HOD.out HSO.out (by omega)) (by rw [HBe.out]; omega), HSH.out, HBD.out.trans (HSO.out.below (by rw [HBe.out]; exact Nat.le_refl _) HBD.out.size), (fun h => by cases h), fun _ => ⟨at9, rfl, HAT.out, HC.out⟩⟩
end Go.Proofs.YtfkmfccdhmnllaaDoor
end

section
namespace Go.Proofs.YtfkmfccdhmnllaaDoor
open Go.RowKit Go Go.Sort
set_option linter.unusedVariables false
set_option maxRecDepth 20000

set_option maxRecDepth 100000 in
set_option maxHeartbeats 12800000 in
theorem chget_c {w : World} {ad : Option Addr} {m9 cap9 : Nat} {by9 : List UInt8} (hy : Bys w ad m9 cap9 by9) {x : Option Addr} {n1 cap : Nat} {gs : List Grp} (hg : Grs w x n1 cap gs) (hs : ∀ g ∈ gs, g.1.length ≤ 9223372036854775807) :
    Calls Tryd.prog 20 #[.slice ad m9 cap9, .slice x n1 cap] w (ChGetPost (chgetS gs by9) w) := by
  have hb := alloc_below w (.cells #[.int .i64 0, .int .i64 0, .int .i64 0, .int .i64 0, .int .i64 0, .int .i64 0, .slice none 0 0] 29)
  have hz := heap_alloc_new w (.cells #[.int .i64 0, .int .i64 0, .int .i64 0, .int .i64 0, .int .i64 0, .int .i64 0, .slice none 0 0] 29)
  have HRD := Lib.hid (fun W (h : Below w.heap.size w W) => read_c (hy.below h))
  have HPG := Lib.hid (fun W (h : Below w.heap.size w W) => pgood_c (hg.below h) hs)
  have HCG := Lib.hid (fun W (h : Below w.heap.size w W) (x2 : Option Addr) (m cap2 : Nat) (l : List Wr) (hl : Wrs W x2 m cap2 l) (hx : WShort l) (site seq n s a b : Int) => chgood_c (hg.below h) hs hl hx site seq n s a b)
  have H1 := Lib.hid (@chget_pol gs by9)
  have H2 := Lib.hid (@chget_none gs by9)
  have H3 := Lib.hid (@chget_bad gs by9)
  have H4 := Lib.hid (@chget_yes gs by9)
  obtain ⟨RV, hRV⟩ : ∃ z, chgetS gs by9 = z := ⟨_, rfl⟩
  rw [hRV] at H1 H2
  simp only [hRV] at H3 H4
  rw [hRV]
  obtain ⟨P, hP⟩ : ∃ z, pgoodS gs = z := ⟨_, rfl⟩
  rw [hP] at H1 H2
  simp only [hP] at HPG H3 H4
  clear hRV hP hy hg
  go_enter Tryd.func20, Tryd.ntmps20
  go_upto_region 1 with (fail)
  obtain ⟨B, hB⟩ : ∃ z, w.heap.size = z := ⟨_, rfl⟩
  have HBe := Lib.hid hB
  rw [hB] at hz ⊢
  clear hB
  generalize w.alloc (.cells #[.int .i64 0, .int .i64 0, .int .i64 0, .int .i64 0, .int .i64 0, .int .i64 0, .slice none 0 0] 29) = W1 at *
  have HB1 := Lib.hid hb
  have HZ1 := Lib.hid hz
  clear hz hb
  by_cases h0 : P = 0
  · subst h0
    go_upto_region 3 with (go_at_call 33; (with_reducible refine (HPG.out _ HB1.out).mono ?_); rintro e9 w2 ⟨rfl, hb2⟩)
    have HB2 := Lib.hid (HB1.out.trans (hb2.mono HB1.out.size))
    have HZ2 := Lib.hid (heap_below HZ1.out hb2)
    have HP0 := Lib.hid (show (0 : Int) = 0 from rfl)
    clear hb2 HB1 HZ1 HPG H1
    go_upto_region 5 with (go_at_call 48; (with_reducible refine (HRD.out _ HB2.out).mono ?_); rintro e9 w4 ⟨site, seq, n, s, a, b, v, ws, k, ok, rfl, ho4, hsh4, hb4, hno4, hyes4⟩; obtain ⟨a9, c9, rfl, -⟩ := OwnL.wrs ho4)
    have hal := alloc_below w4 (.cells #[.int .i64 site, .int .i64 seq, .int .i64 n, .int .i64 s, .int .i64 a, .int .i64 b, .slice a9 ws.length c9] 29)
    have hbx := hb4.trans (hal.mono hb4.size)
    have HS4 := Lib.hid (heap_alloc_new w4 (.cells #[.int .i64 site, .int .i64 seq, .int .i64 n, .int .i64 s, .int .i64 a, .int .i64 b, .slice a9 ws.length c9] 29))
    have HB4 := Lib.hid (HB2.out.trans (hbx.mono HB2.out.size))
    have HZ4 := Lib.hid (heap_below HZ2.out hbx)
    have HO4 := Lib.hid ((ho4.mono HB2.out.size).kept hal)
    obtain ⟨gw, hgw⟩ : ∃ z, w4.heap.size = z := ⟨_, rfl⟩
    rw [hgw] at HS4 ⊢
    generalize w4.alloc (.cells #[.int .i64 site, .int .i64 seq, .int .i64 n, .int .i64 s, .int .i64 a, .int .i64 b, .slice a9 ws.length c9] 29) = W4 at *
    clear ho4 hb4 hal hbx HB2 HZ2 hgw HRD
    have HSH := Lib.hid hsh4
    clear hsh4
    obtain ⟨⟨x0, x1, x2, x3, x4, x5, x6⟩, xf⟩ := ch_any HS4.out
    cases ok with
    | false =>
      have HRR := Lib.hid (H2.out HP0.out (hno4 rfl))
      obtain ⟨⟨z0, z1, z2, z3, z4, z5, z6⟩, zf⟩ := ch_any HZ4.out
      have HSB := Lib.hid (ch_set HZ4.out (.int .i64 0) (.int .i64 0) (.int .i64 0) (.int .i64 0) (.int .i64 0) (.int .i64 0) (.slice none 0 0))
      have HBB := Lib.hid (ch_set_below (q := B) HB4.out (by have := HBe.out; omega) (.int .i64 0) (.int .i64 0) (.int .i64 0) (.int .i64 0) (.int .i64 0) (.int .i64 0) (.slice none 0 0))
      go_wp2
      refine bodyPost_ret (res_cell_tmp2 rfl _ _ B 29 _ (0, 0) _ (.int .i64 (0)) (.int .i64 (120)) rfl rfl rfl HSB.out Tryd.underlying29 rfl (by kernel_rfl)) rfl ⟨_, _, _, _, _, _, _, [], 0, 120, rfl, OwnL.nil _ _ _, (fun c hc => by cases hc), HBB.out, HRR.out⟩
    | true =>
      obtain ⟨q, hq, -, hrd⟩ := hyes4 rfl
      subst hq
      obtain ⟨a8, c8, e8, hws⟩ := OwnL.wrs HO4.out
      injection e8 with e81 e82 e83
      subst e81 e83
      have HCC := Lib.hid (HCG.out W4 HB4.out a9 ws.length c9 ws hws HSH.out site seq n s a b)
      by_cases h1 : chgoodS gs site seq n s a b ws = 0
      · have HRR := Lib.hid (H4.out site seq n s a b ws q HP0.out hrd h1)
        simp only [h1] at HCC
        clear hrd h1 hws e82 hno4 hyes4 HCG
        go_upto_region 7 with (go_at_call 13; (with_reducible refine HCC.out.mono ?_); rintro e9 w5 ⟨rfl, hb5⟩)
        have HB5 := Lib.hid (HB4.out.trans (hb5.mono HB4.out.size))
        have HZ5 := Lib.hid (heap_below HZ4.out hb5)
        have HS5 := Lib.hid (heap_below HS4.out hb5)
        have HO5 := Lib.hid (HO4.out.kept hb5)
        obtain ⟨⟨y0, y1, y2, y3, y4, y5, y6⟩, yf⟩ := ch_any HS5.out
        clear hb5 HB4 HZ4 HS4 HO4
        obtain ⟨⟨z0, z1, z2, z3, z4, z5, z6⟩, zf⟩ := ch_any HZ5.out
        have HSB := Lib.hid (ch_set HZ5.out (.int .i64 site) (.int .i64 seq) (.int .i64 n) (.int .i64 s) (.int .i64 a) (.int .i64 b) (.slice a9 ws.length c9))
        have HBB := Lib.hid (ch_set_below (q := B) HB5.out (by have := HBe.out; omega) (.int .i64 site) (.int .i64 seq) (.int .i64 n) (.int .i64 s) (.int .i64 a) (.int .i64 b) (.slice a9 ws.length c9))
        have HOB := Lib.hid ((HO5.out).of_block fun q hq => ch_set_other (q := B) (p := q) (fun e => own_ne HZ5.out (by decide) HO5.out (by rw [hq, e])) (.int .i64 site) (.int .i64 seq) (.int .i64 n) (.int .i64 s) (.int .i64 a) (.int .i64 b) (.slice a9 ws.length c9))
        go_wp2
        refine bodyPost_ret (res_cell_tmp2 rfl _ _ B 29 _ (0, 0) _ (.int .i64 ((q : Int))) (.int .i64 (0)) rfl rfl rfl HSB.out Tryd.underlying29 rfl (by kernel_rfl)) rfl ⟨_, _, _, _, _, _, _, ws, (q : Int), 0, rfl, HOB.out, HSH.out, HBB.out, HRR.out⟩
      · have HRR := Lib.hid (H3.out site seq n s a b ws q HP0.out hrd h1)
        obtain ⟨ER, hER⟩ : ∃ z, chgoodS gs site seq n s a b ws = z := ⟨_, rfl⟩
        rw [hER] at h1
        simp only [hER] at HCC
        have h1n : (ER != 0) = true := by simpa using h1
        clear hrd hws e82 hno4 hyes4 HCG hER
        go_upto_region 6 with (go_at_call 13; (with_reducible refine HCC.out.mono ?_); rintro e9 w5 ⟨rfl, hb5⟩)
        have HB5 := Lib.hid (HB4.out.trans (hb5.mono HB4.out.size))
        have HZ5 := Lib.hid (heap_below HZ4.out hb5)
        have HS5 := Lib.hid (heap_below HS4.out hb5)
        have HO5 := Lib.hid (HO4.out.kept hb5)
        obtain ⟨⟨y0, y1, y2, y3, y4, y5, y6⟩, yf⟩ := ch_any HS5.out
        clear hb5 HB4 HZ4 HS4 HO4
        obtain ⟨⟨z0, z1, z2, z3, z4, z5, z6⟩, zf⟩ := ch_any HZ5.out
        have HSB := Lib.hid (ch_set HZ5.out (.int .i64 0) (.int .i64 0) (.int .i64 0) (.int .i64 0) (.int .i64 0) (.int .i64 0) (.slice none 0 0))
        have HBB := Lib.hid (ch_set_below (q := B) HB5.out (by have := HBe.out; omega) (.int .i64 0) (.int .i64 0) (.int .i64 0) (.int .i64 0) (.int .i64 0) (.int .i64 0) (.slice none 0 0))
        go_wp2
        refine bodyPost_ret (res_cell_tmp2 rfl _ _ B 29 _ (0, 0) _ (.int .i64 (0)) (.int .i64 (120)) rfl rfl rfl HSB.out Tryd.underlying29 rfl (by kernel_rfl)) rfl ⟨_, _, _, _, _, _, _, [], 0, 120, rfl, OwnL.nil _ _ _, (fun c hc => by cases hc), HBB.out, HRR.out⟩
  · have h0n : (P != 0) = true := by simpa using h0
    have HRR := Lib.hid (H1.out h0)
    go_upto_region 2 with (go_at_call 33; (with_reducible refine (HPG.out _ HB1.out).mono ?_); rintro e9 w2 ⟨rfl, hb2⟩)
    have HB2 := Lib.hid (HB1.out.trans (hb2.mono HB1.out.size))
    have HZ2 := Lib.hid (heap_below HZ1.out hb2)
    clear hb2 HB1 HZ1 HPG
    obtain ⟨⟨z0, z1, z2, z3, z4, z5, z6⟩, zf⟩ := ch_any HZ2.out
    have HSB := Lib.hid (ch_set HZ2.out (.int .i64 0) (.int .i64 0) (.int .i64 0) (.int .i64 0) (.int .i64 0) (.int .i64 0) (.slice none 0 0))
    have HBB := Lib.hid (ch_set_below (q := B) HB2.out (by have := HBe.out; omega) (.int .i64 0) (.int .i64 0) (.int .i64 0) (.int .i64 0) (.int .i64 0) (.int .i64 0) (.slice none 0 0))
    go_wp2
    refine bodyPost_ret (res_cell_tmp2 rfl _ _ B 29 _ (0, 0) _ (.int .i64 (0)) (.int .i64 (P)) rfl rfl rfl HSB.out Tryd.underlying29 rfl (by kernel_rfl)) rfl ⟨_, _, _, _, _, _, _, [], 0, P, rfl, OwnL.nil _ _ _, (fun c hc => by cases hc), HBB.out, HRR.out⟩
end Go.Proofs.YtfkmfccdhmnllaaDoor
end

section
namespace Go.Proofs.YtfkmfccdhmnllaaDoor
open Go.RowKit Go Go.Sort
set_option linter.unusedVariables false
set_option maxRecDepth 20000

theorem mem_getDw {l : List Wr} {k : Nat} (h : k < l.length) : l.getD k Wr.zero ∈ l := by
  rw [List.getD_eq_getElem?_getD, List.getElem?_eq_getElem h]; exact List.getElem_mem h
def lightW (g : Nat) (ws : List Wr) : Nat → Nat
  | 0 => satN 0 g
  | k + 1 => satN (satN (satN (lightW g ws k) 10) (ws.getD k Wr.zero).k.length) (ws.getD k Wr.zero).v.length
theorem lightW_le (g : Nat) (ws : List Wr) : ∀ k, lightW g ws k ≤ 5001
  | 0 => satN_le _ _
  | k + 1 => satN_le _ _
theorem lightW_full {g k : Nat} {ws : List Wr} (h : 5000 < lightW g ws k) : ∀ j, k ≤ j → lightW g ws j = 5001
  | 0, hj => by
    obtain rfl : k = 0 := by omega
    have := lightW_le g ws 0
    omega
  | j + 1, hj => by
    by_cases e : k = j + 1
    · subst e
      have := lightW_le g ws (j + 1)
      omega
    · have h0 := lightW_full h j (by omega)
      have h1 := satN_full (show 5000 < lightW g ws j by omega) 10
      have h2 := satN_full (show 5000 < satN (lightW g ws j) 10 by omega) (ws.getD j Wr.zero).k.length
      exact satN_full (by omega) _
set_option maxRecDepth 100000 in
set_option maxHeartbeats 6400000 in
theorem lightw_c {w : World} {x x2 : Option Addr} {n1 cap m cap2 : Nat} {l : List Wr} (hn1 : n1 ≤ 9223372036854775807) (hl : Wrs w x2 m cap2 l) (hx : WShort l) : Calls Tryd.prog 9 #[.slice x n1 cap, .slice x2 m cap2] w (Tells (.bool (decide (lightW n1 l m ≤ 5000))) w) := by
  have hle2 := hl.le
  have hmax2 := hl.max
  have hll := hl.len
  have HL := Lib.hid hl
  have HX := Lib.hid hx
  have HAF := Lib.hid (fun W => show Calls Tryd.prog 27 #[.int .i64 0, .int .i64 (n1 : Int), .int .i64 5000] W _ from radd_c 0 n1 (by omega) hn1 W)
  have HF := Lib.hid (@lightW_full n1 · l)
  clear hl hx
  obtain ⟨R, hR⟩ : ∃ z, lightW n1 l m = z := ⟨_, rfl⟩
  rw [hR]
  have HR := Lib.hid hR
  clear hR
  go_enter Tryd.func9, Tryd.ntmps9
  go_upto_region 3 with (go_at_call 27; (with_reducible refine (HAF.out _).mono ?_); rintro e9 w9 ⟨rfl, rfl⟩)
  go_loopw [5, 6] (fun v i9 wr => ∃ (k nk : Nat), k ≤ m ∧ i9 = .int .i64 k ∧ v = .int .i64 (nk : Int) ∧ lightW n1 l k = nk ∧ Below w.heap.size w wr) (fun _ i9 _ => m - (intOf i9).toNat)
  case atStart => exact ⟨0, satN 0 n1, by omega, rfl, rfl, rfl, Below.refl _ _⟩
  case round =>
    obtain ⟨k, nk, hk, rfl, rfl, hnk, hB⟩ := hrel
    have hn5 : nk ≤ 5001 := by rw [← hnk]; exact lightW_le _ _ _
    have HNK := Lib.hid hnk
    have HB := Lib.hid hB
    clear hnk hB
    by_cases hkm : k < m
    · have hki : (k : Int) < (m : Int) := by omega
      have hkc : (k : Int) < (cap2 : Int) := by omega
      by_cases hf : 5000 < nk
      · have hfi : ¬ (nk : Int) ≤ 5000 := by omega
        have HRN := Lib.hid (show R = 5001 by rw [← HR.out]; exact lightW_full (k := k) (by rw [HNK.out]; exact hf) m hk)
        have hd : decide (R ≤ 5000) = false := by rw [HRN.out]; rfl
        have HD := Lib.hid hd
        clear hd
        go_wp2
        go_ret
        exact ⟨by rw [HD.out]; rfl, HB.out⟩
      · have hfi : (nk : Int) ≤ 5000 := by omega
        obtain ⟨bk, off, rfl, hat⟩ := HL.out.place hkm
        have hm1 : l.getD k Wr.zero ∈ l := mem_getDw (by omega)
        have hcx := HX.out _ hm1
        have hst : lightW n1 l (k + 1) = satN (satN (satN nk 10) (l.getD k Wr.zero).k.length) (l.getD k Wr.zero).v.length := by rw [← HNK.out]; rfl
        obtain ⟨y, hy⟩ : ∃ y, l.getD k Wr.zero = y := ⟨_, rfl⟩
        rw [hy] at hat hcx hst
        obtain ⟨kx, ix, gx, vx⟩ := y
        simp only at hat hcx hst
        have HST := Lib.hid hst
        have HAT := Lib.hid (fun W (h : Below wr.heap.size wr W) => hat W (HB.out.trans (h.mono HB.out.size)))
        have HSZ := Lib.hid (show ((text kx).size : Int) = (kx.length : Int) by rw [text_size])
        have HSZ2 := Lib.hid (show ((text vx).size : Int) = (vx.length : Int) by rw [text_size])
        have HA0 := Lib.hid (fun W => show Calls Tryd.prog 27 #[.int .i64 (nk : Int), .int .i64 10, .int .i64 5000] W _ from radd_c nk 10 hn5 (by omega) W)
        have HA1 := Lib.hid (fun W => radd_c (satN nk 10) kx.length (satN_le _ _) hcx.1 W)
        have HA2 := Lib.hid (fun W => radd_c (satN (satN nk 10) kx.length) vx.length (satN_le _ _) hcx.2 W)
        clear hat hm1 hcx hst hy
        go_upto_region 5 with (fail)
        refine wp_region_flow_tail 15 [none, none, none, none, none, none, none, none, none, none, none, none, none, none, none, none, none, none, none, none, some 0, some 1, some 2, some 3, some 4, some 5, some 6, some 7, some 8, some 9, some 10, some 11, some 12, some 13, some 14, none, none, none] (fun i => [u20, u21, u22, u23, u24, u25, u26, u27, u28, u29, u30, u31, u32, u33, u34].getD i undef) [(fun v _ => v = .int .i64 (nk : Int)), (fun v _ => v = .int .i64 ((satN nk 10 : Nat) : Int)), (fun v _ => v = .slice (some ⟨bk, off, none⟩) m cap2), (fun v _ => v = .int .i64 (k : Int)), (fun v _ => v = .pointer (some ⟨bk, off + k * 4, none⟩)), (fun v _ => v = .pointer (some ⟨bk, off + k * 4, none⟩)), (fun v _ => v = .string (text kx)), (fun v _ => v = .int .i64 (kx.length : Int)), (fun v _ => v = .int .i64 ((satN (satN nk 10) kx.length : Nat) : Int)), (fun v _ => v = .slice (some ⟨bk, off, none⟩) m cap2), (fun v _ => v = .int .i64 (k : Int)), (fun v _ => v = .pointer (some ⟨bk, off + k * 4, none⟩)), (fun v _ => v = .pointer (some ⟨bk, off + k * 4 + 3, none⟩)), (fun v _ => v = .string (text vx)), (fun v _ => v = .int .i64 (vx.length : Int))] (fun _ => False) (by kernel_rfl) (by kernel_rfl) (by kernel_rfl) rfl rfl rfl ?_ ?_ ?_
        · intro g hg v X Y hX hY hv
          simp only [List.mem_cons, List.not_mem_nil, or_false] at hg
          rcases hg with rfl | rfl | rfl | rfl | rfl | rfl | rfl | rfl | rfl | rfl | rfl | rfl | rfl | rfl | rfl
          all_goals first
            | exact hv
            | exact hv.kept hY
        · simp only [flowOpsF, List.take_succ_cons, List.take_zero, and_true]
          refine ⟨?_, ?_, ?_, ?_, ?_, ?_, ?_, ?_, ?_, ?_, ?_, ?_, ?_, ?_, ?_⟩
          · intro xs W hW hn
            simp only [flowAct, List.zipWith_cons_cons, List.zipWith_nil_left]
            go_wp2_with (fail)
            exact ⟨rfl, _, rfl, Below.refl _ _, rfl, fun h => h.elim⟩
          · intro xs W hW hn
            simp [flowNeeds, Region.binds] at hn
            simp only [flowAct, List.zipWith_cons_cons, List.zipWith_nil_left]
            simp only [hn]
            go_wp2_with (go_at_call 27; (with_reducible refine (HA0.out _).mono ?_); rintro e9 w9 ⟨rfl, rfl⟩)
            exact ⟨rfl, _, rfl, Below.refl _ _, rfl, fun h => h.elim⟩
          · intro xs W hW hn
            simp only [flowAct, List.zipWith_cons_cons, List.zipWith_nil_left]
            go_wp2_with (fail)
            exact ⟨rfl, _, rfl, Below.refl _ _, rfl, fun h => h.elim⟩
          · intro xs W hW hn
            simp only [flowAct, List.zipWith_cons_cons, List.zipWith_nil_left]
            go_wp2_with (fail)
            exact ⟨rfl, _, rfl, Below.refl _ _, rfl, fun h => h.elim⟩
          · intro xs W hW hn
            simp [flowNeeds, Region.binds] at hn
            simp only [flowAct, List.zipWith_cons_cons, List.zipWith_nil_left]
            try simp only [hn]
            go_wp2_with (fail)
            exact ⟨rfl, _, rfl, Below.refl _ _, rfl, fun h => h.elim⟩
          · intro xs W hW hn
            simp [flowNeeds, Region.binds] at hn
            simp only [flowAct, List.zipWith_cons_cons, List.zipWith_nil_left]
            try simp only [hn]
            go_wp2_with (fail)
            exact ⟨rfl, _, rfl, Below.refl _ _, rfl, fun h => h.elim⟩
          · intro xs W hW hn
            obtain ⟨p0, p1, p2, p3⟩ := HAT.out W hW
            simp [flowNeeds, Region.binds] at hn
            simp only [flowAct, List.zipWith_cons_cons, List.zipWith_nil_left]
            try simp only [hn]
            go_wp2_with (fail)
            exact ⟨rfl, _, rfl, Below.refl _ _, rfl, fun h => h.elim⟩
          · intro xs W hW hn
            have hsz := HSZ.out
            simp [flowNeeds, Region.binds] at hn
            simp only [flowAct, List.zipWith_cons_cons, List.zipWith_nil_left]
            try simp only [hn]
            go_wp2_with (fail)
            exact ⟨rfl, _, rfl, Below.refl _ _, rfl, fun h => h.elim⟩
          · intro xs W hW hn
            simp [flowNeeds, Region.binds] at hn
            simp only [flowAct, List.zipWith_cons_cons, List.zipWith_nil_left]
            simp only [hn]
            go_wp2_with (go_at_call 27; (with_reducible refine (HA1.out _).mono ?_); rintro e9 w9 ⟨rfl, rfl⟩)
            exact ⟨rfl, _, rfl, Below.refl _ _, rfl, fun h => h.elim⟩
          · intro xs W hW hn
            simp only [flowAct, List.zipWith_cons_cons, List.zipWith_nil_left]
            go_wp2_with (fail)
            exact ⟨rfl, _, rfl, Below.refl _ _, rfl, fun h => h.elim⟩
          · intro xs W hW hn
            simp only [flowAct, List.zipWith_cons_cons, List.zipWith_nil_left]
            go_wp2_with (fail)
            exact ⟨rfl, _, rfl, Below.refl _ _, rfl, fun h => h.elim⟩
          · intro xs W hW hn
            simp [flowNeeds, Region.binds] at hn
            simp only [flowAct, List.zipWith_cons_cons, List.zipWith_nil_left]
            try simp only [hn]
            go_wp2_with (fail)
            exact ⟨rfl, _, rfl, Below.refl _ _, rfl, fun h => h.elim⟩
          · intro xs W hW hn
            simp [flowNeeds, Region.binds] at hn
            simp only [flowAct, List.zipWith_cons_cons, List.zipWith_nil_left]
            try simp only [hn]
            go_wp2_with (fail)
            exact ⟨rfl, _, rfl, Below.refl _ _, rfl, fun h => h.elim⟩
          · intro xs W hW hn
            obtain ⟨p0, p1, p2, p3⟩ := HAT.out W hW
            simp [flowNeeds, Region.binds] at hn
            simp only [flowAct, List.zipWith_cons_cons, List.zipWith_nil_left]
            try simp only [hn]
            go_wp2_with (fail)
            exact ⟨rfl, _, rfl, Below.refl _ _, rfl, fun h => h.elim⟩
          · intro xs W hW hn
            have hsz2 := HSZ2.out
            simp [flowNeeds, Region.binds] at hn
            simp only [flowAct, List.zipWith_cons_cons, List.zipWith_nil_left]
            try simp only [hn]
            go_wp2_with (fail)
            exact ⟨rfl, _, rfl, Below.refl _ _, rfl, fun h => h.elim⟩
        · intro xs W hW hall hfr
          clear hfr
          simp only [flowAll, and_true, Nat.zero_add, Nat.reduceAdd] at hall
          obtain ⟨-, -, -, -, -, -, -, -, e8, -, -, -, -, -, e14⟩ := hall
          simp only [flowAct, List.zipWith_cons_cons, List.zipWith_nil_left, List.drop_succ_cons, List.drop_zero]
          simp only [e8, e14]
          have HB5 := Lib.hid (HB.out.trans (hW.mono HB.out.size))
          clear hW e8 e14 HA0 HA1 HAT HSZ HSZ2
          go_wp2_with (go_at_call 27; (with_reducible refine (HA2.out _).mono ?_); rintro e9 w9 ⟨rfl, rfl⟩)
          go_roundw
          case rel => exact ⟨k + 1, _, by omega, by go_num, rfl, HST.out, HB5.out⟩
          case measure => simp [intOf]; omega
    · obtain rfl : k = m := by omega
      have hfd : decide ((nk : Int) ≤ 5000) = decide (nk ≤ 5000) := by simp only [decide_eq_decide]; omega
      have HD := Lib.hid (show decide ((nk : Int) ≤ 5000) = decide (R ≤ 5000) by rw [hfd, ← HNK.out, HR.out])
      clear hfd
      go_wp2
      go_ret
      exact ⟨by rw [← HD.out]; rfl, HB.out⟩
theorem chschema_c (w : World) : Calls Tryd.prog 28 #[] w (fun e w' => ∃ v, e = .returned v ∧ SchV v w' ∧ Below w.heap.size w w') := by
  go_enter Tryd.func28, Tryd.ntmps28
  go_wp2
  go_ret
  exact ⟨_, rfl, ⟨_, rfl, heap_alloc_new _ _⟩, alloc_below _ _⟩
def exW : List Wr := [⟨[107], 0, false, [120]⟩]
theorem ex_good : chgoodS exG 1 1 1 1 1 0 exW = 0 := by decide +kernel
theorem ex_put : chputS [] exG 1 1 1 1 1 0 exW = [1, 1, 2, 1, 0, 1, 1, 107, 0, 0, 1, 120] := by decide +kernel
theorem ex_short : WShort exW := by
  intro c hc
  rw [List.mem_singleton.1 hc]
  exact ⟨by decide, by decide⟩
set_option maxRecDepth 100000 in
set_option maxHeartbeats 6400000 in
theorem chlives_c {w : World} (hT : TabW w) : Calls Tryd.prog 10 #[] w (Tells (.bool true) w) := by
  have hGD := fun (W : World) (a x2 : Option Addr) (hg : Grs W a 2 2 exG) (hl : Wrs W x2 1 1 exW) => chgood_c hg (by decide) hl ex_short 1 1 1 1 1 0
  simp only [ex_good] at hGD
  have hPT := fun (W : World) (a x2 : Option Addr) (hg : Grs W a 2 2 exG) (hl : Wrs W x2 1 1 exW) (hT : TabW W) => chput_c (ad := none) (m9 := 0) (cap9 := 0) (by9 := []) ⟨rfl, Nat.le_refl _, by omega, .inl rfl⟩ (by omega) hg (by decide) hl ex_short hT 1 1 1 1 1 0
  simp only [ex_put] at hPT
  obtain ⟨X, hX⟩ : ∃ X, ([1, 1, 2, 1, 0, 1, 1, 107, 0, 0, 1, 120] : List UInt8) = X := ⟨_, rfl⟩
  have hcv := fun (W : World) (a : Option Addr) (c n : Nat) (h : Bys W a n c X) => conv_bys (P := Tryd.prog) (src := 50) (dst := 9) (e := 5) h Tryd.underlying50 Tryd.underlying5 Tryd.underlying9
  have hT2 : text X = ⟨#[1, 1, 2, 1, 0, 1, 1, 107, 0, 0, 1, 120]⟩ := by rw [← hX]; rfl
  rw [hT2] at hcv
  rw [hX] at hPT
  have HCV := Lib.hid hcv
  have HT := Lib.hid hT
  have hr := heap_alloc_new w (.cells #[.string ⟨#[107]⟩, .int .i64 0, .bool false, .string ⟨#[120]⟩] 31)
  have hb := alloc_below w (.cells #[.string ⟨#[107]⟩, .int .i64 0, .bool false, .string ⟨#[120]⟩] 31)
  clear hcv hT hT2 hX
  go_enter Tryd.func10, Tryd.ntmps10
  go_upto_region 2 with (fail)
  obtain ⟨q1, hq1⟩ : ∃ q, w.heap.size = q := ⟨_, rfl⟩
  have hs1 := World.size_alloc w (.cells #[.string ⟨#[107]⟩, .int .i64 0, .bool false, .string ⟨#[120]⟩] 31)
  rw [hq1] at hr hs1
  try rw [hq1]
  generalize w.alloc (.cells #[.string ⟨#[107]⟩, .int .i64 0, .bool false, .string ⟨#[120]⟩] 31) = V1 at *
  have hr2 := heap_alloc_new V1 (.cells #[.int .i64 1, .int .i64 1, .int .i64 1, .int .i64 1, .int .i64 1, .int .i64 0, .slice (some ⟨q1, 0, none⟩) 1 1] 29)
  have hb2 := alloc_below V1 (.cells #[.int .i64 1, .int .i64 1, .int .i64 1, .int .i64 1, .int .i64 1, .int .i64 0, .slice (some ⟨q1, 0, none⟩) 1 1] 29)
  rw [hs1] at hr2
  obtain ⟨q2, hq2⟩ : ∃ q, q1 + 1 = q := ⟨_, rfl⟩
  rw [hq2] at hr2 hs1
  try rw [hs1]
  try rw [hq2]
  have HB := Lib.hid (hb.trans (hb2.mono hb.size))
  have hrw := heap_below hr hb2
  clear hr hb hb2 hs1 hq1 hq2
  generalize V1.alloc (.cells #[.int .i64 1, .int .i64 1, .int .i64 1, .int .i64 1, .int .i64 1, .int .i64 0, .slice (some ⟨q1, 0, none⟩) 1 1] 29) = W1 at *
  have HL := Lib.hid (show Wrs W1 (some ⟨q1, 0, none⟩) 1 1 exW from ⟨rfl, Nat.le_refl _, by omega, .inr ⟨q1, 0, rfl, fun i hi j v hv => by
    obtain rfl : i = 0 := by omega
    have h := cell_of_row W1 q1 j #[.string ⟨#[107]⟩, .int .i64 0, .bool false, .string ⟨#[120]⟩] 31 (0, 0) hrw
    rw [show (0 + 0 * 4 + j) = j by omega]
    exact h.trans hv⟩⟩)
  have HC := Lib.hid (fun W (h : Below W1.heap.size W1 W) => ch_cells (heap_below hr2 h))
  have HGD := Lib.hid (fun (W : World) (a : Option Addr) (hg : Grs W a 2 2 exG) (hl : Wrs W (some ⟨q1, 0, none⟩) 1 1 exW) => hGD W a _ hg hl)
  have HPT := Lib.hid (fun (W : World) (a : Option Addr) (hg : Grs W a 2 2 exG) (hl : Wrs W (some ⟨q1, 0, none⟩) 1 1 exW) (hT : TabW W) => hPT W a _ hg hl hT)
  clear hGD hPT hr2 hrw
  refine wp_region_flow_tail 11 [none, none, none, none, none, none, none, some 0, some 1, some 2, some 3, some 4, some 5, some 6, some 7, some 8, some 9, some 10] (fun i => [undef, undef, undef, undef, undef, undef, undef, undef, undef, undef, undef].getD i undef) [SchV, (fun v _ => v = .agg #[.int .i64 1, .int .i64 1, .int .i64 1, .int .i64 1, .int .i64 1, .int .i64 0, .slice (some ⟨q1, 0, none⟩) 1 1]), (fun v _ => v = .int .i64 0), (fun v _ => v = .bool true), (fun v _ => v = .bool true), SchV, (fun v _ => v = .agg #[.int .i64 1, .int .i64 1, .int .i64 1, .int .i64 1, .int .i64 1, .int .i64 0, .slice (some ⟨q1, 0, none⟩) 1 1]), (fun v W => OwnB W 0 5 v X), (fun v _ => v = .string ⟨#[1, 1, 2, 1, 0, 1, 1, 107, 0, 0, 1, 120]⟩), (fun v _ => v = .bool true), (fun v _ => v = .bool true)] (fun _ => False) (by kernel_rfl) (by kernel_rfl) (by kernel_rfl) rfl rfl rfl ?_ ?_ ?_
  · intro g hg v X Y hX hY hv
    simp only [List.mem_cons, List.not_mem_nil, or_false] at hg
    rcases hg with rfl | rfl | rfl | rfl | rfl | rfl | rfl | rfl | rfl | rfl | rfl
    all_goals first
      | exact hv
      | exact hv.kept hY
  · simp only [flowOpsF, List.take_succ_cons, List.take_zero, and_true]
    refine ⟨?_, ?_, ?_, ?_, ?_, ?_, ?_, ?_, ?_, ?_, ?_⟩
    · intro xs W hW hn
      simp only [flowAct, List.zipWith_cons_cons, List.zipWith_nil_left]
      go_wp2_with (go_at_call 28; (with_reducible refine (chschema_c _).mono ?_); rintro e9 w9 ⟨v9, rfl, hs9, hb9⟩)
      exact ⟨rfl, _, rfl, hb9, hs9, fun h => h.elim⟩
    · intro xs W hW hn
      obtain ⟨c0, c1, c2, c3, c4, c5, c6⟩ := HC.out W hW
      simp only [flowAct, List.zipWith_cons_cons, List.zipWith_nil_left]
      go_wp2_with (fail)
      exact ⟨rfl, _, rfl, Below.refl _ _, rfl, fun h => h.elim⟩
    · intro xs W hW hn
      simp [flowNeeds, Region.binds] at hn
      simp only [flowAct, List.zipWith_cons_cons, List.zipWith_nil_left]
      obtain ⟨hs9, hrest⟩ := hn
      obtain ⟨q9, e8, hg9⟩ := SchV.grs hs9
      simp only [e8, hrest]
      go_wp2_with (go_at_call 13; (with_reducible refine (HGD.out _ _ hg9 (HL.out.below hW)).mono ?_); rintro e9 w9 ⟨rfl, hb9⟩)
      exact ⟨rfl, _, rfl, hb9, rfl, fun h => h.elim⟩
    · intro xs W hW hn
      simp [flowNeeds, Region.binds] at hn
      simp only [flowAct, List.zipWith_cons_cons, List.zipWith_nil_left]
      try simp only [hn]
      go_wp2_with (fail)
      exact ⟨rfl, _, rfl, Below.refl _ _, rfl, fun h => h.elim⟩
    · intro xs W hW hn
      simp [flowNeeds, Region.binds] at hn
      simp only [flowAct, List.zipWith_cons_cons, List.zipWith_nil_left]
      try simp only [hn]
      go_wp2_with (fail)
      exact ⟨rfl, _, rfl, Below.refl _ _, rfl, fun h => h.elim⟩
    · intro xs W hW hn
      try simp [flowNeeds, Region.binds] at hn
      simp only [flowAct, List.zipWith_cons_cons, List.zipWith_nil_left]
      try simp only [hn]
      go_wp2_with (go_at_call 28; (with_reducible refine (chschema_c _).mono ?_); rintro e9 w9 ⟨v9, rfl, hs9, hb9⟩)
      exact ⟨rfl, _, rfl, hb9, hs9, fun h => h.elim⟩
    · intro xs W hW hn
      obtain ⟨c0, c1, c2, c3, c4, c5, c6⟩ := HC.out W hW
      simp [flowNeeds, Region.binds] at hn
      simp only [flowAct, List.zipWith_cons_cons, List.zipWith_nil_left]
      try simp only [hn]
      go_wp2_with (fail)
      exact ⟨rfl, _, rfl, Below.refl _ _, rfl, fun h => h.elim⟩
    · intro xs W hW hn
      simp [flowNeeds, Region.binds] at hn
      simp only [flowAct, List.zipWith_cons_cons, List.zipWith_nil_left]
      obtain ⟨hs9, e9, hrest⟩ := hn
      obtain ⟨q9, e8, hg9⟩ := SchV.grs hs9
      simp only [e8, e9, hrest]
      go_wp2_with (go_at_call 23; (with_reducible refine (HPT.out _ _ hg9 (HL.out.below hW) (HT.out.below (HB.out.trans (hW.mono HB.out.size)))).mono ?_); rintro e9 w9 ⟨v9, rfl, ho9, hb9⟩)
      exact ⟨rfl, _, rfl, hb9, ho9.mono (Nat.zero_le _), fun h => h.elim⟩
    · intro xs W hW hn
      simp [flowNeeds, Region.binds] at hn
      simp only [flowAct, List.zipWith_cons_cons, List.zipWith_nil_left]
      obtain ⟨ho, hrest⟩ := hn
      obtain ⟨a3, c3, e3, hy3⟩ := OwnB.bys ho
      have hcv := HCV.out _ _ _ _ hy3
      simp only [e3, hrest]
      go_wp2_with (fail)
      exact ⟨rfl, _, rfl, Below.refl _ _, rfl, fun h => h.elim⟩
    · intro xs W hW hn
      simp [flowNeeds, Region.binds] at hn
      simp only [flowAct, List.zipWith_cons_cons, List.zipWith_nil_left]
      try simp only [hn]
      go_wp2_with (fail)
      exact ⟨rfl, _, rfl, Below.refl _ _, rfl, fun h => h.elim⟩
    · intro xs W hW hn
      simp [flowNeeds, Region.binds] at hn
      simp only [flowAct, List.zipWith_cons_cons, List.zipWith_nil_left]
      try simp only [hn]
      go_wp2_with (fail)
      exact ⟨rfl, _, rfl, Below.refl _ _, rfl, fun h => h.elim⟩
  · intro xs W hW hall hfr
    clear hfr
    simp only [flowAll, and_true, Nat.zero_add, Nat.reduceAdd] at hall
    obtain ⟨-, -, -, -, -, -, -, -, -, -, e10⟩ := hall
    simp only [flowAct, List.zipWith_cons_cons, List.zipWith_nil_left, List.drop_succ_cons, List.drop_zero]
    simp only [e10]
    go_wp2
    go_ret
    exact ⟨rfl, HB.out.trans (hW.mono HB.out.size)⟩
end Go.Proofs.YtfkmfccdhmnllaaDoor
end

section
namespace Go.Proofs.YtfkmfccdhmnllaaDoor
open Go.RowKit Go Go.Sort
set_option linter.unusedVariables false
set_option maxRecDepth 20000

deriving instance DecidableEq for Wr
def wrEq (k : List UInt8) (i : Int) (g : Bool) (v : List UInt8) (k' : List UInt8) (i' : Int) (g' : Bool) (v' : List UInt8) : Bool := decide (k = k') && ((i == i') && ((g == g') && decide (v = v')))
theorem wr_eqIn (k : List UInt8) (i : Int) (g : Bool) (v : List UInt8) (k' : List UInt8) (i' : Int) (g' : Bool) (v' : List UInt8) (W : World) : (Op.equalIn 10000 31 (.agg #[.string (text k), .int .i64 i, .bool g, .string (text v)]) (.agg #[.string (text k'), .int .i64 i', .bool g', .string (text v')])).run Tryd.prog W = .ok (wrEq k i g v k' i' g' v') W := by
  rw [run_equalIn_struct W 9999 _ _ _ Tryd.underlying31 (by kernel_rfl)]
  obtain ⟨f0, f1, f2, f3, hf, h0, h1, h2, h3, t0, t1, t2, t3, n0, n1, n2, n3⟩ : ∃ f0 f1 f2 f3, (Tryd.prog.fieldsOf 31).toList = [f0, f1, f2, f3] ∧ f0.offset = 0 ∧ f1.offset = 1 ∧ f2.offset = 2 ∧ f3.offset = 3 ∧
    f0.type = 9 ∧ f1.type = 3 ∧ f2.type = 4 ∧ f3.type = 9 ∧ f0.name ≠ "_" ∧ f1.name ≠ "_" ∧ f2.name ≠ "_" ∧ f3.name ≠ "_" := ⟨_, _, _, _, rfl, rfl, rfl, rfl, rfl, rfl, rfl, rfl, rfl, by decide, by decide, by decide, by decide⟩
  rw [hf]
  obtain ⟨xs, hxs⟩ : ∃ xs : Array Value, #[.string (text k), .int .i64 i, .bool g, .string (text v)] = xs := ⟨_, rfl⟩
  obtain ⟨ys, hys⟩ : ∃ ys : Array Value, #[.string (text k'), .int .i64 i', .bool g', .string (text v')] = ys := ⟨_, rfl⟩
  have p0 := run_part_plain (P := Tryd.prog) (e := 9) W (by kernel_rfl) (xs := xs) (off := 0) (v := .string (text k)) (by rw [← hxs]; rfl)
  have p1 := run_part_plain (P := Tryd.prog) (e := 3) W (by kernel_rfl) (xs := xs) (off := 1) (v := .int .i64 i) (by rw [← hxs]; rfl)
  have p2 := run_part_plain (P := Tryd.prog) (e := 4) W (by kernel_rfl) (xs := xs) (off := 2) (v := .bool g) (by rw [← hxs]; rfl)
  have p3 := run_part_plain (P := Tryd.prog) (e := 9) W (by kernel_rfl) (xs := xs) (off := 3) (v := .string (text v)) (by rw [← hxs]; rfl)
  have q0 := run_part_plain (P := Tryd.prog) (e := 9) W (by kernel_rfl) (xs := ys) (off := 0) (v := .string (text k')) (by rw [← hys]; rfl)
  have q1 := run_part_plain (P := Tryd.prog) (e := 3) W (by kernel_rfl) (xs := ys) (off := 1) (v := .int .i64 i') (by rw [← hys]; rfl)
  have q2 := run_part_plain (P := Tryd.prog) (e := 4) W (by kernel_rfl) (xs := ys) (off := 2) (v := .bool g') (by rw [← hys]; rfl)
  have q3 := run_part_plain (P := Tryd.prog) (e := 9) W (by kernel_rfl) (xs := ys) (off := 3) (v := .string (text v')) (by rw [← hys]; rfl)
  have hk : ((text k).toList == (text k').toList) = decide (k = k') := by rw [text_toList, text_toList, Bool.eq_iff_iff]; simp
  have hv : ((text v).toList == (text v').toList) = decide (v = v') := by rw [text_toList, text_toList, Bool.eq_iff_iff]; simp
  have e0 := run_equalIn_string W 9998 9 (text k) (text k') Tryd.underlying9
  have e1 := run_equalIn_int W 9998 3 .i64 .i64 i i' Tryd.underlying3
  have e2 := run_equalIn_bool' W 9998 4 g g' Tryd.underlying4
  have e3 := run_equalIn_string W 9998 9 (text v) (text v') Tryd.underlying9
  rw [hk] at e0
  rw [hv] at e3
  simp only [Nat.reduceAdd] at e0 e1 e2 e3
  rw [hxs, hys]
  unfold wrEq
  clear hxs hys hk hv hf
  generalize decide (k = k') = r0 at *
  generalize (i == i') = r1 at *
  generalize (g == g') = r2 at *
  generalize decide (v = v') = r3 at *
  cases r0 <;> cases r1 <;> cases r2 <;> cases r3 <;> simp [Op.eqFields, n0, n1, n2, n3, h0, h1, h2, h3, t0, t1, t2, t3, p0, q0, p1, q1, p2, q2, p3, q3, e0, e1, e2, e3, Sem.run_bind, Result.andThen_ok]
theorem wr_neb (k : List UInt8) (i : Int) (g : Bool) (v : List UInt8) (k' : List UInt8) (i' : Int) (g' : Bool) (v' : List UInt8) (r : Bool) (h : wrEq k i g v k' i' g' v' = r) (W : World) : (binOp .neq 31 (.agg #[.string (text k), .int .i64 i, .bool g, .string (text v)]) (.agg #[.string (text k'), .int .i64 i', .bool g', .string (text v')])).run Tryd.prog W = .ok (.bool (!r)) W := by
  rw [run_neq_struct, wr_eqIn, h]; rfl
theorem wr_eqg (op : BinOp) (x y : Operand) (xs ys : Array Value) (W : World) : (eqGuard op 31 x y (.agg xs) (.agg ys)).run Tryd.prog W = .ok () W := run_eqGuard_agg W op _ x y xs ys (by kernel_rfl)
theorem wrEq_iff (k : List UInt8) (i : Int) (g : Bool) (v : List UInt8) (k' : List UInt8) (i' : Int) (g' : Bool) (v' : List UInt8) : wrEq k i g v k' i' g' v' = true ↔ (⟨k, i, g, v⟩ : Wr) = ⟨k', i', g', v'⟩ := by
  unfold wrEq
  simp only [Bool.and_eq_true, decide_eq_true_eq, beq_iff_eq, Wr.mk.injEq]
theorem wr_list {l m : List Wr} (hl : l.length = m.length) (h : ∀ j, j < l.length → l.getD j Wr.zero = m.getD j Wr.zero) : l = m := by
  apply List.ext_getElem hl
  intro j h1 h2
  have := h j h1
  rw [List.getD_eq_getElem?_getD, List.getD_eq_getElem?_getD, List.getElem?_eq_getElem h1, List.getElem?_eq_getElem h2] at this
  exact this

set_option maxRecDepth 100000 in
set_option maxHeartbeats 6400000 in
theorem rwrites_c {w : World} {x2 y2 : Option Addr} {m cap2 m' cap3 : Nat} {la lb : List Wr} (ha : Wrs w x2 m cap2 la) (hb : Wrs w y2 m' cap3 lb) : Calls Tryd.prog 18 #[.slice x2 m cap2, .slice y2 m' cap3] w (Tells (.bool (decide (la = lb))) w) := by
  have hal := ha.len
  have hbl := hb.len
  have hale := ha.le
  have hame := ha.max
  have hble := hb.le
  have hbme := hb.max
  have HA := Lib.hid ha
  have HB := Lib.hid hb
  have HAL := Lib.hid hal
  have HBL := Lib.hid hbl
  clear ha hb hal hbl
  obtain ⟨R, hR⟩ : ∃ z, decide (la = lb) = z := ⟨_, rfl⟩
  rw [hR]
  have HR := Lib.hid hR
  clear hR
  by_cases hmm : m = m'
  · subst hmm
    have hmi : (m != m) = false := by simp
    go_enter Tryd.func18, Tryd.ntmps18
    go_wp2
    go_loopw [5] (fun i wr => ∃ k : Nat, k ≤ m ∧ i = .int .i64 (k : Int) ∧ (∀ j, j < k → la.getD j Wr.zero = lb.getD j Wr.zero) ∧ Below w.heap.size w wr) (fun i _ => m - (intOf i).toNat)
    case atStart => exact ⟨0, by omega, rfl, fun j hj => by omega, Below.refl _ _⟩
    case round =>
      obtain ⟨k, hk, rfl, hs, hb⟩ := hrel
      have HS := Lib.hid hs
      have HBx := Lib.hid hb
      clear hs hb
      by_cases hlt : k < m
      · have hki : (k : Int) < (m : Int) := by omega
        have hkc : (k : Int) < (cap2 : Int) := by omega
        have hkd : (k : Int) < (cap3 : Int) := by omega
        obtain ⟨ba, offa, rfl, hat⟩ := HA.out.place hlt
        obtain ⟨bb, offb, rfl, hat2⟩ := HB.out.place hlt
        obtain ⟨y, hy⟩ : ∃ y, la.getD k Wr.zero = y := ⟨_, rfl⟩
        obtain ⟨z, hz⟩ : ∃ z, lb.getD k Wr.zero = z := ⟨_, rfl⟩
        rw [hy] at hat
        rw [hz] at hat2
        obtain ⟨kx, ix, gx, vx⟩ := y
        obtain ⟨ky, iy, gy, vy⟩ := z
        simp only at hat hat2
        have HPW := Lib.hid (fun W (h : Below wr.heap.size wr W) => hat W (HBx.out.trans (h.mono HBx.out.size)))
        have HQW := Lib.hid (fun W (h : Below wr.heap.size wr W) => hat2 W (HBx.out.trans (h.mono HBx.out.size)))
        have HY := Lib.hid hy
        have HZ := Lib.hid hz
        have hiff := wrEq_iff kx ix gx vx ky iy gy vy
        have hne := wr_neb kx ix gx vx ky iy gy vy
        obtain ⟨E, hE⟩ : ∃ z, wrEq kx ix gx vx ky iy gy vy = z := ⟨_, rfl⟩
        rw [hE] at hiff
        have hnw := hne E hE
        have HIF := Lib.hid hiff
        have HNE := Lib.hid hnw
        have HEG := Lib.hid wr_eqg
        clear hat hat2 hy hz hiff hne hnw hE
        go_upto_region 6 with (fail)
        refine wp_region_flow [none, none, none, none, none, none, none, none, none, none, none, none, none, none, none, none, none, some 0, some 1, some 2, some 3, some 4, some 5, some 6, some 7, some 8] (fun i => [u17, u18, u19, u20, u21, u22, u23, u24, u25].getD i undef) [(fun v _ => v = .slice (some ⟨ba, offa, none⟩) m cap2), (fun v _ => v = .int .i64 (k : Int)), (fun v _ => v = .pointer (some ⟨ba, offa + k * 4, none⟩)), (fun v _ => v = .agg #[.string (text kx), .int .i64 ix, .bool gx, .string (text vx)]), (fun v _ => v = .slice (some ⟨bb, offb, none⟩) m cap3), (fun v _ => v = .int .i64 (k : Int)), (fun v _ => v = .pointer (some ⟨bb, offb + k * 4, none⟩)), (fun v _ => v = .agg #[.string (text ky), .int .i64 iy, .bool gy, .string (text vy)]), (fun v _ => v = .bool (!E))] (by kernel_rfl) (by kernel_rfl) rfl rfl rfl ?_ ?_ ?_
        · intro g hg v X Y hX hY hv
          simp only [List.mem_cons, List.not_mem_nil, or_false] at hg
          rcases hg with rfl | rfl | rfl | rfl | rfl | rfl | rfl | rfl | rfl
          all_goals first
            | exact hv
            | exact hv.kept hY
        · simp only [flowOps, and_true]
          refine ⟨?_, ?_, ?_, ?_, ?_, ?_, ?_, ?_, ?_⟩
          · intro xs W hW hn
            simp only [flowAct, List.zipWith_cons_cons, List.zipWith_nil_left]
            go_wp2_with (fail)
            exact ⟨rfl, _, rfl, Below.refl _ _, rfl⟩
          · intro xs W hW hn
            simp only [flowAct, List.zipWith_cons_cons, List.zipWith_nil_left]
            go_wp2_with (fail)
            exact ⟨rfl, _, rfl, Below.refl _ _, rfl⟩
          · intro xs W hW hn
            simp [flowNeeds, Region.binds] at hn
            simp only [flowAct, List.zipWith_cons_cons, List.zipWith_nil_left]
            try simp only [hn]
            go_wp2_with (fail)
            exact ⟨rfl, _, rfl, Below.refl _ _, rfl⟩
          · intro xs W hW hn
            obtain ⟨p0, p1, p2, p3⟩ := HPW.out W hW
            simp [flowNeeds, Region.binds] at hn
            simp only [flowAct, List.zipWith_cons_cons, List.zipWith_nil_left]
            try simp only [hn]
            go_wp2_with (fail)
            exact ⟨rfl, _, rfl, Below.refl _ _, rfl⟩
          · intro xs W hW hn
            simp only [flowAct, List.zipWith_cons_cons, List.zipWith_nil_left]
            go_wp2_with (fail)
            exact ⟨rfl, _, rfl, Below.refl _ _, rfl⟩
          · intro xs W hW hn
            simp only [flowAct, List.zipWith_cons_cons, List.zipWith_nil_left]
            go_wp2_with (fail)
            exact ⟨rfl, _, rfl, Below.refl _ _, rfl⟩
          · intro xs W hW hn
            simp [flowNeeds, Region.binds] at hn
            simp only [flowAct, List.zipWith_cons_cons, List.zipWith_nil_left]
            try simp only [hn]
            go_wp2_with (fail)
            exact ⟨rfl, _, rfl, Below.refl _ _, rfl⟩
          · intro xs W hW hn
            obtain ⟨q0, q1, q2, q3⟩ := HQW.out W hW
            simp [flowNeeds, Region.binds] at hn
            simp only [flowAct, List.zipWith_cons_cons, List.zipWith_nil_left]
            try simp only [hn]
            go_wp2_with (fail)
            exact ⟨rfl, _, rfl, Below.refl _ _, rfl⟩
          · intro xs W hW hn
            have hne := HNE.out
            have heg := HEG.out
            simp [flowNeeds, Region.binds] at hn
            simp only [flowAct, List.zipWith_cons_cons, List.zipWith_nil_left]
            try simp only [hn]
            go_wp2_with (fail)
            exact ⟨rfl, _, rfl, Below.refl _ _, rfl⟩
        · intro xs W hW hall
          simp only [flowAll, and_true, Nat.zero_add, Nat.reduceAdd] at hall
          obtain ⟨-, -, -, -, -, -, -, -, eL⟩ := hall
          simp only [flowAct, List.zipWith_cons_cons, List.zipWith_nil_left]
          simp only [eL]
          have HBy := Lib.hid (HBx.out.trans (hW.mono HBx.out.size))
          clear eL hW
          cases E with
          | true =>
            have HSN := Lib.hid (show ∀ j, j < k + 1 → la.getD j Wr.zero = lb.getD j Wr.zero from fun j hj => by
              by_cases h : j < k
              · exact HS.out j h
              · obtain rfl : j = k := by omega
                rw [HY.out, HZ.out]; exact HIF.out.1 rfl)
            go_wp2
            go_roundw
            case rel => exact ⟨k + 1, by omega, by go_num, HSN.out, HBy.out⟩
            case measure => simp [intOf]; omega
          | false =>
            have hr : R = false := by
              rw [← HR.out, decide_eq_false_iff_not]
              intro e
              have h := HIF.out.2 (by rw [← HY.out, ← HZ.out, e])
              cases h
            subst hr
            go_wp2
            go_ret
            exact ⟨rfl, HBy.out⟩
      · obtain rfl : m = k := by omega
        have hr : R = true := by
          rw [← HR.out, decide_eq_true_eq]
          exact wr_list (by rw [HAL.out, HBL.out]) (fun j hj => HS.out j (by rw [HAL.out] at hj; exact hj))
        subst hr
        go_wp2
        go_ret
        exact ⟨rfl, HBx.out⟩
  · have hmi : ((m : Int) != (m' : Int)) = true := by simp; omega
    have hr : R = false := by
      rw [← HR.out, decide_eq_false_iff_not]
      intro e
      have := HAL.out
      rw [e, HBL.out] at this
      exact hmm this.symm
    subst hr
    go_enter Tryd.func18, Tryd.ntmps18
    go_wp2
    go_ret
    exact ⟨rfl, Below.refl _ _⟩
/-- The very same changes. -/
def chSame (site seq n s a b : Int) (la : List Wr) (site' seq' n' s' a' b' : Int) (lb : List Wr) : Bool := (site == site') && ((seq == seq') && (((n == n') && (s == s')) && (((a == a') && (b == b')) && decide (la = lb))))
theorem chSame_iff {site seq n s a b : Int} {la : List Wr} {site' seq' n' s' a' b' : Int} {lb : List Wr} : chSame site seq n s a b la site' seq' n' s' a' b' lb = true ↔ ((site, seq, n, s, a, b, la) : Int × Int × Int × Int × Int × Int × List Wr) = (site', seq', n', s', a', b', lb) := by
  unfold chSame
  simp only [Bool.and_eq_true, decide_eq_true_eq, beq_iff_eq, Prod.mk.injEq]
  constructor
  · rintro ⟨h1, h2, ⟨h3, h4⟩, ⟨h5, h6⟩, h7⟩; exact ⟨h1, h2, h3, h4, h5, h6, h7⟩
  · rintro ⟨h1, h2, h3, h4, h5, h6, h7⟩; exact ⟨h1, h2, ⟨h3, h4⟩, ⟨h5, h6⟩, h7⟩

set_option maxRecDepth 100000 in
set_option maxHeartbeats 6400000 in
theorem rchsame_c {w : World} {x2 y2 : Option Addr} {m cap2 m' cap3 : Nat} {la lb : List Wr} (ha : Wrs w x2 m cap2 la) (hb : Wrs w y2 m' cap3 lb) (site seq n s a b site' seq' n' s' a' b' : Int) :
    Calls Tryd.prog 22 #[.agg #[.int .i64 site, .int .i64 seq, .int .i64 n, .int .i64 s, .int .i64 a, .int .i64 b, .slice x2 m cap2], .agg #[.int .i64 site', .int .i64 seq', .int .i64 n', .int .i64 s', .int .i64 a', .int .i64 b', .slice y2 m' cap3]] w (Tells (.bool (chSame site seq n s a b la site' seq' n' s' a' b' lb)) w) := by
  have hp := (Below.heap_alloc (w.alloc (.cells #[.int .i64 site, .int .i64 seq, .int .i64 n, .int .i64 s, .int .i64 a, .int .i64 b, .slice x2 m cap2] 29)) (.cells #[.int .i64 site', .int .i64 seq', .int .i64 n', .int .i64 s', .int .i64 a', .int .i64 b', .slice y2 m' cap3] 29) w.heap.size (by simp)).trans (heap_alloc_new w (.cells #[.int .i64 site, .int .i64 seq, .int .i64 n, .int .i64 s, .int .i64 a, .int .i64 b, .slice x2 m cap2] 29))
  have hq := heap_alloc_new (w.alloc (.cells #[.int .i64 site, .int .i64 seq, .int .i64 n, .int .i64 s, .int .i64 a, .int .i64 b, .slice x2 m cap2] 29)) (.cells #[.int .i64 site', .int .i64 seq', .int .i64 n', .int .i64 s', .int .i64 a', .int .i64 b', .slice y2 m' cap3] 29)
  rw [World.size_alloc] at hq
  have hbb := (alloc_below w (.cells #[.int .i64 site, .int .i64 seq, .int .i64 n, .int .i64 s, .int .i64 a, .int .i64 b, .slice x2 m cap2] 29)).alloc (by simp) (.cells #[.int .i64 site', .int .i64 seq', .int .i64 n', .int .i64 s', .int .i64 a', .int .i64 b', .slice y2 m' cap3] 29)
  have HWC := Lib.hid (fun W (h : Below w.heap.size w W) => rwrites_c (ha.below h) (hb.below h))
  have HB := Lib.hid hbb
  have HV := Lib.hid (show chSame site seq n s a b la site' seq' n' s' a' b' lb = ((site == site') && ((seq == seq') && (((n == n') && (s == s')) && (((a == a') && (b == b')) && decide (la = lb))))) from rfl)
  obtain ⟨r, hr⟩ : ∃ r, chSame site seq n s a b la site' seq' n' s' a' b' lb = r := ⟨_, rfl⟩
  rw [hr] at HV ⊢
  have hng := stamp_eqg
  have hvg := vec_eqg
  obtain ⟨c0, c1, c2, c3, c4, c5, c6⟩ := ch_cells hp
  obtain ⟨k0, k1, k2, k3, k4, k5, k6⟩ := ch_cells hq
  obtain ⟨q1, h1⟩ : ∃ q, (site == site') = q := ⟨_, rfl⟩
  obtain ⟨q2, h2⟩ : ∃ q, (seq == seq') = q := ⟨_, rfl⟩
  obtain ⟨q3, h3⟩ : ∃ q, ((n == n') && (s == s')) = q := ⟨_, rfl⟩
  obtain ⟨q4, h4⟩ : ∃ q, ((a == a') && (b == b')) = q := ⟨_, rfl⟩
  obtain ⟨q5, h5⟩ : ∃ q, decide (la = lb) = q := ⟨_, rfl⟩
  have e3 := stamp_eqb n s n' s' _ h3
  have e4 := vec_eqb a b a' b' _ h4
  rw [h1, h2, h3, h4, h5] at HV
  simp only [h5] at HWC
  clear hp hq hr ha hb hbb h3 h4 h5
  cases q1 with
  | false =>
    go_enter Tryd.func22, Tryd.ntmps22
    go_wp2
    go_ret
    exact ⟨by rw [HV.out]; rfl, HB.out⟩
  | true =>
  cases q2 with
  | false =>
    go_enter Tryd.func22, Tryd.ntmps22
    go_wp2
    go_ret
    exact ⟨by rw [HV.out]; rfl, HB.out⟩
  | true =>
  cases q3 with
  | false =>
    go_enter Tryd.func22, Tryd.ntmps22
    go_wp2
    go_ret
    exact ⟨by rw [HV.out]; rfl, HB.out⟩
  | true =>
  cases q4 with
  | false =>
    go_enter Tryd.func22, Tryd.ntmps22
    go_wp2
    go_ret
    exact ⟨by rw [HV.out]; rfl, HB.out⟩
  | true =>
    go_enter Tryd.func22, Tryd.ntmps22
    go_wp2_with (go_at_call 18; (with_reducible refine (HWC.out _ HB.out).mono ?_); rintro e9 w9 ⟨rfl, hb9⟩)
    go_ret
    exact ⟨by rw [HV.out]; cases q5 <;> rfl, HB.out.trans (hb9.mono HB.out.size)⟩
end Go.Proofs.YtfkmfccdhmnllaaDoor
end

section
namespace Go.Proofs.YtfkmfccdhmnllaaDoor
open Go.RowKit Go Go.Sort
set_option linter.unusedVariables false
set_option maxRecDepth 20000

/-- A change's box, and its writes. -/
structure ChBox (W : World) (q : Nat) (x1 x2 x3 x4 x5 x6 : Int) (ad : Option Addr) (m c : Nat) (l : List Wr) : Prop where
  row : W.heap[q]? = some (.cells #[.int .i64 x1, .int .i64 x2, .int .i64 x3, .int .i64 x4, .int .i64 x5, .int .i64 x6, .slice ad m c] 29 (0, 0))
  wrs : Wrs W ad m c l
theorem ChBox.kept {W W' : World} {q : Nat} {x1 x2 x3 x4 x5 x6 : Int} {ad : Option Addr} {m c : Nat} {l : List Wr} (h : ChBox W q x1 x2 x3 x4 x5 x6 ad m c l) (hb : Below W.heap.size W W') : ChBox W' q x1 x2 x3 x4 x5 x6 ad m c l := ⟨heap_below h.row hb, h.wrs.below hb⟩
theorem ChGetPost.cells {x1 x2 x3 x4 x5 x6 k er : Int} {ws : List Wr} {w w' : World} {e : Ending} (h : ChGetPost ((x1, x2, x3, x4, x5, x6, ws), k, er) w e w') :
    ∃ (a9 : Option Addr) (c9 : Nat), e = .returned (.tuple #[.agg #[.int .i64 x1, .int .i64 x2, .int .i64 x3, .int .i64 x4, .int .i64 x5, .int .i64 x6, .slice a9 ws.length c9], .int .i64 k, .int .i64 er]) ∧ Wrs w' a9 ws.length c9 ws ∧ Below w.heap.size w w' := by
  obtain ⟨_, _, _, _, _, _, v, _, _, _, rfl, ho, _, hb, he⟩ := h
  simp only [Prod.mk.injEq] at he
  obtain ⟨⟨rfl, rfl, rfl, rfl, rfl, rfl, rfl⟩, rfl, rfl⟩ := he
  obtain ⟨a9, c9, rfl, hw⟩ := OwnL.wrs ho
  exact ⟨a9, c9, rfl, hw, hb⟩
theorem chSame_self (x1 x2 x3 x4 x5 x6 : Int) (l : List Wr) : chSame x1 x2 x3 x4 x5 x6 l x1 x2 x3 x4 x5 x6 l = true := by rw [chSame_iff]

set_option maxRecDepth 100000 in
set_option maxHeartbeats 12800000 in
theorem chbytes_walk {w : World} {x x2 ad : Option Addr} {n1 cap m cap2 m9 cap9 : Nat} {gs : List Grp} {ws : List Wr} {l : List UInt8} (hg : Grs w x n1 cap gs) (hs : ∀ g ∈ gs, g.1.length ≤ 9223372036854775807)
    (hl : Wrs w x2 m cap2 ws) (hx : WShort ws) (site seq n s a b : Int) (hy : Bys w ad m9 cap9 l) (hT : TabW w) :
    Calls Tryd.prog 6 #[.slice x n1 cap, .agg #[.int .i64 site, .int .i64 seq, .int .i64 n, .int .i64 s, .int .i64 a, .int .i64 b, .slice x2 m cap2], .slice ad m9 cap9] w (Tells (.bool true) w) := by
  have hyle := hy.le
  have hymx := hy.max
  have hgle := hg.le
  have hgmx := hg.max
  have HLv := Lib.hid (fun W (h : Below w.heap.size w W) => chlives_c (hT.below h))
  have hLT := fun W (h : Below w.heap.size w W) => lightw_c (x := x) (n1 := n1) (cap := cap) (by omega) (hl.below h) hx
  have hGT := fun W (h : Below w.heap.size w W) => chget_c (hy.below h) (hg.below h) hs
  have hRG := fun W (h : Below w.heap.size w W) => rchget_c (hy.below h) (hg.below h) hs
  have hPB := fun (h9 : m9 ≤ 5000) W (h : Below w.heap.size w W) => chput_c (hy.below h) (by omega) (hg.below h) hs (hl.below h) hx (hT.below h) site seq n s a b
  have hPR := fun (h9 : m9 ≤ 5000) W (h : Below w.heap.size w W) => rchput_c (hy.below h) (by omega) (hg.below h) hs (hl.below h) hx site seq n s a b
  obtain ⟨L, hL⟩ : ∃ q, decide (lightW n1 ws m ≤ 5000) = q := ⟨_, rfl⟩
  simp only [hL] at hLT
  obtain ⟨LP, hLP⟩ : ∃ q, chputS l gs site seq n s a b ws = q := ⟨_, rfl⟩
  simp only [hLP] at hPB hPR
  obtain ⟨⟨⟨g1, g2, g3, g4, g5, g6, gws⟩, gn, gf⟩, hgv⟩ : ∃ q, chgetS gs l = q := ⟨_, rfl⟩
  simp only [hgv] at hGT hRG
  have hGT := fun W (h : Below w.heap.size w W) => (hGT W h).mono fun _ _ h => h.cells
  have hRG := fun W (h : Below w.heap.size w W) => (hRG W h).mono fun _ _ h => h.cells
  obtain ⟨gl, hgle2⟩ : ∃ q, gws.length = q := ⟨_, rfl⟩
  simp only [hgle2] at hGT hRG
  have hcv := fun (W : World) (a3 : Option Addr) (c3 : Nat) (n3 : Nat) (h3 : Bys W a3 n3 c3 LP) => conv_bys (P := Tryd.prog) h3 Tryd.underlying50 Tryd.underlying5 Tryd.underlying9
  have htb : ((text LP).toList == (text LP).toList) = true := by simp
  obtain ⟨T, hTX⟩ : ∃ q, text LP = q := ⟨_, rfl⟩
  rw [hTX] at hcv htb
  have HCV := Lib.hid hcv
  have HL := Lib.hid hl
  have HLT := Lib.hid hLT
  have HGT := Lib.hid hGT
  have HRG := Lib.hid hRG
  have HPB := Lib.hid hPB
  have HPR := Lib.hid hPR
  have hB := alloc_below w (.cells #[.int .i64 site, .int .i64 seq, .int .i64 n, .int .i64 s, .int .i64 a, .int .i64 b, .slice x2 m cap2] 29)
  have hr := heap_alloc_new w (.cells #[.int .i64 site, .int .i64 seq, .int .i64 n, .int .i64 s, .int .i64 a, .int .i64 b, .slice x2 m cap2] 29)
  clear hLT hGT hRG hPB hPR hcv hTX hL hLP hgv hgle2 hg hs hl hx hy hT hgle hgmx
  go_enter Tryd.func6, Tryd.ntmps6
  go_upto_region 1 with (fail)
  obtain ⟨B, hBe⟩ : ∃ q, w.heap.size = q := ⟨_, rfl⟩
  have HBe := Lib.hid hBe
  rw [hBe] at hr
  try rw [hBe]
  clear hBe
  generalize w.alloc (.cells #[.int .i64 site, .int .i64 seq, .int .i64 n, .int .i64 s, .int .i64 a, .int .i64 b, .slice x2 m cap2] 29) = W1 at *
  have bR2 := Lib.hid (show ChBox W1 B site seq n s a b x2 m cap2 ws from ⟨hr, HL.out.below hB⟩)
  obtain ⟨r0, r1, r2, r3, r4, r5, r6⟩ := ch_cells bR2.out.row
  have HB2 := Lib.hid hB
  clear hB hr
  have HLC := Lib.hid (HLT.out _ HB2.out)
  clear HLT
  cases L with
  | false =>
    go_wp2_with (first
      | (go_at_call 9; (with_reducible refine HLC.out.mono ?_); rintro e9 w9 ⟨rfl, hb9⟩; have bR3 := Lib.hid (bR2.out.kept hb9); have HB3 := Lib.hid (HB2.out.trans (hb9.mono HB2.out.size)); clear hb9)
      | (go_at_call 10; (with_reducible refine (HLv.out _ HB3.out).mono ?_); rintro e9 w8 ⟨rfl, hb9⟩; have HB4 := Lib.hid (HB3.out.trans (hb9.mono HB3.out.size)); clear hb9))
    go_ret
    exact ⟨rfl, HB4.out⟩
  | true =>
    by_cases h9 : 5000 < m9
    · have h9i : (5000 : Int) < (m9 : Int) := by omega
      go_wp2_with (first
        | (go_at_call 9; (with_reducible refine HLC.out.mono ?_); rintro e9 w9 ⟨rfl, hb9⟩; have bR3 := Lib.hid (bR2.out.kept hb9); have HB3 := Lib.hid (HB2.out.trans (hb9.mono HB2.out.size)); clear hb9)
        | (go_at_call 10; (with_reducible refine (HLv.out _ HB3.out).mono ?_); rintro e9 w8 ⟨rfl, hb9⟩; have HB4 := Lib.hid (HB3.out.trans (hb9.mono HB3.out.size)); clear hb9))
      go_ret
      exact ⟨rfl, HB4.out⟩
    · have h9i : ¬ (5000 : Int) < (m9 : Int) := by omega
      have HPB := Lib.hid (HPB.out (by omega))
      have HPR := Lib.hid (HPR.out (by omega))
      clear h9
      go_upto_region 3 with (go_at_call 9; (with_reducible refine HLC.out.mono ?_); rintro e9 w9 ⟨rfl, hb9⟩; have bR3 := Lib.hid (bR2.out.kept hb9); have HB3 := Lib.hid (HB2.out.trans (hb9.mono HB2.out.size)); clear hb9)
      clear r0 r1 r2 r3 r4 r5 r6 bR2 HB2 HLC
      go_upto_region 4 with (go_at_call 20; (with_reducible refine (HGT.out _ HB3.out).mono ?_); rintro e9 w9 ⟨a4, c4, rfl, hX, hb9⟩; have HBm := Lib.hid (HB3.out.trans (hb9.mono HB3.out.size)); have hXm := Lib.hid hX; have bRm := Lib.hid (bR3.out.kept hb9); clear hb9 hX)
      have hal := alloc_below w9 (.cells #[.int .i64 g1, .int .i64 g2, .int .i64 g3, .int .i64 g4, .int .i64 g5, .int .i64 g6, .slice a4 gl c4] 29)
      have bR4 := Lib.hid (bRm.out.kept hal)
      have HB4 := Lib.hid (HBm.out.trans (hal.mono HBm.out.size))
      have hnew : ChBox (w9.alloc (.cells #[.int .i64 g1, .int .i64 g2, .int .i64 g3, .int .i64 g4, .int .i64 g5, .int .i64 g6, .slice a4 gl c4] 29)) w9.heap.size g1 g2 g3 g4 g5 g6 a4 gl c4 gws := ⟨heap_alloc_new w9 (.cells #[.int .i64 g1, .int .i64 g2, .int .i64 g3, .int .i64 g4, .int .i64 g5, .int .i64 g6, .slice a4 gl c4] 29), hXm.out.below hal⟩
      obtain ⟨q4, hq⟩ : ∃ q, w9.heap.size = q := ⟨_, rfl⟩
      rw [hq] at hnew ⊢
      have bX4 := Lib.hid hnew
      generalize w9.alloc (.cells #[.int .i64 g1, .int .i64 g2, .int .i64 g3, .int .i64 g4, .int .i64 g5, .int .i64 g6, .slice a4 gl c4] 29) = V4 at *
      clear hal hq hnew hXm HBm HB3 bR3 bRm
      go_upto_region 5 with (go_at_call 21; (with_reducible refine (HRG.out _ HB4.out).mono ?_); rintro e9 w9 ⟨a5, c5, rfl, hX, hb9⟩; have HBm := Lib.hid (HB4.out.trans (hb9.mono HB4.out.size)); have hXm := Lib.hid hX; have bRm := Lib.hid (bR4.out.kept hb9); have bXm := Lib.hid (bX4.out.kept hb9); clear hb9 hX)
      have hal := alloc_below w9 (.cells #[.int .i64 g1, .int .i64 g2, .int .i64 g3, .int .i64 g4, .int .i64 g5, .int .i64 g6, .slice a5 gl c5] 29)
      have bR5 := Lib.hid (bRm.out.kept hal)
      have bX5 := Lib.hid (bXm.out.kept hal)
      have HB5 := Lib.hid (HBm.out.trans (hal.mono HBm.out.size))
      have hnew : ChBox (w9.alloc (.cells #[.int .i64 g1, .int .i64 g2, .int .i64 g3, .int .i64 g4, .int .i64 g5, .int .i64 g6, .slice a5 gl c5] 29)) w9.heap.size g1 g2 g3 g4 g5 g6 a5 gl c5 gws := ⟨heap_alloc_new w9 (.cells #[.int .i64 g1, .int .i64 g2, .int .i64 g3, .int .i64 g4, .int .i64 g5, .int .i64 g6, .slice a5 gl c5] 29), hXm.out.below hal⟩
      obtain ⟨q5, hq⟩ : ∃ q, w9.heap.size = q := ⟨_, rfl⟩
      rw [hq] at hnew ⊢
      have bY5 := Lib.hid hnew
      generalize w9.alloc (.cells #[.int .i64 g1, .int .i64 g2, .int .i64 g3, .int .i64 g4, .int .i64 g5, .int .i64 g6, .slice a5 gl c5] 29) = V5 at *
      clear hal hq hnew hXm HBm HB4 bR4 bRm bX4 bXm
      clear HGT HRG
      have hsm := fun W (h : Below V5.heap.size V5 W) => rchsame_c (bX5.out.wrs.below h) (bY5.out.wrs.below h) g1 g2 g3 g4 g5 g6 g1 g2 g3 g4 g5 g6
      simp only [chSame_self] at hsm
      have HSM := Lib.hid hsm
      have HCX := Lib.hid (fun W (h : Below V5.heap.size V5 W) => And.intro (ch_cells (bX5.out.kept h).row) (And.intro (ch_cells (bY5.out.kept h).row) (ch_cells (bR5.out.kept h).row)))
      clear hsm
      refine wp_region_flow_tail 29 [none, none, none, none, none, none, none, none, none, none, none, none, none, none, none, none, none, none, none, none, none, none, none, none, none, none, none, none, none, none, none, none, none, none, none, none, none, none, some 0, some 1, some 2, some 3, some 4, some 5, some 6, some 7, some 8, some 9, some 10, some 11, some 12, some 13, some 14, some 15, some 16, some 17, some 18, some 19, some 20, some 21, some 22, some 23, some 24, some 25, some 26, some 27, some 28] (fun i => [undef, undef, undef, undef, undef, undef, undef, undef, undef, undef, undef, undef, undef, undef, undef, undef, undef, undef, undef, undef, undef, undef, undef, undef, undef, undef, undef, undef, undef].getD i undef) [(fun v _ => v = .agg #[.int .i64 g1, .int .i64 g2, .int .i64 g3, .int .i64 g4, .int .i64 g5, .int .i64 g6, .slice a4 gl c4]), (fun v _ => v = .agg #[.int .i64 g1, .int .i64 g2, .int .i64 g3, .int .i64 g4, .int .i64 g5, .int .i64 g6, .slice a5 gl c5]), (fun v _ => v = .bool true), (fun v _ => v = .bool true), (fun v _ => v = .int .i64 gn), (fun v _ => v = .int .i64 gn), (fun v _ => v = .bool true), (fun v _ => v = .bool true), (fun v _ => v = .bool true), (fun v _ => v = .int .i64 gf), (fun v _ => v = .int .i64 gf), (fun v _ => v = .bool true), (fun v _ => v = .bool true), (fun v _ => v = .bool true), (fun v _ => v = .slice ad m9 cap9), (fun v _ => v = .slice x n1 cap), (fun v _ => v = .agg #[.int .i64 site, .int .i64 seq, .int .i64 n, .int .i64 s, .int .i64 a, .int .i64 b, .slice x2 m cap2]), (fun v W => OwnB W 0 5 v LP), (fun v _ => v = .string T), (fun v _ => v = .slice ad m9 cap9), (fun v _ => v = .slice x n1 cap), (fun v _ => v = .agg #[.int .i64 site, .int .i64 seq, .int .i64 n, .int .i64 s, .int .i64 a, .int .i64 b, .slice x2 m cap2]), (fun v W => OwnB W 0 5 v LP), (fun v _ => v = .string T), (fun v _ => v = .bool true), (fun v _ => v = .bool true), (fun v _ => v = .bool true), (fun v _ => v = .bool true), (fun v _ => v = .bool true)] (fun _ => False) (by kernel_rfl) (by kernel_rfl) (by kernel_rfl) rfl rfl rfl ?_ ?_ ?_
      · intro g hg v X Y hX hY hv
        simp only [List.mem_cons, List.not_mem_nil, or_false] at hg
        rcases hg with rfl | rfl | rfl | rfl | rfl | rfl | rfl | rfl | rfl | rfl | rfl | rfl | rfl | rfl | rfl | rfl | rfl | rfl | rfl | rfl | rfl | rfl | rfl | rfl | rfl | rfl | rfl | rfl | rfl
        all_goals first
          | exact hv
          | exact hv.kept hY
      · simp only [flowOpsF, List.take_succ_cons, List.take_zero, and_true]
        refine ⟨?_, ?_, ?_, ?_, ?_, ?_, ?_, ?_, ?_, ?_, ?_, ?_, ?_, ?_, ?_, ?_, ?_, ?_, ?_, ?_, ?_, ?_, ?_, ?_, ?_, ?_, ?_, ?_, ?_⟩
        · intro xs W hW hn
          obtain ⟨⟨f0, f1, f2, f3, f4, f5, f6⟩, ⟨h0, h1, h2, h3, h4, h5, h6⟩, k0, k1, k2, k3, k4, k5, k6⟩ := HCX.out W hW
          simp only [flowAct, List.zipWith_cons_cons, List.zipWith_nil_left]
          go_wp2_with (fail)
          exact ⟨rfl, _, rfl, Below.refl _ _, rfl, fun h => h.elim⟩
        · intro xs W hW hn
          obtain ⟨⟨f0, f1, f2, f3, f4, f5, f6⟩, ⟨h0, h1, h2, h3, h4, h5, h6⟩, k0, k1, k2, k3, k4, k5, k6⟩ := HCX.out W hW
          simp only [flowAct, List.zipWith_cons_cons, List.zipWith_nil_left]
          go_wp2_with (fail)
          exact ⟨rfl, _, rfl, Below.refl _ _, rfl, fun h => h.elim⟩
        · intro xs W hW hn
          simp [flowNeeds, Region.binds] at hn
          simp only [flowAct, List.zipWith_cons_cons, List.zipWith_nil_left]
          simp only [hn]
          go_wp2_with (go_at_call 22; (with_reducible refine (HSM.out _ hW).mono ?_); rintro e9 w9 ⟨rfl, hb9⟩)
          exact ⟨rfl, _, rfl, hb9, rfl, fun h => h.elim⟩
        · intro xs W hW hn
          simp [flowNeeds, Region.binds] at hn
          simp only [flowAct, List.zipWith_cons_cons, List.zipWith_nil_left]
          try simp only [hn]
          go_wp2_with (fail)
          exact ⟨rfl, _, rfl, Below.refl _ _, rfl, fun h => h.elim⟩
        · intro xs W hW hn
          simp [flowNeeds, Region.binds] at hn
          simp only [flowAct, List.zipWith_cons_cons, List.zipWith_nil_left]
          try simp only [hn]
          go_wp2_with (fail)
          exact ⟨rfl, _, rfl, Below.refl _ _, rfl, fun h => h.elim⟩
        · intro xs W hW hn
          simp [flowNeeds, Region.binds] at hn
          simp only [flowAct, List.zipWith_cons_cons, List.zipWith_nil_left]
          try simp only [hn]
          go_wp2_with (fail)
          exact ⟨rfl, _, rfl, Below.refl _ _, rfl, fun h => h.elim⟩
        · intro xs W hW hn
          simp [flowNeeds, Region.binds] at hn
          simp only [flowAct, List.zipWith_cons_cons, List.zipWith_nil_left]
          try simp only [hn]
          go_wp2_with (fail)
          exact ⟨rfl, _, rfl, Below.refl _ _, rfl, fun h => h.elim⟩
        · intro xs W hW hn
          simp [flowNeeds, Region.binds] at hn
          simp only [flowAct, List.zipWith_cons_cons, List.zipWith_nil_left]
          try simp only [hn]
          go_wp2_with (fail)
          exact ⟨rfl, _, rfl, Below.refl _ _, rfl, fun h => h.elim⟩
        · intro xs W hW hn
          simp [flowNeeds, Region.binds] at hn
          simp only [flowAct, List.zipWith_cons_cons, List.zipWith_nil_left]
          try simp only [hn]
          go_wp2_with (fail)
          exact ⟨rfl, _, rfl, Below.refl _ _, rfl, fun h => h.elim⟩
        · intro xs W hW hn
          simp [flowNeeds, Region.binds] at hn
          simp only [flowAct, List.zipWith_cons_cons, List.zipWith_nil_left]
          try simp only [hn]
          go_wp2_with (fail)
          exact ⟨rfl, _, rfl, Below.refl _ _, rfl, fun h => h.elim⟩
        · intro xs W hW hn
          simp [flowNeeds, Region.binds] at hn
          simp only [flowAct, List.zipWith_cons_cons, List.zipWith_nil_left]
          try simp only [hn]
          go_wp2_with (fail)
          exact ⟨rfl, _, rfl, Below.refl _ _, rfl, fun h => h.elim⟩
        · intro xs W hW hn
          simp [flowNeeds, Region.binds] at hn
          simp only [flowAct, List.zipWith_cons_cons, List.zipWith_nil_left]
          try simp only [hn]
          go_wp2_with (fail)
          exact ⟨rfl, _, rfl, Below.refl _ _, rfl, fun h => h.elim⟩
        · intro xs W hW hn
          simp [flowNeeds, Region.binds] at hn
          simp only [flowAct, List.zipWith_cons_cons, List.zipWith_nil_left]
          try simp only [hn]
          go_wp2_with (fail)
          exact ⟨rfl, _, rfl, Below.refl _ _, rfl, fun h => h.elim⟩
        · intro xs W hW hn
          simp [flowNeeds, Region.binds] at hn
          simp only [flowAct, List.zipWith_cons_cons, List.zipWith_nil_left]
          try simp only [hn]
          go_wp2_with (fail)
          exact ⟨rfl, _, rfl, Below.refl _ _, rfl, fun h => h.elim⟩
        · intro xs W hW hn
          simp [flowNeeds, Region.binds] at hn
          simp only [flowAct, List.zipWith_cons_cons, List.zipWith_nil_left]
          try simp only [hn]
          go_wp2_with (fail)
          exact ⟨rfl, _, rfl, Below.refl _ _, rfl, fun h => h.elim⟩
        · intro xs W hW hn
          simp [flowNeeds, Region.binds] at hn
          simp only [flowAct, List.zipWith_cons_cons, List.zipWith_nil_left]
          try simp only [hn]
          go_wp2_with (fail)
          exact ⟨rfl, _, rfl, Below.refl _ _, rfl, fun h => h.elim⟩
        · intro xs W hW hn
          obtain ⟨⟨f0, f1, f2, f3, f4, f5, f6⟩, ⟨h0, h1, h2, h3, h4, h5, h6⟩, k0, k1, k2, k3, k4, k5, k6⟩ := HCX.out W hW
          simp [flowNeeds, Region.binds] at hn
          simp only [flowAct, List.zipWith_cons_cons, List.zipWith_nil_left]
          try simp only [hn]
          go_wp2_with (fail)
          exact ⟨rfl, _, rfl, Below.refl _ _, rfl, fun h => h.elim⟩
        · intro xs W hW hn
          simp [flowNeeds, Region.binds] at hn
          simp only [flowAct, List.zipWith_cons_cons, List.zipWith_nil_left]
          simp only [hn]
          go_wp2_with (go_at_call 23; (with_reducible refine (HPB.out _ (HB5.out.trans (hW.mono HB5.out.size))).mono ?_); rintro e9 w9 ⟨v9, rfl, ho9, hb9⟩)
          exact ⟨rfl, _, rfl, hb9, ho9.mono (Nat.zero_le _), fun h => h.elim⟩
        · intro xs W hW hn
          simp [flowNeeds, Region.binds] at hn
          simp only [flowAct, List.zipWith_cons_cons, List.zipWith_nil_left]
          obtain ⟨hn1, hn2⟩ := hn
          obtain ⟨a3, c3, e3, hy3⟩ := OwnB.bys hn1
          have hcv := HCV.out _ _ _ _ hy3
          simp only [e3, hn2]
          go_wp2_with (fail)
          exact ⟨rfl, _, rfl, Below.refl _ _, rfl, fun h => h.elim⟩
        · intro xs W hW hn
          simp [flowNeeds, Region.binds] at hn
          simp only [flowAct, List.zipWith_cons_cons, List.zipWith_nil_left]
          try simp only [hn]
          go_wp2_with (fail)
          exact ⟨rfl, _, rfl, Below.refl _ _, rfl, fun h => h.elim⟩
        · intro xs W hW hn
          simp [flowNeeds, Region.binds] at hn
          simp only [flowAct, List.zipWith_cons_cons, List.zipWith_nil_left]
          try simp only [hn]
          go_wp2_with (fail)
          exact ⟨rfl, _, rfl, Below.refl _ _, rfl, fun h => h.elim⟩
        · intro xs W hW hn
          obtain ⟨⟨f0, f1, f2, f3, f4, f5, f6⟩, ⟨h0, h1, h2, h3, h4, h5, h6⟩, k0, k1, k2, k3, k4, k5, k6⟩ := HCX.out W hW
          simp [flowNeeds, Region.binds] at hn
          simp only [flowAct, List.zipWith_cons_cons, List.zipWith_nil_left]
          try simp only [hn]
          go_wp2_with (fail)
          exact ⟨rfl, _, rfl, Below.refl _ _, rfl, fun h => h.elim⟩
        · intro xs W hW hn
          simp [flowNeeds, Region.binds] at hn
          simp only [flowAct, List.zipWith_cons_cons, List.zipWith_nil_left]
          simp only [hn]
          go_wp2_with (go_at_call 24; (with_reducible refine (HPR.out _ (HB5.out.trans (hW.mono HB5.out.size))).mono ?_); rintro e9 w9 ⟨v9, rfl, ho9, hb9⟩)
          exact ⟨rfl, _, rfl, hb9, ho9.mono (Nat.zero_le _), fun h => h.elim⟩
        · intro xs W hW hn
          simp [flowNeeds, Region.binds] at hn
          simp only [flowAct, List.zipWith_cons_cons, List.zipWith_nil_left]
          obtain ⟨hn1, hn2⟩ := hn
          obtain ⟨a3, c3, e3, hy3⟩ := OwnB.bys hn1
          have hcv := HCV.out _ _ _ _ hy3
          simp only [e3, hn2]
          go_wp2_with (fail)
          exact ⟨rfl, _, rfl, Below.refl _ _, rfl, fun h => h.elim⟩
        · intro xs W hW hn
          have htb2 := htb
          simp [flowNeeds, Region.binds] at hn
          simp only [flowAct, List.zipWith_cons_cons, List.zipWith_nil_left]
          try simp only [hn]
          go_wp2_with (fail)
          exact ⟨rfl, _, rfl, Below.refl _ _, rfl, fun h => h.elim⟩
        · intro xs W hW hn
          simp [flowNeeds, Region.binds] at hn
          simp only [flowAct, List.zipWith_cons_cons, List.zipWith_nil_left]
          try simp only [hn]
          go_wp2_with (fail)
          exact ⟨rfl, _, rfl, Below.refl _ _, rfl, fun h => h.elim⟩
        · intro xs W hW hn
          simp [flowNeeds, Region.binds] at hn
          simp only [flowAct, List.zipWith_cons_cons, List.zipWith_nil_left]
          try simp only [hn]
          go_wp2_with (fail)
          exact ⟨rfl, _, rfl, Below.refl _ _, rfl, fun h => h.elim⟩
        · intro xs W hW hn
          simp [flowNeeds, Region.binds] at hn
          simp only [flowAct, List.zipWith_cons_cons, List.zipWith_nil_left]
          simp only [hn]
          go_wp2_with (go_at_call 10; (with_reducible refine (HLv.out _ (HB5.out.trans (hW.mono HB5.out.size))).mono ?_); rintro e9 w9 ⟨rfl, hb9⟩)
          exact ⟨rfl, _, rfl, hb9, rfl, fun h => h.elim⟩
        · intro xs W hW hn
          simp [flowNeeds, Region.binds] at hn
          simp only [flowAct, List.zipWith_cons_cons, List.zipWith_nil_left]
          try simp only [hn]
          go_wp2_with (fail)
          exact ⟨rfl, _, rfl, Below.refl _ _, rfl, fun h => h.elim⟩
      · intro xs W hW hall hfr
        clear hfr
        simp only [flowAll, and_true, Nat.zero_add, Nat.reduceAdd] at hall
        obtain ⟨-, -, -, -, -, -, -, -, -, -, -, -, -, -, -, -, -, -, -, -, -, -, -, -, -, -, -, -, e28⟩ := hall
        simp only [flowAct, List.zipWith_cons_cons, List.zipWith_nil_left, List.drop_succ_cons, List.drop_zero]
        simp only [e28]
        have HB7 := Lib.hid (HB5.out.trans (hW.mono HB5.out.size))
        go_wp2
        go_ret
        exact ⟨rfl, HB7.out⟩
end Go.Proofs.YtfkmfccdhmnllaaDoor
end

