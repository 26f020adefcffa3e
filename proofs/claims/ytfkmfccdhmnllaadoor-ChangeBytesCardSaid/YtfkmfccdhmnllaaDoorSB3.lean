/-
  Merged: DJ G0 G1 G2 E5 E8 EA G3.
-/
import Derived.Deep.QuietTactic
import Derived.StillTail
import Derived.Lib.QuietBelow
import Derived.Test.YtfkmfccdhmnllaaDoorRows
import Derived.WalkKit
import Derived.Lib.Hide
import Derived.BigQuiet
import Derived.BigRegion
import Derived.Deep.Cut
import Derived.Deep.MidRow
import Derived.Great.BuildSlice
import Derived.Outline
import Derived.OwnWalk
import Derived.Laws.Rows
import Derived.ChangeKeysEq
import Derived.Laws.StructEq
import Derived.WalkSpells
import Derived.WalkLawsBesides
import Derived.Laws.CopyOwn
import Derived.WalkSmall
import Derived.Lib.LaidTab
import Derived.Deep.RegionWith
import Derived.Lib.MinMax
import Derived.WideShapes
import Derived.ChangeSame
import Derived.OpenShut
import Derived.Deep.Slices
import Derived.Deep.AppendSrc
import Derived.Lib.AppendZerosOnto
import Derived.Lib.SliceRun
import Derived.Lib.Walk
import Derived.Lib.OthersKept
import Derived.Laws.RangeAny
import Derived.Maps.OwnOps
import Derived.Maps.Views
import Derived.ChangeSlices
import Derived.ChangeArms
import Derived.Deep.DeepAppendWide
import Derived.OrdersIn
import Derived.TacticsIn
import Derived.RangeFuncNested
import Derived.RangeFuncBound
import Derived.RangeFuncCalls
import Derived.RangeFuncLeaves
import Derived.Maps.AppendAt
import Derived.Shelf.Abstract
import Derived.OwnWalkIn
import Derived.TacticsInMore
import Derived.LoopNIn
import Derived.LoopIn
import Derived.Stop.LaidErr
import Derived.Test.YtfkmfccdhmnllaaDoorSB2

section
namespace Go.Proofs.YtfkmfccdhmnllaaDoor
open Go Go.RowKit
set_option linter.unusedVariables false

section
variable {P : Program} {ops : Array Oper} {md : Region.Mode}

/-- How one operation ends: the invariant holds with it. -/
def InvEnd (Inv : (Nat → Bool) → (Nat → Value) → World → Prop) (a : Act) (o : Oper) (i : Nat) (L : Nat → Bool) (xs : Nat → Value) (e : Exit) (a' : Act) (w' : World) : Prop :=
  e = .normal ∧ ∃ v, a' = a.put o.dst v ∧ Inv (fun j => if j = i then true else L j) (fun j => if j = i then v else xs j) w'

theorem wpAny_inv {Q : Exit → Act → World → Prop} (act : (Nat → Value) → Act) (Inv : (Nat → Bool) → (Nat → Value) → World → Prop)
    (hwf : ∀ i o, ops[i]? = some o → ∀ e ∈ o.after, Region.binds md e = true → e.on < i)
    (hput : ∀ i o xs v, ops[i]? = some o → (act xs).put o.dst v = act (fun j => if j = i then v else xs j))
    (hop : ∀ i o, ops[i]? = some o → ∀ L xs w, Inv L xs w → L i = false → (∀ e ∈ o.after, Region.binds md e = true → L e.on = true) → wpList P ops (InvEnd Inv (act xs) o i L xs) [o] (act xs) w)
    (hend : ∀ L xs w, Inv L xs w → (∀ i, i < ops.size → L i = true) → Q .normal (act xs) w) :
    ∀ (f : Nat) (listed : Array Bool) (xs : Nat → Value) (w : World), Inv (fun i => listed.getD i true) xs w → listed.size = ops.size → listed.toList.count false ≤ f → wpAny P md ops Q f listed (act xs) w := by
  have hnone : ∀ (listed : Array Bool), listed.size = ops.size → Region.ready md ops listed = [] → ∀ i, i < ops.size → listed.getD i true = true := by
    intro listed hs hr i
    induction i using Nat.strongRecOn with
    | _ i ih =>
      intro hi
      cases hl : listed.getD i true with
      | true => rfl
      | false =>
        have : i ∈ Region.ready md ops listed := by
          refine mem_ready.2 ⟨hl, ops[i], by simp [hi], fun e he hb => ?_⟩
          have hlt := hwf i ops[i] (by simp [hi]) e he hb
          have h1 := ih e.on hlt (by omega)
          have h2 : e.on < listed.size := by omega
          simp only [Array.getD_eq_getD_getElem?, Array.getElem?_eq_getElem h2, Option.getD_some] at h1 ⊢
          exact h1
        rw [hr] at this
        cases this
  intro f
  induction f with
  | zero =>
    intro listed xs w hI hs hc
    have hall : ∀ i, i < ops.size → listed.getD i true = true := by
      intro i hi
      cases hl : listed.getD i true with
      | true => rfl
      | false =>
        have h2 : i < listed.size := by omega
        have h3 : listed[i] = false := by simpa [Array.getD_eq_getD_getElem?, Array.getElem?_eq_getElem h2] using hl
        have : false ∈ listed.toList := by rw [← h3]; simp
        have := List.count_pos_iff.2 this
        omega
    refine ⟨?_, hend _ xs w hI hall⟩
    cases hr : Region.ready md ops listed with
    | nil => rfl
    | cons i r =>
      have hm : i ∈ Region.ready md ops listed := by rw [hr]; simp
      obtain ⟨hun, o, ho, _⟩ := mem_ready.1 hm
      have := hall i (Array.getElem?_eq_some_iff.1 ho).1
      rw [hun] at this
      cases this
  | succ f ih =>
    intro listed xs w hI hs hc
    refine ⟨fun hr => hend _ xs w hI (hnone listed hs hr), fun i hi => ?_⟩
    obtain ⟨hun, o, ho, hall⟩ := mem_ready.1 hi
    have hilt := (Array.getElem?_eq_some_iff.1 ho).1
    have h2 : i < listed.size := by omega
    refine wpOp_of_one ho (fun a' w' h => ?_) (fun e a' w' h => h.1) (hop i o ho _ xs w hI hun fun e he hb => ?_)
    · obtain ⟨_, v, rfl, hI'⟩ := h
      rw [hput i o xs v ho]
      refine ih _ _ w' ?_ (by simpa using hs) ?_
      · have hfe : (fun j => (listed.setIfInBounds i true).getD j true) = (fun j => if j = i then true else listed.getD j true) := by
          funext j
          by_cases hji : j = i
          · subst hji
            simp [Array.getD_eq_getD_getElem?, h2]
          · rw [getD_set_ne true (Ne.symm hji), if_neg hji]
        rw [hfe]
        exact hI'
      · have h3 : listed[i] = false := by simpa [Array.getD_eq_getD_getElem?, Array.getElem?_eq_getElem h2] using hun
        have := count_set_lt listed.toList i (by simp [h2, h3])
        rw [Array.toList_setIfInBounds]
        omega
    · have h1 := hall e he hb
      have h3 : e.on < listed.size := by have := hwf i o ho e he hb; omega
      simp only [Array.getD_eq_getD_getElem?, Array.getElem?_eq_getElem h3, Option.getD_some] at h1 ⊢
      exact h1

def invNeeds (md : Region.Mode) (L : Nat → Bool) : List Edge → Prop
  | [] => True
  | e :: l => (Region.binds md e = true → L e.on = true) ∧ invNeeds md L l
theorem invNeeds_of {L : Nat → Bool} : ∀ (l : List Edge), (∀ e ∈ l, Region.binds md e = true → L e.on = true) → invNeeds md L l
  | [], _ => trivial
  | e :: l, h => ⟨h e (by simp), invNeeds_of l fun e' he => h e' (by simp [he])⟩
def invOps (P : Program) (md : Region.Mode) (ops : Array Oper) (a : Act) (srcs : List (Option Nat)) (Inv : (Nat → Bool) → (Nat → Value) → World → Prop) : List Oper → Nat → Prop
  | [], _ => True
  | o :: l, k => (∀ L xs w, Inv L xs w → L k = false → invNeeds md L o.after.toList → wpList P ops (InvEnd Inv (flowAct a srcs xs) o k L xs) [o] (flowAct a srcs xs) w) ∧ invOps P md ops a srcs Inv l (k + 1)
theorem invOps_get {a : Act} {srcs : List (Option Nat)} {Inv : (Nat → Bool) → (Nat → Value) → World → Prop} : ∀ (l : List Oper) (k : Nat), invOps P md ops a srcs Inv l k → ∀ i o, l[i]? = some o →
    ∀ L xs w, Inv L xs w → L (k + i) = false → invNeeds md L o.after.toList → wpList P ops (InvEnd Inv (flowAct a srcs xs) o (k + i) L xs) [o] (flowAct a srcs xs) w
  | [], _, _, i, o, h => by simp at h
  | o' :: l, k, hh, 0, o, h => by
    obtain rfl : o' = o := by simpa using h
    exact hh.1
  | o' :: l, k, hh, i + 1, o, h => by
    have := invOps_get l (k + 1) hh.2 i o (by simpa using h)
    rwa [show k + 1 + i = k + (i + 1) by omega] at this
theorem wp_region_inv {id : Nat} {Q : Exit → Act → World → Prop} {l : List Oper} {a : Act} {w : World} (srcs : List (Option Nat)) (xs0 : Nat → Value) (Inv : (Nat → Bool) → (Nat → Value) → World → Prop) (hm : P.follows .mixedOrders = true)
    (hB : flowB .any l.toArray srcs = true) (hl : a.tmps.size = srcs.length) (h0 : flowAct a srcs xs0 = a)
    (hI0 : ∀ L, (∀ i, i < l.length → L i = false) → Inv L xs0 { w with drawn := w.drawn + 1 })
    (hops : invOps P .any l.toArray a srcs Inv l 0)
    (hend : ∀ L xs w', Inv L xs w' → (∀ i, i < l.length → L i = true) → Q .normal (flowAct a srcs xs) w') : (Code.region id l.toArray true).wp P Q a w := by
  refine wp_region_any hm ?_
  have := wpAny_inv (P := P) (ops := l.toArray) (md := .any) (Q := Q) (flowAct a srcs) Inv
    (fun i o ho => (flowB_spec hB ho).1) (fun i o xs v ho => flowAct_put hB hl ho xs v)
    (fun i o ho L xs x hI hL hn => by
      have := invOps_get l 0 hops i o (by simpa using ho) L xs x hI (by rwa [Nat.zero_add]) (invNeeds_of _ fun e he hb => hn e (by simpa using he) hb)
      rwa [Nat.zero_add] at this)
    (fun L xs x hI hL => hend L xs x hI (fun i hi => hL i (by simpa using hi)))
    l.toArray.size (Array.replicate l.toArray.size false) xs0 { w with drawn := w.drawn + 1 } (hI0 _ fun i hi => by
      rw [Array.getD_eq_getD_getElem?, Array.getElem?_eq_getElem (by simpa using hi)]; simp) (by simp) (by simp)
  rwa [h0] at this
end
end Go.Proofs.YtfkmfccdhmnllaaDoor
end

section
namespace Go.Proofs.YtfkmfccdhmnllaaDoor
open Go.RowKit Go Go.Sort
set_option linter.unusedVariables false
set_option maxRecDepth 20000

theorem nans_c (u : ByteArray) (w : World) : Calls Tryd.prog 104 #[.string u] w (fun e w' => e = .returned (.bool false) ∧ w' = w) := by
  have hz : (u.toList == u.toList) = true := by simp
  go_enter Tryd.func104, Tryd.ntmps104
  go_wp2
  go_ret
  exact ⟨by first | rfl | simp, rfl⟩
theorem nani_c (u : Int) (w : World) : Calls Tryd.prog 105 #[.int .i64 u] w (fun e w' => e = .returned (.bool false) ∧ w' = w) := by
  go_enter Tryd.func105, Tryd.ntmps105
  go_wp2
  go_ret
  exact ⟨by first | rfl | simp, rfl⟩
def cmp3 (p q : Bool) : Int := if p = true then -1 else if q = true then 1 else 0
set_option maxHeartbeats 1600000 in
theorem cmps_c (u u' : ByteArray) (w : World) : Calls Tryd.prog 75 #[.string u, .string u'] w (fun e w' => e = .returned (.int .i64 (cmp3 (Op.bytesLess u.toList u'.toList) (!(u.toList == u'.toList)))) ∧ w' = w) := by
  have h1 := fun W => nans_c u W
  have h2 := fun W => nans_c u' W
  obtain ⟨p, hp⟩ : ∃ z, Op.bytesLess u.toList u'.toList = z := ⟨_, rfl⟩
  obtain ⟨q, hq⟩ : ∃ z, (u.toList == u'.toList) = z := ⟨_, rfl⟩
  rw [hp, hq]
  have HV := Lib.hid (show cmp3 p q = cmp3 p q from rfl)
  have H1 := Lib.hid h1
  have H2 := Lib.hid h2
  clear h1 h2
  cases p with
  | true =>
    go_enter Tryd.func75, Tryd.ntmps75
    go_upto_region 2 with (go_at_call 104; (with_reducible refine (H1.out _).mono ?_); rintro e9 w9 ⟨rfl, rfl⟩)
    go_wp2_with (go_at_call 104; (with_reducible refine (H2.out _).mono ?_); rintro e9 w9 ⟨rfl, rfl⟩)
    go_ret
    exact ⟨by rfl, rfl⟩
  | false =>
    cases q with
    | false =>
      go_enter Tryd.func75, Tryd.ntmps75
      go_upto_region 2 with (go_at_call 104; (with_reducible refine (H1.out _).mono ?_); rintro e9 w9 ⟨rfl, rfl⟩)
      go_wp2_with (go_at_call 104; (with_reducible refine (H2.out _).mono ?_); rintro e9 w9 ⟨rfl, rfl⟩)
      go_ret
      exact ⟨by rfl, rfl⟩
    | true =>
      go_enter Tryd.func75, Tryd.ntmps75
      go_upto_region 2 with (go_at_call 104; (with_reducible refine (H1.out _).mono ?_); rintro e9 w9 ⟨rfl, rfl⟩)
      go_wp2_with (go_at_call 104; (with_reducible refine (H2.out _).mono ?_); rintro e9 w9 ⟨rfl, rfl⟩)
      go_ret
      exact ⟨by rfl, rfl⟩
set_option maxHeartbeats 1600000 in
theorem cmpi_c (u u' : Int) (w : World) : Calls Tryd.prog 76 #[.int .i64 u, .int .i64 u'] w (fun e w' => e = .returned (.int .i64 (cmp3 (decide (u < u')) (decide (u' < u)))) ∧ w' = w) := by
  have H1 := Lib.hid (fun W => nani_c u W)
  have H2 := Lib.hid (fun W => nani_c u' W)
  by_cases hp : u < u'
  · have HV := Lib.hid (show cmp3 (decide (u < u')) (decide (u' < u)) = -1 by simp [cmp3, hp])
    go_enter Tryd.func76, Tryd.ntmps76
    go_upto_region 2 with (go_at_call 105; (with_reducible refine (H1.out _).mono ?_); rintro e9 w9 ⟨rfl, rfl⟩)
    go_wp2_with (go_at_call 105; (with_reducible refine (H2.out _).mono ?_); rintro e9 w9 ⟨rfl, rfl⟩)
    go_ret
    exact ⟨by rw [HV.out]; rfl, rfl⟩
  · by_cases hq : u' < u
    · have HV := Lib.hid (show cmp3 (decide (u < u')) (decide (u' < u)) = 1 by simp [cmp3, hp, hq])
      go_enter Tryd.func76, Tryd.ntmps76
      go_upto_region 2 with (go_at_call 105; (with_reducible refine (H1.out _).mono ?_); rintro e9 w9 ⟨rfl, rfl⟩)
      go_wp2_with (go_at_call 105; (with_reducible refine (H2.out _).mono ?_); rintro e9 w9 ⟨rfl, rfl⟩)
      go_ret
      exact ⟨by rw [HV.out]; rfl, rfl⟩
    · have HV := Lib.hid (show cmp3 (decide (u < u')) (decide (u' < u)) = 0 by simp [cmp3, hp, hq])
      go_enter Tryd.func76, Tryd.ntmps76
      go_upto_region 2 with (go_at_call 105; (with_reducible refine (H1.out _).mono ?_); rintro e9 w9 ⟨rfl, rfl⟩)
      go_wp2_with (go_at_call 105; (with_reducible refine (H2.out _).mono ?_); rintro e9 w9 ⟨rfl, rfl⟩)
      go_ret
      exact ⟨by rw [HV.out]; rfl, rfl⟩
/-- Two ints of a call's own. -/
def Ints2 (x y : Int) (v : Value) (w : World) : Prop := ∃ q e, v = .slice (some ⟨q, 0, none⟩) 2 2 ∧ w.heap[q]? = some (.cells #[.int .i64 x, .int .i64 y] e (0, 0))
theorem Ints2.kept {x y : Int} {v : Value} {w w' : World} (h : Ints2 x y v w) (hb : Below w.heap.size w w') : Ints2 x y v w' := by
  obtain ⟨q, e, rfl, hq⟩ := h
  exact ⟨q, e, rfl, heap_below hq hb⟩
def or2 (x y : Int) : Int := if x = 0 then y else x
set_option maxHeartbeats 1600000 in
theorem cmpor_c (x y : Int) (v : Value) {w : World} (h : Ints2 x y v w) : Calls Tryd.prog 74 #[v] w (fun e w' => e = .returned (.int .i64 (or2 x y)) ∧ w' = w) := by
  obtain ⟨q, e, rfl, hq⟩ := h
  have c0 : w.cell? ⟨q, 0, none⟩ = some (.int .i64 x) := by rw [cell_of_row _ q _ _ _ (0, 0) hq]; rfl
  have c1 : w.cell? ⟨q, 1, none⟩ = some (.int .i64 y) := by rw [cell_of_row _ q _ _ _ (0, 0) hq]; rfl
  clear hq
  by_cases hx : x = 0
  · have HV := Lib.hid (show or2 x y = y by simp [or2, hx])
    by_cases hy : y = 0
    · subst hx hy
      go_enter Tryd.func74, Tryd.ntmps74
      go_wp2
      refine wp_loop_rounds 3 ?_
      rw [rounds_succ]
      go_wp2
      rw [rounds_succ]
      go_wp2
      rw [rounds_succ]
      go_wp2
      go_ret
      exact ⟨by rw [HV.out]; rfl, rfl⟩
    · subst hx
      go_enter Tryd.func74, Tryd.ntmps74
      go_wp2
      refine wp_loop_rounds 3 ?_
      rw [rounds_succ]
      go_wp2
      rw [rounds_succ]
      go_wp2
      go_ret
      exact ⟨by rw [HV.out]; rfl, rfl⟩
  · have HV := Lib.hid (show or2 x y = x by simp [or2, hx])
    go_enter Tryd.func74, Tryd.ntmps74
    go_wp2
    refine wp_loop_rounds 3 ?_
    rw [rounds_succ]
    go_wp2
    go_ret
    exact ⟨by rw [HV.out]; rfl, rfl⟩
end Go.Proofs.YtfkmfccdhmnllaaDoor
end

section
namespace Go.Proofs.YtfkmfccdhmnllaaDoor
open Go.RowKit Go Go.Sort
set_option linter.unusedVariables false
set_option maxRecDepth 20000

/-- What order tells. -/
def ordS (a b : Wr) : Int := cmp3 (aheadS a b) (aheadS b a)
theorem ord_geq (a b : Wr) : decide (ordS a b ≥ 0) = !aheadS a b := by
  unfold ordS cmp3
  cases aheadS a b <;> cases aheadS b a <;> rfl
theorem ord_or (a b : Wr) : or2 (cmp3 (Op.bytesLess a.k b.k) (!(a.k == b.k))) (cmp3 (decide (a.i < b.i)) (decide (b.i < a.i))) = ordS a b := by
  have S : Strict Op.bytesLess := strictT
  unfold ordS aheadS or2
  by_cases h : a.k = b.k
  · rw [h, S.irr]
    simp [cmp3]
  · have h1 : (a.k == b.k) = false := by simpa using h
    have h2 : (b.k == a.k) = false := by simpa using fun e => h e.symm
    rw [h1, h2]
    simp only [if_true]
    cases ha : Op.bytesLess a.k b.k with
    | true => simp [cmp3]
    | false =>
      cases hb : Op.bytesLess b.k a.k with
      | true => simp [cmp3]
      | false => exact absurd (S.tot _ _ ha hb) h
theorem wr_cells' {W : World} {q : Nat} {k v : ByteArray} {i : Int} {g : Bool} (h : W.heap[q]? = some (.cells #[.string k, .int .i64 i, .bool g, .string v] 31 (0, 0))) : W.cell? ⟨q, 0, none⟩ = some (.string k) ∧ W.cell? ⟨q, 1, none⟩ = some (.int .i64 i) ∧ W.cell? ⟨q, 2, none⟩ = some (.bool g) ∧ W.cell? ⟨q, 3, none⟩ = some (.string v) := by
  refine ⟨?_, ?_, ?_, ?_⟩ <;> (rw [cell_of_row _ q _ _ _ (0, 0) h]; rfl)
set_option maxHeartbeats 3200000 in
theorem order_c (k : List UInt8) (i : Int) (g : Bool) (v : List UInt8) (k' : List UInt8) (i' : Int) (g' : Bool) (v' : List UInt8) (w : World) : Calls Tryd.prog 47 #[.agg #[.string (text k), .int .i64 i, .bool g, .string (text v)], .agg #[.string (text k'), .int .i64 i', .bool g', .string (text v')]] w (Tells (.int .i64 (ordS ⟨k, i, g, v⟩ ⟨k', i', g', v'⟩)) w) := by
  have hp := heap_below (heap_alloc_new w (.cells #[.string (text k), .int .i64 i, .bool g, .string (text v)] 31)) (alloc_below (w.alloc (.cells #[.string (text k), .int .i64 i, .bool g, .string (text v)] 31)) (.cells #[.string (text k'), .int .i64 i', .bool g', .string (text v')] 31))
  have hq := heap_alloc_new (w.alloc (.cells #[.string (text k), .int .i64 i, .bool g, .string (text v)] 31)) (.cells #[.string (text k'), .int .i64 i', .bool g', .string (text v')] 31)
  simp only [World.size_alloc] at hq
  have HB := Lib.hid ((alloc_below w (.cells #[.string (text k), .int .i64 i, .bool g, .string (text v)] 31)).alloc (by simp) (.cells #[.string (text k'), .int .i64 i', .bool g', .string (text v')] 31))
  have HR := Lib.hid (ord_or ⟨k, i, g, v⟩ ⟨k', i', g', v'⟩)
  have h1 := fun W => cmps_c (text k) (text k') W
  have h2 := fun W => cmpi_c i i' W
  simp only [text_toList] at h1 HR
  obtain ⟨X1, hX1⟩ : ∃ z, cmp3 (Op.bytesLess k k') (!(k == k')) = z := ⟨_, rfl⟩
  obtain ⟨X2, hX2⟩ : ∃ z, cmp3 (decide (i < i')) (decide (i' < i)) = z := ⟨_, rfl⟩
  rw [hX1, hX2] at HR
  simp only [hX1] at h1
  simp only [hX2] at h2
  have h3 := fun (v : Value) (W : World) (h : Ints2 X1 X2 v W) => cmpor_c X1 X2 v h
  obtain ⟨R, hR⟩ : ∃ z, or2 X1 X2 = z := ⟨_, rfl⟩
  simp only [hR] at h3 HR
  obtain ⟨u, hu⟩ : ∃ u, text k = u := ⟨_, rfl⟩
  obtain ⟨u', hu'⟩ : ∃ u, text k' = u := ⟨_, rfl⟩
  simp only [hu, hu'] at h1 hp hq HB ⊢
  have H1 := Lib.hid h1
  have H2 := Lib.hid h2
  have HOR := Lib.hid h3
  have HA0 := Lib.hid (fun W (h : Below (w.heap.size + 1 + 1) ((w.alloc (.cells #[.string u, .int .i64 i, .bool g, .string (text v)] 31)).alloc (.cells #[.string u', .int .i64 i', .bool g', .string (text v')] 31)) W) => (heap_below hp (by simpa using h)))
  have HC0 := Lib.hid (fun W (h : Below (w.heap.size + 1 + 1) ((w.alloc (.cells #[.string u, .int .i64 i, .bool g, .string (text v)] 31)).alloc (.cells #[.string u', .int .i64 i', .bool g', .string (text v')] 31)) W) => (heap_below hq (by simpa using h)))
  clear hp hq h1 h2 h3 hX1 hX2 hR hu hu'
  go_enter Tryd.func47, Tryd.ntmps47
  go_upto_region 1 with (fail)
  obtain ⟨B, hB⟩ : ∃ q, w.heap.size = q := ⟨_, rfl⟩
  have HW1 : ((w.alloc (.cells #[.string u, .int .i64 i, .bool g, .string (text v)] 31)).alloc (.cells #[.string u', .int .i64 i', .bool g', .string (text v')] 31)).heap.size = B + 1 + 1 := by simp [hB]
  have HBe := Lib.hid hB
  rw [hB] at HA0 HC0 ⊢
  clear hB
  generalize (w.alloc (.cells #[.string u, .int .i64 i, .bool g, .string (text v)] 31)).alloc (.cells #[.string u', .int .i64 i', .bool g', .string (text v')] 31) = W1 at *
  have HA := Lib.hid (fun W (h : Below W1.heap.size W1 W) => by
    obtain ⟨c0, c1, -⟩ := wr_cells' (HA0.out W (by rwa [HW1] at h))
    exact And.intro c0 c1)
  have HC := Lib.hid (fun W (h : Below W1.heap.size W1 W) => by
    obtain ⟨c0, c1, -⟩ := wr_cells' (HC0.out W (by rwa [HW1] at h))
    exact And.intro c0 c1)
  clear HA0 HC0 HW1
  refine wp_region_flow [none, none, none, none, some 12, some 0, some 1, some 2, some 3, some 4, some 5, some 6, some 7, some 8, some 9, some 10, some 11] (fun i => [undef, undef, undef, undef, undef, undef, undef, undef, undef, undef, undef, undef, .int .i64 0].getD i undef) [(fun v _ => v = .pointer (some ⟨B, 0, none⟩)), (fun v _ => v = .string u), (fun v _ => v = .pointer (some ⟨B + 1, 0, none⟩)), (fun v _ => v = .string u'), (fun v _ => v = .int .i64 X1), (fun v _ => v = .pointer (some ⟨B, 1, none⟩)), (fun v _ => v = .int .i64 i), (fun v _ => v = .pointer (some ⟨B + 1, 1, none⟩)), (fun v _ => v = .int .i64 i'), (fun v _ => v = .int .i64 X2), (Ints2 X1 X2), (fun v _ => v = .int .i64 R), (fun v _ => v = .int .i64 R)] (by kernel_rfl) (by kernel_rfl) rfl rfl rfl ?_ ?_ ?_
  · intro g hg v X Y hX hY hv
    simp only [List.mem_cons, List.not_mem_nil, or_false] at hg
    rcases hg with rfl | rfl | rfl | rfl | rfl | rfl | rfl | rfl | rfl | rfl | rfl | rfl | rfl
    all_goals first
      | exact hv
      | exact hv.kept hY
  · simp only [flowOps, and_true]
    refine ⟨?_, ?_, ?_, ?_, ?_, ?_, ?_, ?_, ?_, ?_, ?_, ?_, ?_⟩
    · intro xs W hW hn
      simp only [flowAct, List.zipWith_cons_cons, List.zipWith_nil_left]
      go_wp2_with (fail)
      exact ⟨rfl, _, rfl, Below.refl _ _, rfl⟩
    · intro xs W hW hn
      have hc := HA.out W hW
      obtain ⟨c0, c1⟩ := hc
      simp [flowNeeds, Region.binds] at hn
      simp only [flowAct, List.zipWith_cons_cons, List.zipWith_nil_left]
      try simp only [hn]
      go_wp2_with (fail)
      exact ⟨rfl, _, rfl, Below.refl _ _, rfl⟩
    · intro xs W hW hn
      simp only [flowAct, List.zipWith_cons_cons, List.zipWith_nil_left]
      go_wp2_with (fail)
      exact ⟨rfl, _, rfl, Below.refl _ _, rfl⟩
    · intro xs W hW hn
      have hc := HC.out W hW
      obtain ⟨c0, c1⟩ := hc
      simp [flowNeeds, Region.binds] at hn
      simp only [flowAct, List.zipWith_cons_cons, List.zipWith_nil_left]
      try simp only [hn]
      go_wp2_with (fail)
      exact ⟨rfl, _, rfl, Below.refl _ _, rfl⟩
    · intro xs W hW hn
      simp [flowNeeds, Region.binds] at hn
      simp only [flowAct, List.zipWith_cons_cons, List.zipWith_nil_left]
      try simp only [hn]
      go_wp2_with (go_at_call 75; (with_reducible refine (H1.out _).mono ?_); rintro e9 w9 ⟨rfl, rfl⟩)
      exact ⟨rfl, _, rfl, Below.refl _ _, rfl⟩
    · intro xs W hW hn
      simp only [flowAct, List.zipWith_cons_cons, List.zipWith_nil_left]
      go_wp2_with (fail)
      exact ⟨rfl, _, rfl, Below.refl _ _, rfl⟩
    · intro xs W hW hn
      have hc := HA.out W hW
      obtain ⟨c0, c1⟩ := hc
      simp [flowNeeds, Region.binds] at hn
      simp only [flowAct, List.zipWith_cons_cons, List.zipWith_nil_left]
      try simp only [hn]
      go_wp2_with (fail)
      exact ⟨rfl, _, rfl, Below.refl _ _, rfl⟩
    · intro xs W hW hn
      simp only [flowAct, List.zipWith_cons_cons, List.zipWith_nil_left]
      go_wp2_with (fail)
      exact ⟨rfl, _, rfl, Below.refl _ _, rfl⟩
    · intro xs W hW hn
      have hc := HC.out W hW
      obtain ⟨c0, c1⟩ := hc
      simp [flowNeeds, Region.binds] at hn
      simp only [flowAct, List.zipWith_cons_cons, List.zipWith_nil_left]
      try simp only [hn]
      go_wp2_with (fail)
      exact ⟨rfl, _, rfl, Below.refl _ _, rfl⟩
    · intro xs W hW hn
      simp [flowNeeds, Region.binds] at hn
      simp only [flowAct, List.zipWith_cons_cons, List.zipWith_nil_left]
      try simp only [hn]
      go_wp2_with (go_at_call 76; (with_reducible refine (H2.out _).mono ?_); rintro e9 w9 ⟨rfl, rfl⟩)
      exact ⟨rfl, _, rfl, Below.refl _ _, rfl⟩
    · intro xs W hW hn
      simp [flowNeeds, Region.binds] at hn
      simp only [flowAct, List.zipWith_cons_cons, List.zipWith_nil_left]
      try simp only [hn]
      go_wp2_with (fail)
      exact ⟨rfl, _, rfl, alloc_below _ _, ⟨_, _, rfl, heap_alloc_new _ _⟩⟩
    · intro xs W hW hn
      simp [flowNeeds, Region.binds] at hn
      obtain ⟨hv9, h9⟩ := hn
      simp only [flowAct, List.zipWith_cons_cons, List.zipWith_nil_left]
      try simp only [h9]
      go_wp2_with (go_at_call 74; (with_reducible refine (HOR.out _ _ hv9).mono ?_); rintro e9 w9 ⟨rfl, rfl⟩)
      exact ⟨rfl, _, rfl, Below.refl _ _, rfl⟩
    · intro xs W hW hn
      simp [flowNeeds, Region.binds] at hn
      simp only [flowAct, List.zipWith_cons_cons, List.zipWith_nil_left]
      try simp only [hn]
      go_wp2_with (fail)
      exact ⟨rfl, _, rfl, Below.refl _ _, rfl⟩
  · intro xs W hW hall
    simp only [flowAll, and_true, Nat.zero_add, Nat.reduceAdd] at hall
    obtain ⟨-, -, -, -, -, -, -, -, -, -, -, -, e12⟩ := hall
    simp only [flowAct, List.zipWith_cons_cons, List.zipWith_nil_left]
    simp only [e12]
    go_wp2
    go_ret
    exact ⟨by rw [HR.out]; rfl, HB.out.trans (hW.mono HB.out.size)⟩
theorem keyS_dec (k : List UInt8) : decide (keyS k = 0) = (!(k == []) && decide (k.length ≤ 32)) := by
  unfold keyS
  by_cases h : k = []
  · subst h; rfl
  · have hb : (k == []) = false := by simpa using h
    rw [if_neg h, hb]
    by_cases h2 : 32 < k.length
    · rw [if_pos h2]; simp; omega
    · rw [if_neg h2]; simp; omega
set_option maxHeartbeats 3200000 in
theorem cgoodwrite_c (n1 : Nat) (k : List UInt8) (i : Int) (g : Bool) (v : List UInt8) (hk : k.length ≤ 9223372036854775807) (hvl : v.length ≤ 9223372036854775807) (w : World) :
    Calls Tryd.prog 66 #[.int .i64 (n1 : Int), .agg #[.string (text k), .int .i64 i, .bool g, .string (text v)]] w (Tells (.bool (mayS n1 ⟨k, i, g, v⟩)) w) := by
  have hp := heap_alloc_new w (.cells #[.string (text k), .int .i64 i, .bool g, .string (text v)] 31)
  have HB := Lib.hid (alloc_below w (.cells #[.string (text k), .int .i64 i, .bool g, .string (text v)] 31))
  have HV0 := Lib.hid (show mayS n1 ⟨k, i, g, v⟩ = (decide (keyS k = 0) && (decide (0 ≤ i) && (decide (i < (n1 : Int)) && (decide (v.length ≤ 64) && (!g || v == []))))) from rfl)
  rw [keyS_dec] at HV0
  obtain ⟨r, hr⟩ : ∃ r, mayS n1 ⟨k, i, g, v⟩ = r := ⟨_, rfl⟩
  rw [hr] at HV0 ⊢
  have htn := text_nilb v
  have htk := text_nilb k
  have hsz : ((text v).size : Int) = (v.length : Int) := by rw [text_size]
  have hsk : ((text k).size : Int) = (k.length : Int) := by rw [text_size]
  have HVB := Lib.hid (show (v == []) = true → v.length = 0 from fun h => by
    have : v = [] := by simpa using h
    rw [this]
    rfl)
  obtain ⟨p0, p1, p2, p3⟩ := wr_cells hp
  obtain ⟨vb, hvb⟩ : ∃ z, (v == []) = z := ⟨_, rfl⟩
  obtain ⟨vl, hvl2⟩ : ∃ z, v.length = z := ⟨_, rfl⟩
  obtain ⟨kb, hkb⟩ : ∃ z, (k == []) = z := ⟨_, rfl⟩
  obtain ⟨kl, hkl2⟩ : ∃ z, k.length = z := ⟨_, rfl⟩
  obtain ⟨tv, htv⟩ : ∃ z, text v = z := ⟨_, rfl⟩
  obtain ⟨tx, htx⟩ : ∃ z, text k = z := ⟨_, rfl⟩
  rw [hvb, hvl2, hkb, hkl2] at HV0
  rw [hvb, hvl2] at HVB
  rw [hvb] at htn
  rw [hkb] at htk
  rw [hvl2] at hsz
  rw [hkl2] at hsk
  simp only [htv, htx] at htn htk hsz hsk p0 p1 p2 p3 HB ⊢
  clear hp hr hvb hvl2 htv htx hk hvl hkb hkl2
  by_cases h0 : kb = true
  · subst h0
    have HV := Lib.hid (show r = false by rw [HV0.out]; simp)
    clear HV0
    go_enter Tryd.func66, Tryd.ntmps66
    go_wp2
    go_ret
    exact ⟨by rw [HV.out]; rfl, HB.out⟩
  · have h0 : kb = false := by simpa using h0
    subst h0
    by_cases h1 : kl ≤ 32
    · have h1i : ¬ (32 : Int) < (kl : Int) := by omega
      by_cases h2 : i < 0
      · have HV := Lib.hid (show r = false by rw [HV0.out]; simp; omega)
        clear HV0
        go_enter Tryd.func66, Tryd.ntmps66
        go_wp2
        go_ret
        exact ⟨by rw [HV.out]; rfl, HB.out⟩
      · by_cases h3 : (n1 : Int) ≤ i
        · have HV := Lib.hid (show r = false by rw [HV0.out]; simp; omega)
          clear HV0
          go_enter Tryd.func66, Tryd.ntmps66
          go_wp2
          go_ret
          exact ⟨by rw [HV.out]; rfl, HB.out⟩
        · have h2' : 0 ≤ i := by omega
          have h3' : i < (n1 : Int) := by omega
          cases g with
          | true =>
            cases vb with
            | true =>
              have hv0 := HVB.out rfl
              have HV := Lib.hid (show r = true by rw [HV0.out]; simp [h1, h2', h3', hv0])
              clear HV0 h2' h3' hv0
              go_enter Tryd.func66, Tryd.ntmps66
              go_wp2
              go_ret
              exact ⟨by rw [HV.out]; rfl, HB.out⟩
            | false =>
              have HV := Lib.hid (show r = false by rw [HV0.out]; simp)
              clear HV0 h2' h3'
              go_enter Tryd.func66, Tryd.ntmps66
              go_wp2
              go_ret
              exact ⟨by rw [HV.out]; rfl, HB.out⟩
          | false =>
            by_cases h4 : vl ≤ 64
            · have h4i : (vl : Int) ≤ 64 := by omega
              have HV := Lib.hid (show r = true by rw [HV0.out]; simp [h1, h2', h3', h4])
              clear HV0 h2' h3'
              go_enter Tryd.func66, Tryd.ntmps66
              go_wp2
              go_ret
              exact ⟨by rw [HV.out]; rfl, HB.out⟩
            · have h4i : ¬ (vl : Int) ≤ 64 := by omega
              have HV := Lib.hid (show r = false by rw [HV0.out]; simp [h4])
              clear HV0 h2' h3'
              go_enter Tryd.func66, Tryd.ntmps66
              go_wp2
              go_ret
              exact ⟨by rw [HV.out]; rfl, HB.out⟩
    · have h1i : (32 : Int) < (kl : Int) := by omega
      have HV := Lib.hid (show r = false by rw [HV0.out]; simp [h1])
      clear HV0
      go_enter Tryd.func66, Tryd.ntmps66
      go_wp2
      go_ret
      exact ⟨by rw [HV.out]; rfl, HB.out⟩
end Go.Proofs.YtfkmfccdhmnllaaDoor
end

section
namespace Go.Proofs.YtfkmfccdhmnllaaDoor
open Go.RowKit Go Go.Sort
set_option linter.unusedVariables false
set_option maxRecDepth 20000

def goodHeadS (site seq n s a b : Int) : Bool := (site == 1 || site == 2) && (sgood n s && (s == site)) && (vgood a b && (decide (1 ≤ seq) && (seq == (if site = 1 then a else b))))
def gwsS (n1 : Nat) (l : List Wr) : Bool := decide (1 ≤ l.length) && (decide (l.length ≤ 8) && (List.range l.length).all (wAt n1 l))
theorem vgood_max {a b : Int} (h : vgood a b = true) : a ≤ 1099511627776 ∧ b ≤ 1099511627776 := by
  simp [vgood] at h
  omega
theorem head_eq (site seq n s a b : Int) (m : Nat) : headBad site seq n s a b m = !(goodHeadS site seq n s a b && (decide (1 ≤ m) && decide (m ≤ 8))) := by
  unfold headBad goodHeadS
  by_cases h1 : site = 1
  · subst h1
    by_cases h9 : s = 1
    · subst h9
      cases hv : vgood a b with
      | true =>
        have := vgood_max hv
        cases sgood n 1 <;> rw [Bool.eq_iff_iff] <;> simp <;> omega
      | false => simp
    · have : (s == 1) = false := by simpa using h9
      simp [this, h9]
  · by_cases h2 : site = 2
    · subst h2
      by_cases h9 : s = 2
      · subst h9
        cases hv : vgood a b with
        | true =>
          have := vgood_max hv
          cases sgood n 2 <;> rw [Bool.eq_iff_iff] <;> simp <;> omega
        | false => simp
      · have : (s == 2) = false := by simpa using h9
        simp [this, h9]
    · have e1 : (site == 1) = false := by simpa using h1
      have e2 : (site == 2) = false := by simpa using h2
      simp [bne, e1, e2]
theorem gws_no {n1 : Nat} {l : List Wr} {k : Nat} (hk : k < l.length) (h : wAt n1 l k = false) : gwsS n1 l = false := by
  unfold gwsS
  have : (List.range l.length).all (wAt n1 l) = false := by
    cases hb : (List.range l.length).all (wAt n1 l) with
    | false => rfl
    | true =>
      have := List.all_eq_true.1 hb k (List.mem_range.2 hk)
      rw [h] at this
      cases this
  rw [this]
  simp
theorem gws_yes {n1 : Nat} {l : List Wr} (h1 : 1 ≤ l.length) (h8 : l.length ≤ 8) (h : ∀ k, k < l.length → wAt n1 l k = true) : gwsS n1 l = true := by
  unfold gwsS
  have : (List.range l.length).all (wAt n1 l) = true := List.all_eq_true.2 fun k hk => h k (List.mem_range.1 hk)
  rw [this]
  simp [h1, h8]
theorem chgood_eq (gs : List Grp) (site seq n s a b : Int) (l : List Wr) : chgoodS gs site seq n s a b l = if ¬ pgoodS gs = 0 then pgoodS gs else if (goodHeadS site seq n s a b && gwsS gs.length l) = true then 0 else 120 := by
  unfold chgoodS
  rw [head_eq]
  unfold gwsS
  by_cases h : pgoodS gs = 0
  · rw [if_neg (not_not_intro h), if_neg (not_not_intro h)]
    cases goodHeadS site seq n s a b <;> cases decide (1 ≤ l.length) <;> cases decide (l.length ≤ 8) <;> simp
  · rw [if_pos h, if_pos h]
theorem ch_cells' {W : World} {q : Nat} {site seq n s a b : Int} {x2 : Option Addr} {m cap2 : Nat} (h : W.heap[q]? = some (.cells #[.int .i64 site, .int .i64 seq, .int .i64 n, .int .i64 s, .int .i64 a, .int .i64 b, .slice x2 m cap2] 29 (0, 0))) : W.cell? ⟨q, 0, none⟩ = some (.int .i64 site) ∧ W.cell? ⟨q, 1, none⟩ = some (.int .i64 seq) ∧ W.cell? ⟨q, 2, none⟩ = some (.int .i64 n) ∧ W.cell? ⟨q, 3, none⟩ = some (.int .i64 s) ∧ W.cell? ⟨q, 4, none⟩ = some (.int .i64 a) ∧ W.cell? ⟨q, 5, none⟩ = some (.int .i64 b) := by
  obtain ⟨c0, c1, c2, c3, c4, c5, -⟩ := ch_cells h
  exact ⟨c0, c1, c2, c3, c4, c5⟩
set_option maxHeartbeats 12800000 in
theorem goodhead_c (site seq n s a b : Int) (x2 : Option Addr) (m cap2 : Nat) (w : World) : Calls Tryd.prog 34 #[.agg #[.int .i64 site, .int .i64 seq, .int .i64 n, .int .i64 s, .int .i64 a, .int .i64 b, .slice x2 m cap2]] w (Tells (.bool (goodHeadS site seq n s a b)) w) := by
  have HB0 := Lib.hid (alloc_below w (.cells #[.int .i64 site, .int .i64 seq, .int .i64 n, .int .i64 s, .int .i64 a, .int .i64 b, .slice x2 m cap2] 29))
  have hr := heap_alloc_new w (.cells #[.int .i64 site, .int .i64 seq, .int .i64 n, .int .i64 s, .int .i64 a, .int .i64 b, .slice x2 m cap2] 29)
  have HC0 := Lib.hid (fun W (h : Below (w.alloc (.cells #[.int .i64 site, .int .i64 seq, .int .i64 n, .int .i64 s, .int .i64 a, .int .i64 b, .slice x2 m cap2] 29)).heap.size (w.alloc (.cells #[.int .i64 site, .int .i64 seq, .int .i64 n, .int .i64 s, .int .i64 a, .int .i64 b, .slice x2 m cap2] 29)) W) => ch_cells' (heap_below hr h))
  obtain ⟨c0, c1, c2, c3, c4, c5⟩ := ch_cells' hr
  clear hr
  by_cases h1 : site = 1
  · subst h1
    have HRR0 := Lib.hid (show goodHeadS 1 seq n s a b = ((sgood n s && (s == 1)) && (vgood a b && (decide (1 ≤ seq) && (seq == a)))) from by simp [goodHeadS])
    obtain ⟨r, hr⟩ : ∃ r, goodHeadS 1 seq n s a b = r := ⟨_, rfl⟩
    rw [hr] at HRR0 ⊢
    have hsg := fun W => sgood_c n s W
    have hvg := fun W => vgood_c a b W
    obtain ⟨SG, hSG⟩ : ∃ z, sgood n s = z := ⟨_, rfl⟩
    obtain ⟨VG, hVG⟩ : ∃ z, vgood a b = z := ⟨_, rfl⟩
    rw [hSG, hVG] at HRR0
    simp only [hSG] at hsg
    simp only [hVG] at hvg
    have HSG := Lib.hid hsg
    have HVG := Lib.hid hvg
    clear hr hSG hVG hsg hvg
    cases SG with
    | false =>
      have HRR := Lib.hid (show r = false by rw [HRR0.out]; rfl)
      clear HRR0
      go_enter Tryd.func34, Tryd.ntmps34
      go_upto_region 4 with (go_at_call 65; (with_reducible refine (HSG.out _).mono ?_); rintro e9 w2 ⟨rfl, hb2⟩)
      have HB1 := Lib.hid (HB0.out.trans (hb2.mono HB0.out.size))
      have HCW := Lib.hid (fun W (h : Below w2.heap.size w2 W) => HC0.out W (hb2.trans (h.mono hb2.size)))
      clear hb2 HB0 HC0 HSG c0 c1 c2 c3 c4 c5
      obtain ⟨B, hB⟩ : ∃ z, w.heap.size = z := ⟨_, rfl⟩
      simp only [hB] at HCW ⊢
      have HBe := Lib.hid hB
      clear hB
      refine wp_region_flow [none, none, some 22, none, none, none, none, none, none, none, none, none, none, none, none, none, none, none, none, none, none, none, none, some 0, some 1, some 2, some 3, some 4, some 5, some 6, some 7, some 8, some 9, some 10, some 11, some 12, some 13, some 14, some 15, some 16, some 17, some 18, some 19, some 20, some 21] (fun i => [undef, undef, undef, undef, undef, undef, undef, undef, undef, undef, undef, undef, undef, undef, undef, undef, undef, undef, undef, undef, undef, undef, .bool false].getD i undef) [(fun v _ => v = .bool false), (fun v _ => v = .bool false), (fun v _ => v = undef), (fun v _ => v = undef), (fun v _ => v = undef), (fun v _ => v = .bool false), (fun v _ => v = .bool false), (fun v _ => v = undef), (fun v _ => v = undef), (fun v _ => v = undef), (fun v _ => v = .bool false), (fun v _ => v = .bool false), (fun v _ => v = undef), (fun v _ => v = undef), (fun v _ => v = undef), (fun v _ => v = undef), (fun v _ => v = undef), (fun v _ => v = undef), (fun v _ => v = undef), (fun v _ => v = undef), (fun v _ => v = undef), (fun v _ => v = .bool false), (fun v _ => v = .bool false)] (by kernel_rfl) (by kernel_rfl) rfl rfl rfl ?_ ?_ ?_
      · intro g hg v X Y hX hY hv
        simp only [List.mem_cons, List.not_mem_nil, or_false] at hg
        rcases hg with rfl | rfl | rfl | rfl | rfl | rfl | rfl | rfl | rfl | rfl | rfl | rfl | rfl | rfl | rfl | rfl | rfl | rfl | rfl | rfl | rfl | rfl | rfl
        all_goals first
          | exact hv
          | exact hv.kept hY
      · simp only [flowOps, and_true]
        refine ⟨?_, ?_, ?_, ?_, ?_, ?_, ?_, ?_, ?_, ?_, ?_, ?_, ?_, ?_, ?_, ?_, ?_, ?_, ?_, ?_, ?_, ?_, ?_⟩
        · intro xs W hW hn
          simp only [flowAct, List.zipWith_cons_cons, List.zipWith_nil_left]
          go_wp2_with (fail)
          exact ⟨rfl, _, rfl, Below.refl _ _, rfl⟩
        · intro xs W hW hn
          simp [flowNeeds, Region.binds] at hn
          simp only [flowAct, List.zipWith_cons_cons, List.zipWith_nil_left]
          try simp only [hn]
          go_wp2_with (fail)
          exact ⟨rfl, _, rfl, Below.refl _ _, rfl⟩
        · intro xs W hW hn
          simp [flowNeeds, Region.binds] at hn
          simp only [flowAct, List.zipWith_cons_cons, List.zipWith_nil_left]
          try simp only [hn]
          go_wp2_with (fail)
          exact ⟨rfl, _, rfl, Below.refl _ _, rfl⟩
        · intro xs W hW hn
          simp [flowNeeds, Region.binds] at hn
          simp only [flowAct, List.zipWith_cons_cons, List.zipWith_nil_left]
          try simp only [hn]
          go_wp2_with (fail)
          exact ⟨rfl, _, rfl, Below.refl _ _, rfl⟩
        · intro xs W hW hn
          simp [flowNeeds, Region.binds] at hn
          simp only [flowAct, List.zipWith_cons_cons, List.zipWith_nil_left]
          try simp only [hn]
          go_wp2_with (fail)
          exact ⟨rfl, _, rfl, Below.refl _ _, rfl⟩
        · intro xs W hW hn
          simp [flowNeeds, Region.binds] at hn
          simp only [flowAct, List.zipWith_cons_cons, List.zipWith_nil_left]
          try simp only [hn]
          go_wp2_with (fail)
          exact ⟨rfl, _, rfl, Below.refl _ _, rfl⟩
        · intro xs W hW hn
          simp [flowNeeds, Region.binds] at hn
          simp only [flowAct, List.zipWith_cons_cons, List.zipWith_nil_left]
          try simp only [hn]
          go_wp2_with (fail)
          exact ⟨rfl, _, rfl, Below.refl _ _, rfl⟩
        · intro xs W hW hn
          simp [flowNeeds, Region.binds] at hn
          simp only [flowAct, List.zipWith_cons_cons, List.zipWith_nil_left]
          try simp only [hn]
          go_wp2_with (fail)
          exact ⟨rfl, _, rfl, Below.refl _ _, rfl⟩
        · intro xs W hW hn
          simp [flowNeeds, Region.binds] at hn
          simp only [flowAct, List.zipWith_cons_cons, List.zipWith_nil_left]
          try simp only [hn]
          go_wp2_with (fail)
          exact ⟨rfl, _, rfl, Below.refl _ _, rfl⟩
        · intro xs W hW hn
          simp [flowNeeds, Region.binds] at hn
          simp only [flowAct, List.zipWith_cons_cons, List.zipWith_nil_left]
          try simp only [hn]
          go_wp2_with (fail)
          exact ⟨rfl, _, rfl, Below.refl _ _, rfl⟩
        · intro xs W hW hn
          simp [flowNeeds, Region.binds] at hn
          simp only [flowAct, List.zipWith_cons_cons, List.zipWith_nil_left]
          try simp only [hn]
          go_wp2_with (fail)
          exact ⟨rfl, _, rfl, Below.refl _ _, rfl⟩
        · intro xs W hW hn
          simp [flowNeeds, Region.binds] at hn
          simp only [flowAct, List.zipWith_cons_cons, List.zipWith_nil_left]
          try simp only [hn]
          go_wp2_with (fail)
          exact ⟨rfl, _, rfl, Below.refl _ _, rfl⟩
        · intro xs W hW hn
          simp [flowNeeds, Region.binds] at hn
          simp only [flowAct, List.zipWith_cons_cons, List.zipWith_nil_left]
          try simp only [hn]
          go_wp2_with (fail)
          exact ⟨rfl, _, rfl, Below.refl _ _, rfl⟩
        · intro xs W hW hn
          simp [flowNeeds, Region.binds] at hn
          simp only [flowAct, List.zipWith_cons_cons, List.zipWith_nil_left]
          try simp only [hn]
          go_wp2_with (fail)
          exact ⟨rfl, _, rfl, Below.refl _ _, rfl⟩
        · intro xs W hW hn
          simp [flowNeeds, Region.binds] at hn
          simp only [flowAct, List.zipWith_cons_cons, List.zipWith_nil_left]
          try simp only [hn]
          go_wp2_with (fail)
          exact ⟨rfl, _, rfl, Below.refl _ _, rfl⟩
        · intro xs W hW hn
          simp [flowNeeds, Region.binds] at hn
          simp only [flowAct, List.zipWith_cons_cons, List.zipWith_nil_left]
          try simp only [hn]
          go_wp2_with (fail)
          exact ⟨rfl, _, rfl, Below.refl _ _, rfl⟩
        · intro xs W hW hn
          simp [flowNeeds, Region.binds] at hn
          simp only [flowAct, List.zipWith_cons_cons, List.zipWith_nil_left]
          try simp only [hn]
          go_wp2_with (fail)
          exact ⟨rfl, _, rfl, Below.refl _ _, rfl⟩
        · intro xs W hW hn
          simp [flowNeeds, Region.binds] at hn
          simp only [flowAct, List.zipWith_cons_cons, List.zipWith_nil_left]
          try simp only [hn]
          go_wp2_with (fail)
          exact ⟨rfl, _, rfl, Below.refl _ _, rfl⟩
        · intro xs W hW hn
          simp [flowNeeds, Region.binds] at hn
          simp only [flowAct, List.zipWith_cons_cons, List.zipWith_nil_left]
          try simp only [hn]
          go_wp2_with (fail)
          exact ⟨rfl, _, rfl, Below.refl _ _, rfl⟩
        · intro xs W hW hn
          simp [flowNeeds, Region.binds] at hn
          simp only [flowAct, List.zipWith_cons_cons, List.zipWith_nil_left]
          try simp only [hn]
          go_wp2_with (fail)
          exact ⟨rfl, _, rfl, Below.refl _ _, rfl⟩
        · intro xs W hW hn
          simp [flowNeeds, Region.binds] at hn
          simp only [flowAct, List.zipWith_cons_cons, List.zipWith_nil_left]
          try simp only [hn]
          go_wp2_with (fail)
          exact ⟨rfl, _, rfl, Below.refl _ _, rfl⟩
        · intro xs W hW hn
          simp [flowNeeds, Region.binds] at hn
          simp only [flowAct, List.zipWith_cons_cons, List.zipWith_nil_left]
          try simp only [hn]
          go_wp2_with (fail)
          exact ⟨rfl, _, rfl, Below.refl _ _, rfl⟩
        · intro xs W hW hn
          simp [flowNeeds, Region.binds] at hn
          simp only [flowAct, List.zipWith_cons_cons, List.zipWith_nil_left]
          try simp only [hn]
          go_wp2_with (fail)
          exact ⟨rfl, _, rfl, Below.refl _ _, rfl⟩
      · intro xs W hW hall
        simp only [flowAll, and_true, Nat.zero_add, Nat.reduceAdd] at hall
        obtain ⟨-, -, -, -, -, -, -, -, -, -, -, -, -, -, -, -, -, -, -, -, -, -, e22⟩ := hall
        simp only [flowAct, List.zipWith_cons_cons, List.zipWith_nil_left]
        simp only [e22]
        go_wp2
        go_ret
        exact ⟨by rw [HRR.out]; rfl, HB1.out.trans (hW.mono HB1.out.size)⟩
    | true =>
      by_cases hss : s = 1
      · have hsb : (s == 1) = true := by simpa using hss
        subst hss
        rw [hsb] at HRR0
        clear hsb
        go_enter Tryd.func34, Tryd.ntmps34
        go_upto_region 4 with (go_at_call 65; (with_reducible refine (HSG.out _).mono ?_); rintro e9 w2 ⟨rfl, hb2⟩; obtain ⟨c0, c1, c2, c3, c4, c5⟩ := HC0.out w2 hb2)
        have HB1 := Lib.hid (HB0.out.trans (hb2.mono HB0.out.size))
        have HCW := Lib.hid (fun W (h : Below w2.heap.size w2 W) => HC0.out W (hb2.trans (h.mono hb2.size)))
        clear hb2 HB0 HC0 HSG c0 c1 c2 c3 c4 c5
        obtain ⟨B, hB⟩ : ∃ z, w.heap.size = z := ⟨_, rfl⟩
        simp only [hB] at HCW ⊢
        have HBe := Lib.hid hB
        clear hB
        cases VG with
        | false =>
          have HRR := Lib.hid (show r = false by rw [HRR0.out]; rfl)
          clear HRR0
          refine wp_region_flow [none, none, some 22, none, none, none, none, none, none, none, none, none, none, none, none, none, none, none, none, none, none, none, none, some 0, some 1, some 2, some 3, some 4, some 5, some 6, some 7, some 8, some 9, some 10, some 11, some 12, some 13, some 14, some 15, some 16, some 17, some 18, some 19, some 20, some 21] (fun i => [undef, undef, undef, undef, undef, undef, undef, undef, undef, undef, undef, undef, undef, undef, undef, undef, undef, undef, undef, undef, undef, undef, .bool false].getD i undef) [(fun v _ => v = .bool true), (fun v _ => v = .bool true), (fun v _ => v = .pointer (some ⟨B, 4, none⟩)), (fun v _ => v = .agg #[.int .i64 a, .int .i64 b]), (fun v _ => v = .bool false), (fun v _ => v = .bool false), (fun v _ => v = .bool false), (fun v _ => v = undef), (fun v _ => v = undef), (fun v _ => v = undef), (fun v _ => v = .bool false), (fun v _ => v = .bool false), (fun v _ => v = undef), (fun v _ => v = undef), (fun v _ => v = undef), (fun v _ => v = undef), (fun v _ => v = undef), (fun v _ => v = undef), (fun v _ => v = undef), (fun v _ => v = undef), (fun v _ => v = undef), (fun v _ => v = .bool false), (fun v _ => v = .bool false)] (by kernel_rfl) (by kernel_rfl) rfl rfl rfl ?_ ?_ ?_
          · intro g hg v X Y hX hY hv
            simp only [List.mem_cons, List.not_mem_nil, or_false] at hg
            rcases hg with rfl | rfl | rfl | rfl | rfl | rfl | rfl | rfl | rfl | rfl | rfl | rfl | rfl | rfl | rfl | rfl | rfl | rfl | rfl | rfl | rfl | rfl | rfl
            all_goals first
              | exact hv
              | exact hv.kept hY
          · simp only [flowOps, and_true]
            refine ⟨?_, ?_, ?_, ?_, ?_, ?_, ?_, ?_, ?_, ?_, ?_, ?_, ?_, ?_, ?_, ?_, ?_, ?_, ?_, ?_, ?_, ?_, ?_⟩
            · intro xs W hW hn
              simp only [flowAct, List.zipWith_cons_cons, List.zipWith_nil_left]
              go_wp2_with (fail)
              exact ⟨rfl, _, rfl, Below.refl _ _, rfl⟩
            · intro xs W hW hn
              simp [flowNeeds, Region.binds] at hn
              simp only [flowAct, List.zipWith_cons_cons, List.zipWith_nil_left]
              try simp only [hn]
              go_wp2_with (fail)
              exact ⟨rfl, _, rfl, Below.refl _ _, rfl⟩
            · intro xs W hW hn
              simp [flowNeeds, Region.binds] at hn
              simp only [flowAct, List.zipWith_cons_cons, List.zipWith_nil_left]
              try simp only [hn]
              go_wp2_with (fail)
              exact ⟨rfl, _, rfl, Below.refl _ _, rfl⟩
            · intro xs W hW hn
              obtain ⟨c0, c1, c2, c3, c4, c5⟩ := HCW.out W hW
              simp [flowNeeds, Region.binds] at hn
              simp only [flowAct, List.zipWith_cons_cons, List.zipWith_nil_left]
              try simp only [hn]
              go_wp2_with (fail)
              exact ⟨rfl, _, rfl, Below.refl _ _, rfl⟩
            · intro xs W hW hn
              simp [flowNeeds, Region.binds] at hn
              simp only [flowAct, List.zipWith_cons_cons, List.zipWith_nil_left]
              try simp only [hn]
              go_wp2_with (go_at_call 62; (with_reducible refine (HVG.out _).mono ?_); rintro e9 w9 ⟨rfl, hb9⟩)
              exact ⟨rfl, _, rfl, hb9, rfl⟩
            · intro xs W hW hn
              simp [flowNeeds, Region.binds] at hn
              simp only [flowAct, List.zipWith_cons_cons, List.zipWith_nil_left]
              try simp only [hn]
              go_wp2_with (fail)
              exact ⟨rfl, _, rfl, Below.refl _ _, rfl⟩
            · intro xs W hW hn
              simp [flowNeeds, Region.binds] at hn
              simp only [flowAct, List.zipWith_cons_cons, List.zipWith_nil_left]
              try simp only [hn]
              go_wp2_with (fail)
              exact ⟨rfl, _, rfl, Below.refl _ _, rfl⟩
            · intro xs W hW hn
              simp [flowNeeds, Region.binds] at hn
              simp only [flowAct, List.zipWith_cons_cons, List.zipWith_nil_left]
              try simp only [hn]
              go_wp2_with (fail)
              exact ⟨rfl, _, rfl, Below.refl _ _, rfl⟩
            · intro xs W hW hn
              simp [flowNeeds, Region.binds] at hn
              simp only [flowAct, List.zipWith_cons_cons, List.zipWith_nil_left]
              try simp only [hn]
              go_wp2_with (fail)
              exact ⟨rfl, _, rfl, Below.refl _ _, rfl⟩
            · intro xs W hW hn
              simp [flowNeeds, Region.binds] at hn
              simp only [flowAct, List.zipWith_cons_cons, List.zipWith_nil_left]
              try simp only [hn]
              go_wp2_with (fail)
              exact ⟨rfl, _, rfl, Below.refl _ _, rfl⟩
            · intro xs W hW hn
              simp [flowNeeds, Region.binds] at hn
              simp only [flowAct, List.zipWith_cons_cons, List.zipWith_nil_left]
              try simp only [hn]
              go_wp2_with (fail)
              exact ⟨rfl, _, rfl, Below.refl _ _, rfl⟩
            · intro xs W hW hn
              simp [flowNeeds, Region.binds] at hn
              simp only [flowAct, List.zipWith_cons_cons, List.zipWith_nil_left]
              try simp only [hn]
              go_wp2_with (fail)
              exact ⟨rfl, _, rfl, Below.refl _ _, rfl⟩
            · intro xs W hW hn
              simp [flowNeeds, Region.binds] at hn
              simp only [flowAct, List.zipWith_cons_cons, List.zipWith_nil_left]
              try simp only [hn]
              go_wp2_with (fail)
              exact ⟨rfl, _, rfl, Below.refl _ _, rfl⟩
            · intro xs W hW hn
              simp [flowNeeds, Region.binds] at hn
              simp only [flowAct, List.zipWith_cons_cons, List.zipWith_nil_left]
              try simp only [hn]
              go_wp2_with (fail)
              exact ⟨rfl, _, rfl, Below.refl _ _, rfl⟩
            · intro xs W hW hn
              simp [flowNeeds, Region.binds] at hn
              simp only [flowAct, List.zipWith_cons_cons, List.zipWith_nil_left]
              try simp only [hn]
              go_wp2_with (fail)
              exact ⟨rfl, _, rfl, Below.refl _ _, rfl⟩
            · intro xs W hW hn
              simp [flowNeeds, Region.binds] at hn
              simp only [flowAct, List.zipWith_cons_cons, List.zipWith_nil_left]
              try simp only [hn]
              go_wp2_with (fail)
              exact ⟨rfl, _, rfl, Below.refl _ _, rfl⟩
            · intro xs W hW hn
              simp [flowNeeds, Region.binds] at hn
              simp only [flowAct, List.zipWith_cons_cons, List.zipWith_nil_left]
              try simp only [hn]
              go_wp2_with (fail)
              exact ⟨rfl, _, rfl, Below.refl _ _, rfl⟩
            · intro xs W hW hn
              simp [flowNeeds, Region.binds] at hn
              simp only [flowAct, List.zipWith_cons_cons, List.zipWith_nil_left]
              try simp only [hn]
              go_wp2_with (fail)
              exact ⟨rfl, _, rfl, Below.refl _ _, rfl⟩
            · intro xs W hW hn
              simp [flowNeeds, Region.binds] at hn
              simp only [flowAct, List.zipWith_cons_cons, List.zipWith_nil_left]
              try simp only [hn]
              go_wp2_with (fail)
              exact ⟨rfl, _, rfl, Below.refl _ _, rfl⟩
            · intro xs W hW hn
              simp [flowNeeds, Region.binds] at hn
              simp only [flowAct, List.zipWith_cons_cons, List.zipWith_nil_left]
              try simp only [hn]
              go_wp2_with (fail)
              exact ⟨rfl, _, rfl, Below.refl _ _, rfl⟩
            · intro xs W hW hn
              simp [flowNeeds, Region.binds] at hn
              simp only [flowAct, List.zipWith_cons_cons, List.zipWith_nil_left]
              try simp only [hn]
              go_wp2_with (fail)
              exact ⟨rfl, _, rfl, Below.refl _ _, rfl⟩
            · intro xs W hW hn
              simp [flowNeeds, Region.binds] at hn
              simp only [flowAct, List.zipWith_cons_cons, List.zipWith_nil_left]
              try simp only [hn]
              go_wp2_with (fail)
              exact ⟨rfl, _, rfl, Below.refl _ _, rfl⟩
            · intro xs W hW hn
              simp [flowNeeds, Region.binds] at hn
              simp only [flowAct, List.zipWith_cons_cons, List.zipWith_nil_left]
              try simp only [hn]
              go_wp2_with (fail)
              exact ⟨rfl, _, rfl, Below.refl _ _, rfl⟩
          · intro xs W hW hall
            simp only [flowAll, and_true, Nat.zero_add, Nat.reduceAdd] at hall
            obtain ⟨-, -, -, -, -, -, -, -, -, -, -, -, -, -, -, -, -, -, -, -, -, -, e22⟩ := hall
            simp only [flowAct, List.zipWith_cons_cons, List.zipWith_nil_left]
            simp only [e22]
            go_wp2
            go_ret
            exact ⟨by rw [HRR.out]; rfl, HB1.out.trans (hW.mono HB1.out.size)⟩
        | true =>
          by_cases hq : 1 ≤ seq
          · have HRR := Lib.hid (show r = (seq == a) by rw [HRR0.out]; simp [hq])
            clear HRR0
            refine wp_region_flow [none, none, some 22, none, none, none, none, none, none, none, none, none, none, none, none, none, none, none, none, none, none, none, none, some 0, some 1, some 2, some 3, some 4, some 5, some 6, some 7, some 8, some 9, some 10, some 11, some 12, some 13, some 14, some 15, some 16, some 17, some 18, some 19, some 20, some 21] (fun i => [undef, undef, undef, undef, undef, undef, undef, undef, undef, undef, undef, undef, undef, undef, undef, undef, undef, undef, undef, undef, undef, undef, .bool false].getD i undef) [(fun v _ => v = .bool true), (fun v _ => v = .bool true), (fun v _ => v = .pointer (some ⟨B, 4, none⟩)), (fun v _ => v = .agg #[.int .i64 a, .int .i64 b]), (fun v _ => v = .bool true), (fun v _ => v = .bool true), (fun v _ => v = .bool true), (fun v _ => v = .pointer (some ⟨B, 1, none⟩)), (fun v _ => v = .int .i64 seq), (fun v _ => v = .bool true), (fun v _ => v = .bool true), (fun v _ => v = .bool true), (fun v _ => v = .pointer (some ⟨B, 1, none⟩)), (fun v _ => v = .int .i64 seq), (fun v _ => v = .pointer (some ⟨B, 0, none⟩)), (fun v _ => v = .int .i64 1), (fun v _ => v = .int .i64 0), (fun v _ => v = .pointer (some ⟨B, 4, none⟩)), (fun v _ => v = .pointer (some ⟨B, 4, none⟩)), (fun v _ => v = .int .i64 a), (fun v _ => v = .bool (seq == a)), (fun v _ => v = .bool (seq == a)), (fun v _ => v = .bool (seq == a))] (by kernel_rfl) (by kernel_rfl) rfl rfl rfl ?_ ?_ ?_
            · intro g hg v X Y hX hY hv
              simp only [List.mem_cons, List.not_mem_nil, or_false] at hg
              rcases hg with rfl | rfl | rfl | rfl | rfl | rfl | rfl | rfl | rfl | rfl | rfl | rfl | rfl | rfl | rfl | rfl | rfl | rfl | rfl | rfl | rfl | rfl | rfl
              all_goals first
                | exact hv
                | exact hv.kept hY
            · simp only [flowOps, and_true]
              refine ⟨?_, ?_, ?_, ?_, ?_, ?_, ?_, ?_, ?_, ?_, ?_, ?_, ?_, ?_, ?_, ?_, ?_, ?_, ?_, ?_, ?_, ?_, ?_⟩
              · intro xs W hW hn
                simp only [flowAct, List.zipWith_cons_cons, List.zipWith_nil_left]
                go_wp2_with (fail)
                exact ⟨rfl, _, rfl, Below.refl _ _, rfl⟩
              · intro xs W hW hn
                simp [flowNeeds, Region.binds] at hn
                simp only [flowAct, List.zipWith_cons_cons, List.zipWith_nil_left]
                try simp only [hn]
                go_wp2_with (fail)
                exact ⟨rfl, _, rfl, Below.refl _ _, rfl⟩
              · intro xs W hW hn
                simp [flowNeeds, Region.binds] at hn
                simp only [flowAct, List.zipWith_cons_cons, List.zipWith_nil_left]
                try simp only [hn]
                go_wp2_with (fail)
                exact ⟨rfl, _, rfl, Below.refl _ _, rfl⟩
              · intro xs W hW hn
                obtain ⟨c0, c1, c2, c3, c4, c5⟩ := HCW.out W hW
                simp [flowNeeds, Region.binds] at hn
                simp only [flowAct, List.zipWith_cons_cons, List.zipWith_nil_left]
                try simp only [hn]
                go_wp2_with (fail)
                exact ⟨rfl, _, rfl, Below.refl _ _, rfl⟩
              · intro xs W hW hn
                simp [flowNeeds, Region.binds] at hn
                simp only [flowAct, List.zipWith_cons_cons, List.zipWith_nil_left]
                try simp only [hn]
                go_wp2_with (go_at_call 62; (with_reducible refine (HVG.out _).mono ?_); rintro e9 w9 ⟨rfl, hb9⟩)
                exact ⟨rfl, _, rfl, hb9, rfl⟩
              · intro xs W hW hn
                simp [flowNeeds, Region.binds] at hn
                simp only [flowAct, List.zipWith_cons_cons, List.zipWith_nil_left]
                try simp only [hn]
                go_wp2_with (fail)
                exact ⟨rfl, _, rfl, Below.refl _ _, rfl⟩
              · intro xs W hW hn
                simp [flowNeeds, Region.binds] at hn
                simp only [flowAct, List.zipWith_cons_cons, List.zipWith_nil_left]
                try simp only [hn]
                go_wp2_with (fail)
                exact ⟨rfl, _, rfl, Below.refl _ _, rfl⟩
              · intro xs W hW hn
                simp [flowNeeds, Region.binds] at hn
                simp only [flowAct, List.zipWith_cons_cons, List.zipWith_nil_left]
                try simp only [hn]
                go_wp2_with (fail)
                exact ⟨rfl, _, rfl, Below.refl _ _, rfl⟩
              · intro xs W hW hn
                obtain ⟨c0, c1, c2, c3, c4, c5⟩ := HCW.out W hW
                simp [flowNeeds, Region.binds] at hn
                simp only [flowAct, List.zipWith_cons_cons, List.zipWith_nil_left]
                try simp only [hn]
                go_wp2_with (fail)
                exact ⟨rfl, _, rfl, Below.refl _ _, rfl⟩
              · intro xs W hW hn
                simp [flowNeeds, Region.binds] at hn
                simp only [flowAct, List.zipWith_cons_cons, List.zipWith_nil_left]
                try simp only [hn]
                go_wp2_with (fail)
                exact ⟨rfl, _, rfl, Below.refl _ _, by first | rfl | go_num | (simp; done)⟩
              · intro xs W hW hn
                simp [flowNeeds, Region.binds] at hn
                simp only [flowAct, List.zipWith_cons_cons, List.zipWith_nil_left]
                try simp only [hn]
                go_wp2_with (fail)
                exact ⟨rfl, _, rfl, Below.refl _ _, rfl⟩
              · intro xs W hW hn
                simp [flowNeeds, Region.binds] at hn
                simp only [flowAct, List.zipWith_cons_cons, List.zipWith_nil_left]
                try simp only [hn]
                go_wp2_with (fail)
                exact ⟨rfl, _, rfl, Below.refl _ _, rfl⟩
              · intro xs W hW hn
                simp [flowNeeds, Region.binds] at hn
                simp only [flowAct, List.zipWith_cons_cons, List.zipWith_nil_left]
                try simp only [hn]
                go_wp2_with (fail)
                exact ⟨rfl, _, rfl, Below.refl _ _, rfl⟩
              · intro xs W hW hn
                obtain ⟨c0, c1, c2, c3, c4, c5⟩ := HCW.out W hW
                simp [flowNeeds, Region.binds] at hn
                simp only [flowAct, List.zipWith_cons_cons, List.zipWith_nil_left]
                try simp only [hn]
                go_wp2_with (fail)
                exact ⟨rfl, _, rfl, Below.refl _ _, rfl⟩
              · intro xs W hW hn
                simp [flowNeeds, Region.binds] at hn
                simp only [flowAct, List.zipWith_cons_cons, List.zipWith_nil_left]
                try simp only [hn]
                go_wp2_with (fail)
                exact ⟨rfl, _, rfl, Below.refl _ _, rfl⟩
              · intro xs W hW hn
                obtain ⟨c0, c1, c2, c3, c4, c5⟩ := HCW.out W hW
                simp [flowNeeds, Region.binds] at hn
                simp only [flowAct, List.zipWith_cons_cons, List.zipWith_nil_left]
                try simp only [hn]
                go_wp2_with (fail)
                exact ⟨rfl, _, rfl, Below.refl _ _, rfl⟩
              · intro xs W hW hn
                simp [flowNeeds, Region.binds] at hn
                simp only [flowAct, List.zipWith_cons_cons, List.zipWith_nil_left]
                try simp only [hn]
                go_wp2_with (fail)
                exact ⟨rfl, _, rfl, Below.refl _ _, by first | rfl | go_num | (simp; done)⟩
              · intro xs W hW hn
                simp [flowNeeds, Region.binds] at hn
                simp only [flowAct, List.zipWith_cons_cons, List.zipWith_nil_left]
                try simp only [hn]
                go_wp2_with (fail)
                exact ⟨rfl, _, rfl, Below.refl _ _, rfl⟩
              · intro xs W hW hn
                simp [flowNeeds, Region.binds] at hn
                simp only [flowAct, List.zipWith_cons_cons, List.zipWith_nil_left]
                try simp only [hn]
                go_wp2_with (fail)
                exact ⟨rfl, _, rfl, Below.refl _ _, by first | rfl | go_num | (simp; done)⟩
              · intro xs W hW hn
                obtain ⟨c0, c1, c2, c3, c4, c5⟩ := HCW.out W hW
                simp [flowNeeds, Region.binds] at hn
                simp only [flowAct, List.zipWith_cons_cons, List.zipWith_nil_left]
                try simp only [hn]
                go_wp2_with (fail)
                exact ⟨rfl, _, rfl, Below.refl _ _, rfl⟩
              · intro xs W hW hn
                simp [flowNeeds, Region.binds] at hn
                simp only [flowAct, List.zipWith_cons_cons, List.zipWith_nil_left]
                try simp only [hn]
                go_wp2_with (fail)
                exact ⟨rfl, _, rfl, Below.refl _ _, by first | rfl | go_num | (simp; done)⟩
              · intro xs W hW hn
                simp [flowNeeds, Region.binds] at hn
                simp only [flowAct, List.zipWith_cons_cons, List.zipWith_nil_left]
                try simp only [hn]
                go_wp2_with (fail)
                exact ⟨rfl, _, rfl, Below.refl _ _, rfl⟩
              · intro xs W hW hn
                simp [flowNeeds, Region.binds] at hn
                simp only [flowAct, List.zipWith_cons_cons, List.zipWith_nil_left]
                try simp only [hn]
                go_wp2_with (fail)
                exact ⟨rfl, _, rfl, Below.refl _ _, rfl⟩
            · intro xs W hW hall
              simp only [flowAll, and_true, Nat.zero_add, Nat.reduceAdd] at hall
              obtain ⟨-, -, -, -, -, -, -, -, -, -, -, -, -, -, -, -, -, -, -, -, -, -, e22⟩ := hall
              simp only [flowAct, List.zipWith_cons_cons, List.zipWith_nil_left]
              simp only [e22]
              go_wp2
              go_ret
              exact ⟨by rw [HRR.out]; rfl, HB1.out.trans (hW.mono HB1.out.size)⟩
          · have HRR := Lib.hid (show r = false by rw [HRR0.out]; simp [hq])
            clear HRR0
            refine wp_region_flow [none, none, some 22, none, none, none, none, none, none, none, none, none, none, none, none, none, none, none, none, none, none, none, none, some 0, some 1, some 2, some 3, some 4, some 5, some 6, some 7, some 8, some 9, some 10, some 11, some 12, some 13, some 14, some 15, some 16, some 17, some 18, some 19, some 20, some 21] (fun i => [undef, undef, undef, undef, undef, undef, undef, undef, undef, undef, undef, undef, undef, undef, undef, undef, undef, undef, undef, undef, undef, undef, .bool false].getD i undef) [(fun v _ => v = .bool true), (fun v _ => v = .bool true), (fun v _ => v = .pointer (some ⟨B, 4, none⟩)), (fun v _ => v = .agg #[.int .i64 a, .int .i64 b]), (fun v _ => v = .bool true), (fun v _ => v = .bool true), (fun v _ => v = .bool true), (fun v _ => v = .pointer (some ⟨B, 1, none⟩)), (fun v _ => v = .int .i64 seq), (fun v _ => v = .bool false), (fun v _ => v = .bool false), (fun v _ => v = .bool false), (fun v _ => v = undef), (fun v _ => v = undef), (fun v _ => v = undef), (fun v _ => v = undef), (fun v _ => v = undef), (fun v _ => v = undef), (fun v _ => v = undef), (fun v _ => v = undef), (fun v _ => v = undef), (fun v _ => v = .bool false), (fun v _ => v = .bool false)] (by kernel_rfl) (by kernel_rfl) rfl rfl rfl ?_ ?_ ?_
            · intro g hg v X Y hX hY hv
              simp only [List.mem_cons, List.not_mem_nil, or_false] at hg
              rcases hg with rfl | rfl | rfl | rfl | rfl | rfl | rfl | rfl | rfl | rfl | rfl | rfl | rfl | rfl | rfl | rfl | rfl | rfl | rfl | rfl | rfl | rfl | rfl
              all_goals first
                | exact hv
                | exact hv.kept hY
            · simp only [flowOps, and_true]
              refine ⟨?_, ?_, ?_, ?_, ?_, ?_, ?_, ?_, ?_, ?_, ?_, ?_, ?_, ?_, ?_, ?_, ?_, ?_, ?_, ?_, ?_, ?_, ?_⟩
              · intro xs W hW hn
                simp only [flowAct, List.zipWith_cons_cons, List.zipWith_nil_left]
                go_wp2_with (fail)
                exact ⟨rfl, _, rfl, Below.refl _ _, rfl⟩
              · intro xs W hW hn
                simp [flowNeeds, Region.binds] at hn
                simp only [flowAct, List.zipWith_cons_cons, List.zipWith_nil_left]
                try simp only [hn]
                go_wp2_with (fail)
                exact ⟨rfl, _, rfl, Below.refl _ _, rfl⟩
              · intro xs W hW hn
                simp [flowNeeds, Region.binds] at hn
                simp only [flowAct, List.zipWith_cons_cons, List.zipWith_nil_left]
                try simp only [hn]
                go_wp2_with (fail)
                exact ⟨rfl, _, rfl, Below.refl _ _, rfl⟩
              · intro xs W hW hn
                obtain ⟨c0, c1, c2, c3, c4, c5⟩ := HCW.out W hW
                simp [flowNeeds, Region.binds] at hn
                simp only [flowAct, List.zipWith_cons_cons, List.zipWith_nil_left]
                try simp only [hn]
                go_wp2_with (fail)
                exact ⟨rfl, _, rfl, Below.refl _ _, rfl⟩
              · intro xs W hW hn
                simp [flowNeeds, Region.binds] at hn
                simp only [flowAct, List.zipWith_cons_cons, List.zipWith_nil_left]
                try simp only [hn]
                go_wp2_with (go_at_call 62; (with_reducible refine (HVG.out _).mono ?_); rintro e9 w9 ⟨rfl, hb9⟩)
                exact ⟨rfl, _, rfl, hb9, rfl⟩
              · intro xs W hW hn
                simp [flowNeeds, Region.binds] at hn
                simp only [flowAct, List.zipWith_cons_cons, List.zipWith_nil_left]
                try simp only [hn]
                go_wp2_with (fail)
                exact ⟨rfl, _, rfl, Below.refl _ _, rfl⟩
              · intro xs W hW hn
                simp [flowNeeds, Region.binds] at hn
                simp only [flowAct, List.zipWith_cons_cons, List.zipWith_nil_left]
                try simp only [hn]
                go_wp2_with (fail)
                exact ⟨rfl, _, rfl, Below.refl _ _, rfl⟩
              · intro xs W hW hn
                simp [flowNeeds, Region.binds] at hn
                simp only [flowAct, List.zipWith_cons_cons, List.zipWith_nil_left]
                try simp only [hn]
                go_wp2_with (fail)
                exact ⟨rfl, _, rfl, Below.refl _ _, rfl⟩
              · intro xs W hW hn
                obtain ⟨c0, c1, c2, c3, c4, c5⟩ := HCW.out W hW
                simp [flowNeeds, Region.binds] at hn
                simp only [flowAct, List.zipWith_cons_cons, List.zipWith_nil_left]
                try simp only [hn]
                go_wp2_with (fail)
                exact ⟨rfl, _, rfl, Below.refl _ _, rfl⟩
              · intro xs W hW hn
                simp [flowNeeds, Region.binds] at hn
                simp only [flowAct, List.zipWith_cons_cons, List.zipWith_nil_left]
                try simp only [hn]
                go_wp2_with (fail)
                exact ⟨rfl, _, rfl, Below.refl _ _, by first | rfl | go_num | (simp; done)⟩
              · intro xs W hW hn
                simp [flowNeeds, Region.binds] at hn
                simp only [flowAct, List.zipWith_cons_cons, List.zipWith_nil_left]
                try simp only [hn]
                go_wp2_with (fail)
                exact ⟨rfl, _, rfl, Below.refl _ _, rfl⟩
              · intro xs W hW hn
                simp [flowNeeds, Region.binds] at hn
                simp only [flowAct, List.zipWith_cons_cons, List.zipWith_nil_left]
                try simp only [hn]
                go_wp2_with (fail)
                exact ⟨rfl, _, rfl, Below.refl _ _, rfl⟩
              · intro xs W hW hn
                simp [flowNeeds, Region.binds] at hn
                simp only [flowAct, List.zipWith_cons_cons, List.zipWith_nil_left]
                try simp only [hn]
                go_wp2_with (fail)
                exact ⟨rfl, _, rfl, Below.refl _ _, rfl⟩
              · intro xs W hW hn
                simp [flowNeeds, Region.binds] at hn
                simp only [flowAct, List.zipWith_cons_cons, List.zipWith_nil_left]
                try simp only [hn]
                go_wp2_with (fail)
                exact ⟨rfl, _, rfl, Below.refl _ _, rfl⟩
              · intro xs W hW hn
                simp [flowNeeds, Region.binds] at hn
                simp only [flowAct, List.zipWith_cons_cons, List.zipWith_nil_left]
                try simp only [hn]
                go_wp2_with (fail)
                exact ⟨rfl, _, rfl, Below.refl _ _, rfl⟩
              · intro xs W hW hn
                simp [flowNeeds, Region.binds] at hn
                simp only [flowAct, List.zipWith_cons_cons, List.zipWith_nil_left]
                try simp only [hn]
                go_wp2_with (fail)
                exact ⟨rfl, _, rfl, Below.refl _ _, rfl⟩
              · intro xs W hW hn
                simp [flowNeeds, Region.binds] at hn
                simp only [flowAct, List.zipWith_cons_cons, List.zipWith_nil_left]
                try simp only [hn]
                go_wp2_with (fail)
                exact ⟨rfl, _, rfl, Below.refl _ _, rfl⟩
              · intro xs W hW hn
                simp [flowNeeds, Region.binds] at hn
                simp only [flowAct, List.zipWith_cons_cons, List.zipWith_nil_left]
                try simp only [hn]
                go_wp2_with (fail)
                exact ⟨rfl, _, rfl, Below.refl _ _, rfl⟩
              · intro xs W hW hn
                simp [flowNeeds, Region.binds] at hn
                simp only [flowAct, List.zipWith_cons_cons, List.zipWith_nil_left]
                try simp only [hn]
                go_wp2_with (fail)
                exact ⟨rfl, _, rfl, Below.refl _ _, rfl⟩
              · intro xs W hW hn
                simp [flowNeeds, Region.binds] at hn
                simp only [flowAct, List.zipWith_cons_cons, List.zipWith_nil_left]
                try simp only [hn]
                go_wp2_with (fail)
                exact ⟨rfl, _, rfl, Below.refl _ _, rfl⟩
              · intro xs W hW hn
                simp [flowNeeds, Region.binds] at hn
                simp only [flowAct, List.zipWith_cons_cons, List.zipWith_nil_left]
                try simp only [hn]
                go_wp2_with (fail)
                exact ⟨rfl, _, rfl, Below.refl _ _, rfl⟩
              · intro xs W hW hn
                simp [flowNeeds, Region.binds] at hn
                simp only [flowAct, List.zipWith_cons_cons, List.zipWith_nil_left]
                try simp only [hn]
                go_wp2_with (fail)
                exact ⟨rfl, _, rfl, Below.refl _ _, rfl⟩
              · intro xs W hW hn
                simp [flowNeeds, Region.binds] at hn
                simp only [flowAct, List.zipWith_cons_cons, List.zipWith_nil_left]
                try simp only [hn]
                go_wp2_with (fail)
                exact ⟨rfl, _, rfl, Below.refl _ _, rfl⟩
            · intro xs W hW hall
              simp only [flowAll, and_true, Nat.zero_add, Nat.reduceAdd] at hall
              obtain ⟨-, -, -, -, -, -, -, -, -, -, -, -, -, -, -, -, -, -, -, -, -, -, e22⟩ := hall
              simp only [flowAct, List.zipWith_cons_cons, List.zipWith_nil_left]
              simp only [e22]
              go_wp2
              go_ret
              exact ⟨by rw [HRR.out]; rfl, HB1.out.trans (hW.mono HB1.out.size)⟩
      · have hsb : (s == 1) = false := by simpa using hss
        have HRR := Lib.hid (show r = false by rw [HRR0.out, hsb]; rfl)
        clear HRR0
        go_enter Tryd.func34, Tryd.ntmps34
        go_upto_region 4 with (go_at_call 65; (with_reducible refine (HSG.out _).mono ?_); rintro e9 w2 ⟨rfl, hb2⟩; obtain ⟨c0, c1, c2, c3, c4, c5⟩ := HC0.out w2 hb2)
        have HB1 := Lib.hid (HB0.out.trans (hb2.mono HB0.out.size))
        have HCW := Lib.hid (fun W (h : Below w2.heap.size w2 W) => HC0.out W (hb2.trans (h.mono hb2.size)))
        clear hb2 HB0 HC0 HSG c0 c1 c2 c3 c4 c5
        obtain ⟨B, hB⟩ : ∃ z, w.heap.size = z := ⟨_, rfl⟩
        simp only [hB] at HCW ⊢
        have HBe := Lib.hid hB
        clear hB
        refine wp_region_flow [none, none, some 22, none, none, none, none, none, none, none, none, none, none, none, none, none, none, none, none, none, none, none, none, some 0, some 1, some 2, some 3, some 4, some 5, some 6, some 7, some 8, some 9, some 10, some 11, some 12, some 13, some 14, some 15, some 16, some 17, some 18, some 19, some 20, some 21] (fun i => [undef, undef, undef, undef, undef, undef, undef, undef, undef, undef, undef, undef, undef, undef, undef, undef, undef, undef, undef, undef, undef, undef, .bool false].getD i undef) [(fun v _ => v = .bool false), (fun v _ => v = .bool false), (fun v _ => v = undef), (fun v _ => v = undef), (fun v _ => v = undef), (fun v _ => v = .bool false), (fun v _ => v = .bool false), (fun v _ => v = undef), (fun v _ => v = undef), (fun v _ => v = undef), (fun v _ => v = .bool false), (fun v _ => v = .bool false), (fun v _ => v = undef), (fun v _ => v = undef), (fun v _ => v = undef), (fun v _ => v = undef), (fun v _ => v = undef), (fun v _ => v = undef), (fun v _ => v = undef), (fun v _ => v = undef), (fun v _ => v = undef), (fun v _ => v = .bool false), (fun v _ => v = .bool false)] (by kernel_rfl) (by kernel_rfl) rfl rfl rfl ?_ ?_ ?_
        · intro g hg v X Y hX hY hv
          simp only [List.mem_cons, List.not_mem_nil, or_false] at hg
          rcases hg with rfl | rfl | rfl | rfl | rfl | rfl | rfl | rfl | rfl | rfl | rfl | rfl | rfl | rfl | rfl | rfl | rfl | rfl | rfl | rfl | rfl | rfl | rfl
          all_goals first
            | exact hv
            | exact hv.kept hY
        · simp only [flowOps, and_true]
          refine ⟨?_, ?_, ?_, ?_, ?_, ?_, ?_, ?_, ?_, ?_, ?_, ?_, ?_, ?_, ?_, ?_, ?_, ?_, ?_, ?_, ?_, ?_, ?_⟩
          · intro xs W hW hn
            simp only [flowAct, List.zipWith_cons_cons, List.zipWith_nil_left]
            go_wp2_with (fail)
            exact ⟨rfl, _, rfl, Below.refl _ _, rfl⟩
          · intro xs W hW hn
            simp [flowNeeds, Region.binds] at hn
            simp only [flowAct, List.zipWith_cons_cons, List.zipWith_nil_left]
            try simp only [hn]
            go_wp2_with (fail)
            exact ⟨rfl, _, rfl, Below.refl _ _, rfl⟩
          · intro xs W hW hn
            simp [flowNeeds, Region.binds] at hn
            simp only [flowAct, List.zipWith_cons_cons, List.zipWith_nil_left]
            try simp only [hn]
            go_wp2_with (fail)
            exact ⟨rfl, _, rfl, Below.refl _ _, rfl⟩
          · intro xs W hW hn
            simp [flowNeeds, Region.binds] at hn
            simp only [flowAct, List.zipWith_cons_cons, List.zipWith_nil_left]
            try simp only [hn]
            go_wp2_with (fail)
            exact ⟨rfl, _, rfl, Below.refl _ _, rfl⟩
          · intro xs W hW hn
            simp [flowNeeds, Region.binds] at hn
            simp only [flowAct, List.zipWith_cons_cons, List.zipWith_nil_left]
            try simp only [hn]
            go_wp2_with (fail)
            exact ⟨rfl, _, rfl, Below.refl _ _, rfl⟩
          · intro xs W hW hn
            simp [flowNeeds, Region.binds] at hn
            simp only [flowAct, List.zipWith_cons_cons, List.zipWith_nil_left]
            try simp only [hn]
            go_wp2_with (fail)
            exact ⟨rfl, _, rfl, Below.refl _ _, rfl⟩
          · intro xs W hW hn
            simp [flowNeeds, Region.binds] at hn
            simp only [flowAct, List.zipWith_cons_cons, List.zipWith_nil_left]
            try simp only [hn]
            go_wp2_with (fail)
            exact ⟨rfl, _, rfl, Below.refl _ _, rfl⟩
          · intro xs W hW hn
            simp [flowNeeds, Region.binds] at hn
            simp only [flowAct, List.zipWith_cons_cons, List.zipWith_nil_left]
            try simp only [hn]
            go_wp2_with (fail)
            exact ⟨rfl, _, rfl, Below.refl _ _, rfl⟩
          · intro xs W hW hn
            simp [flowNeeds, Region.binds] at hn
            simp only [flowAct, List.zipWith_cons_cons, List.zipWith_nil_left]
            try simp only [hn]
            go_wp2_with (fail)
            exact ⟨rfl, _, rfl, Below.refl _ _, rfl⟩
          · intro xs W hW hn
            simp [flowNeeds, Region.binds] at hn
            simp only [flowAct, List.zipWith_cons_cons, List.zipWith_nil_left]
            try simp only [hn]
            go_wp2_with (fail)
            exact ⟨rfl, _, rfl, Below.refl _ _, rfl⟩
          · intro xs W hW hn
            simp [flowNeeds, Region.binds] at hn
            simp only [flowAct, List.zipWith_cons_cons, List.zipWith_nil_left]
            try simp only [hn]
            go_wp2_with (fail)
            exact ⟨rfl, _, rfl, Below.refl _ _, rfl⟩
          · intro xs W hW hn
            simp [flowNeeds, Region.binds] at hn
            simp only [flowAct, List.zipWith_cons_cons, List.zipWith_nil_left]
            try simp only [hn]
            go_wp2_with (fail)
            exact ⟨rfl, _, rfl, Below.refl _ _, rfl⟩
          · intro xs W hW hn
            simp [flowNeeds, Region.binds] at hn
            simp only [flowAct, List.zipWith_cons_cons, List.zipWith_nil_left]
            try simp only [hn]
            go_wp2_with (fail)
            exact ⟨rfl, _, rfl, Below.refl _ _, rfl⟩
          · intro xs W hW hn
            simp [flowNeeds, Region.binds] at hn
            simp only [flowAct, List.zipWith_cons_cons, List.zipWith_nil_left]
            try simp only [hn]
            go_wp2_with (fail)
            exact ⟨rfl, _, rfl, Below.refl _ _, rfl⟩
          · intro xs W hW hn
            simp [flowNeeds, Region.binds] at hn
            simp only [flowAct, List.zipWith_cons_cons, List.zipWith_nil_left]
            try simp only [hn]
            go_wp2_with (fail)
            exact ⟨rfl, _, rfl, Below.refl _ _, rfl⟩
          · intro xs W hW hn
            simp [flowNeeds, Region.binds] at hn
            simp only [flowAct, List.zipWith_cons_cons, List.zipWith_nil_left]
            try simp only [hn]
            go_wp2_with (fail)
            exact ⟨rfl, _, rfl, Below.refl _ _, rfl⟩
          · intro xs W hW hn
            simp [flowNeeds, Region.binds] at hn
            simp only [flowAct, List.zipWith_cons_cons, List.zipWith_nil_left]
            try simp only [hn]
            go_wp2_with (fail)
            exact ⟨rfl, _, rfl, Below.refl _ _, rfl⟩
          · intro xs W hW hn
            simp [flowNeeds, Region.binds] at hn
            simp only [flowAct, List.zipWith_cons_cons, List.zipWith_nil_left]
            try simp only [hn]
            go_wp2_with (fail)
            exact ⟨rfl, _, rfl, Below.refl _ _, rfl⟩
          · intro xs W hW hn
            simp [flowNeeds, Region.binds] at hn
            simp only [flowAct, List.zipWith_cons_cons, List.zipWith_nil_left]
            try simp only [hn]
            go_wp2_with (fail)
            exact ⟨rfl, _, rfl, Below.refl _ _, rfl⟩
          · intro xs W hW hn
            simp [flowNeeds, Region.binds] at hn
            simp only [flowAct, List.zipWith_cons_cons, List.zipWith_nil_left]
            try simp only [hn]
            go_wp2_with (fail)
            exact ⟨rfl, _, rfl, Below.refl _ _, rfl⟩
          · intro xs W hW hn
            simp [flowNeeds, Region.binds] at hn
            simp only [flowAct, List.zipWith_cons_cons, List.zipWith_nil_left]
            try simp only [hn]
            go_wp2_with (fail)
            exact ⟨rfl, _, rfl, Below.refl _ _, rfl⟩
          · intro xs W hW hn
            simp [flowNeeds, Region.binds] at hn
            simp only [flowAct, List.zipWith_cons_cons, List.zipWith_nil_left]
            try simp only [hn]
            go_wp2_with (fail)
            exact ⟨rfl, _, rfl, Below.refl _ _, rfl⟩
          · intro xs W hW hn
            simp [flowNeeds, Region.binds] at hn
            simp only [flowAct, List.zipWith_cons_cons, List.zipWith_nil_left]
            try simp only [hn]
            go_wp2_with (fail)
            exact ⟨rfl, _, rfl, Below.refl _ _, rfl⟩
        · intro xs W hW hall
          simp only [flowAll, and_true, Nat.zero_add, Nat.reduceAdd] at hall
          obtain ⟨-, -, -, -, -, -, -, -, -, -, -, -, -, -, -, -, -, -, -, -, -, -, e22⟩ := hall
          simp only [flowAct, List.zipWith_cons_cons, List.zipWith_nil_left]
          simp only [e22]
          go_wp2
          go_ret
          exact ⟨by rw [HRR.out]; rfl, HB1.out.trans (hW.mono HB1.out.size)⟩
  · by_cases h2 : site = 2
    · subst h2
      have HRR0 := Lib.hid (show goodHeadS 2 seq n s a b = ((sgood n s && (s == 2)) && (vgood a b && (decide (1 ≤ seq) && (seq == b)))) from by simp [goodHeadS])
      obtain ⟨r, hr⟩ : ∃ r, goodHeadS 2 seq n s a b = r := ⟨_, rfl⟩
      rw [hr] at HRR0 ⊢
      have hsg := fun W => sgood_c n s W
      have hvg := fun W => vgood_c a b W
      obtain ⟨SG, hSG⟩ : ∃ z, sgood n s = z := ⟨_, rfl⟩
      obtain ⟨VG, hVG⟩ : ∃ z, vgood a b = z := ⟨_, rfl⟩
      rw [hSG, hVG] at HRR0
      simp only [hSG] at hsg
      simp only [hVG] at hvg
      have HSG := Lib.hid hsg
      have HVG := Lib.hid hvg
      clear hr hSG hVG hsg hvg
      cases SG with
      | false =>
        have HRR := Lib.hid (show r = false by rw [HRR0.out]; rfl)
        clear HRR0
        go_enter Tryd.func34, Tryd.ntmps34
        go_upto_region 4 with (go_at_call 65; (with_reducible refine (HSG.out _).mono ?_); rintro e9 w2 ⟨rfl, hb2⟩)
        have HB1 := Lib.hid (HB0.out.trans (hb2.mono HB0.out.size))
        have HCW := Lib.hid (fun W (h : Below w2.heap.size w2 W) => HC0.out W (hb2.trans (h.mono hb2.size)))
        clear hb2 HB0 HC0 HSG c0 c1 c2 c3 c4 c5
        obtain ⟨B, hB⟩ : ∃ z, w.heap.size = z := ⟨_, rfl⟩
        simp only [hB] at HCW ⊢
        have HBe := Lib.hid hB
        clear hB
        refine wp_region_flow [none, none, some 22, none, none, none, none, none, none, none, none, none, none, none, none, none, none, none, none, none, none, none, none, some 0, some 1, some 2, some 3, some 4, some 5, some 6, some 7, some 8, some 9, some 10, some 11, some 12, some 13, some 14, some 15, some 16, some 17, some 18, some 19, some 20, some 21] (fun i => [undef, undef, undef, undef, undef, undef, undef, undef, undef, undef, undef, undef, undef, undef, undef, undef, undef, undef, undef, undef, undef, undef, .bool false].getD i undef) [(fun v _ => v = .bool false), (fun v _ => v = .bool false), (fun v _ => v = undef), (fun v _ => v = undef), (fun v _ => v = undef), (fun v _ => v = .bool false), (fun v _ => v = .bool false), (fun v _ => v = undef), (fun v _ => v = undef), (fun v _ => v = undef), (fun v _ => v = .bool false), (fun v _ => v = .bool false), (fun v _ => v = undef), (fun v _ => v = undef), (fun v _ => v = undef), (fun v _ => v = undef), (fun v _ => v = undef), (fun v _ => v = undef), (fun v _ => v = undef), (fun v _ => v = undef), (fun v _ => v = undef), (fun v _ => v = .bool false), (fun v _ => v = .bool false)] (by kernel_rfl) (by kernel_rfl) rfl rfl rfl ?_ ?_ ?_
        · intro g hg v X Y hX hY hv
          simp only [List.mem_cons, List.not_mem_nil, or_false] at hg
          rcases hg with rfl | rfl | rfl | rfl | rfl | rfl | rfl | rfl | rfl | rfl | rfl | rfl | rfl | rfl | rfl | rfl | rfl | rfl | rfl | rfl | rfl | rfl | rfl
          all_goals first
            | exact hv
            | exact hv.kept hY
        · simp only [flowOps, and_true]
          refine ⟨?_, ?_, ?_, ?_, ?_, ?_, ?_, ?_, ?_, ?_, ?_, ?_, ?_, ?_, ?_, ?_, ?_, ?_, ?_, ?_, ?_, ?_, ?_⟩
          · intro xs W hW hn
            simp only [flowAct, List.zipWith_cons_cons, List.zipWith_nil_left]
            go_wp2_with (fail)
            exact ⟨rfl, _, rfl, Below.refl _ _, rfl⟩
          · intro xs W hW hn
            simp [flowNeeds, Region.binds] at hn
            simp only [flowAct, List.zipWith_cons_cons, List.zipWith_nil_left]
            try simp only [hn]
            go_wp2_with (fail)
            exact ⟨rfl, _, rfl, Below.refl _ _, rfl⟩
          · intro xs W hW hn
            simp [flowNeeds, Region.binds] at hn
            simp only [flowAct, List.zipWith_cons_cons, List.zipWith_nil_left]
            try simp only [hn]
            go_wp2_with (fail)
            exact ⟨rfl, _, rfl, Below.refl _ _, rfl⟩
          · intro xs W hW hn
            simp [flowNeeds, Region.binds] at hn
            simp only [flowAct, List.zipWith_cons_cons, List.zipWith_nil_left]
            try simp only [hn]
            go_wp2_with (fail)
            exact ⟨rfl, _, rfl, Below.refl _ _, rfl⟩
          · intro xs W hW hn
            simp [flowNeeds, Region.binds] at hn
            simp only [flowAct, List.zipWith_cons_cons, List.zipWith_nil_left]
            try simp only [hn]
            go_wp2_with (fail)
            exact ⟨rfl, _, rfl, Below.refl _ _, rfl⟩
          · intro xs W hW hn
            simp [flowNeeds, Region.binds] at hn
            simp only [flowAct, List.zipWith_cons_cons, List.zipWith_nil_left]
            try simp only [hn]
            go_wp2_with (fail)
            exact ⟨rfl, _, rfl, Below.refl _ _, rfl⟩
          · intro xs W hW hn
            simp [flowNeeds, Region.binds] at hn
            simp only [flowAct, List.zipWith_cons_cons, List.zipWith_nil_left]
            try simp only [hn]
            go_wp2_with (fail)
            exact ⟨rfl, _, rfl, Below.refl _ _, rfl⟩
          · intro xs W hW hn
            simp [flowNeeds, Region.binds] at hn
            simp only [flowAct, List.zipWith_cons_cons, List.zipWith_nil_left]
            try simp only [hn]
            go_wp2_with (fail)
            exact ⟨rfl, _, rfl, Below.refl _ _, rfl⟩
          · intro xs W hW hn
            simp [flowNeeds, Region.binds] at hn
            simp only [flowAct, List.zipWith_cons_cons, List.zipWith_nil_left]
            try simp only [hn]
            go_wp2_with (fail)
            exact ⟨rfl, _, rfl, Below.refl _ _, rfl⟩
          · intro xs W hW hn
            simp [flowNeeds, Region.binds] at hn
            simp only [flowAct, List.zipWith_cons_cons, List.zipWith_nil_left]
            try simp only [hn]
            go_wp2_with (fail)
            exact ⟨rfl, _, rfl, Below.refl _ _, rfl⟩
          · intro xs W hW hn
            simp [flowNeeds, Region.binds] at hn
            simp only [flowAct, List.zipWith_cons_cons, List.zipWith_nil_left]
            try simp only [hn]
            go_wp2_with (fail)
            exact ⟨rfl, _, rfl, Below.refl _ _, rfl⟩
          · intro xs W hW hn
            simp [flowNeeds, Region.binds] at hn
            simp only [flowAct, List.zipWith_cons_cons, List.zipWith_nil_left]
            try simp only [hn]
            go_wp2_with (fail)
            exact ⟨rfl, _, rfl, Below.refl _ _, rfl⟩
          · intro xs W hW hn
            simp [flowNeeds, Region.binds] at hn
            simp only [flowAct, List.zipWith_cons_cons, List.zipWith_nil_left]
            try simp only [hn]
            go_wp2_with (fail)
            exact ⟨rfl, _, rfl, Below.refl _ _, rfl⟩
          · intro xs W hW hn
            simp [flowNeeds, Region.binds] at hn
            simp only [flowAct, List.zipWith_cons_cons, List.zipWith_nil_left]
            try simp only [hn]
            go_wp2_with (fail)
            exact ⟨rfl, _, rfl, Below.refl _ _, rfl⟩
          · intro xs W hW hn
            simp [flowNeeds, Region.binds] at hn
            simp only [flowAct, List.zipWith_cons_cons, List.zipWith_nil_left]
            try simp only [hn]
            go_wp2_with (fail)
            exact ⟨rfl, _, rfl, Below.refl _ _, rfl⟩
          · intro xs W hW hn
            simp [flowNeeds, Region.binds] at hn
            simp only [flowAct, List.zipWith_cons_cons, List.zipWith_nil_left]
            try simp only [hn]
            go_wp2_with (fail)
            exact ⟨rfl, _, rfl, Below.refl _ _, rfl⟩
          · intro xs W hW hn
            simp [flowNeeds, Region.binds] at hn
            simp only [flowAct, List.zipWith_cons_cons, List.zipWith_nil_left]
            try simp only [hn]
            go_wp2_with (fail)
            exact ⟨rfl, _, rfl, Below.refl _ _, rfl⟩
          · intro xs W hW hn
            simp [flowNeeds, Region.binds] at hn
            simp only [flowAct, List.zipWith_cons_cons, List.zipWith_nil_left]
            try simp only [hn]
            go_wp2_with (fail)
            exact ⟨rfl, _, rfl, Below.refl _ _, rfl⟩
          · intro xs W hW hn
            simp [flowNeeds, Region.binds] at hn
            simp only [flowAct, List.zipWith_cons_cons, List.zipWith_nil_left]
            try simp only [hn]
            go_wp2_with (fail)
            exact ⟨rfl, _, rfl, Below.refl _ _, rfl⟩
          · intro xs W hW hn
            simp [flowNeeds, Region.binds] at hn
            simp only [flowAct, List.zipWith_cons_cons, List.zipWith_nil_left]
            try simp only [hn]
            go_wp2_with (fail)
            exact ⟨rfl, _, rfl, Below.refl _ _, rfl⟩
          · intro xs W hW hn
            simp [flowNeeds, Region.binds] at hn
            simp only [flowAct, List.zipWith_cons_cons, List.zipWith_nil_left]
            try simp only [hn]
            go_wp2_with (fail)
            exact ⟨rfl, _, rfl, Below.refl _ _, rfl⟩
          · intro xs W hW hn
            simp [flowNeeds, Region.binds] at hn
            simp only [flowAct, List.zipWith_cons_cons, List.zipWith_nil_left]
            try simp only [hn]
            go_wp2_with (fail)
            exact ⟨rfl, _, rfl, Below.refl _ _, rfl⟩
          · intro xs W hW hn
            simp [flowNeeds, Region.binds] at hn
            simp only [flowAct, List.zipWith_cons_cons, List.zipWith_nil_left]
            try simp only [hn]
            go_wp2_with (fail)
            exact ⟨rfl, _, rfl, Below.refl _ _, rfl⟩
        · intro xs W hW hall
          simp only [flowAll, and_true, Nat.zero_add, Nat.reduceAdd] at hall
          obtain ⟨-, -, -, -, -, -, -, -, -, -, -, -, -, -, -, -, -, -, -, -, -, -, e22⟩ := hall
          simp only [flowAct, List.zipWith_cons_cons, List.zipWith_nil_left]
          simp only [e22]
          go_wp2
          go_ret
          exact ⟨by rw [HRR.out]; rfl, HB1.out.trans (hW.mono HB1.out.size)⟩
      | true =>
        by_cases hss : s = 2
        · have hsb : (s == 2) = true := by simpa using hss
          subst hss
          rw [hsb] at HRR0
          clear hsb
          go_enter Tryd.func34, Tryd.ntmps34
          go_upto_region 4 with (go_at_call 65; (with_reducible refine (HSG.out _).mono ?_); rintro e9 w2 ⟨rfl, hb2⟩; obtain ⟨c0, c1, c2, c3, c4, c5⟩ := HC0.out w2 hb2)
          have HB1 := Lib.hid (HB0.out.trans (hb2.mono HB0.out.size))
          have HCW := Lib.hid (fun W (h : Below w2.heap.size w2 W) => HC0.out W (hb2.trans (h.mono hb2.size)))
          clear hb2 HB0 HC0 HSG c0 c1 c2 c3 c4 c5
          obtain ⟨B, hB⟩ : ∃ z, w.heap.size = z := ⟨_, rfl⟩
          simp only [hB] at HCW ⊢
          have HBe := Lib.hid hB
          clear hB
          cases VG with
          | false =>
            have HRR := Lib.hid (show r = false by rw [HRR0.out]; rfl)
            clear HRR0
            refine wp_region_flow [none, none, some 22, none, none, none, none, none, none, none, none, none, none, none, none, none, none, none, none, none, none, none, none, some 0, some 1, some 2, some 3, some 4, some 5, some 6, some 7, some 8, some 9, some 10, some 11, some 12, some 13, some 14, some 15, some 16, some 17, some 18, some 19, some 20, some 21] (fun i => [undef, undef, undef, undef, undef, undef, undef, undef, undef, undef, undef, undef, undef, undef, undef, undef, undef, undef, undef, undef, undef, undef, .bool false].getD i undef) [(fun v _ => v = .bool true), (fun v _ => v = .bool true), (fun v _ => v = .pointer (some ⟨B, 4, none⟩)), (fun v _ => v = .agg #[.int .i64 a, .int .i64 b]), (fun v _ => v = .bool false), (fun v _ => v = .bool false), (fun v _ => v = .bool false), (fun v _ => v = undef), (fun v _ => v = undef), (fun v _ => v = undef), (fun v _ => v = .bool false), (fun v _ => v = .bool false), (fun v _ => v = undef), (fun v _ => v = undef), (fun v _ => v = undef), (fun v _ => v = undef), (fun v _ => v = undef), (fun v _ => v = undef), (fun v _ => v = undef), (fun v _ => v = undef), (fun v _ => v = undef), (fun v _ => v = .bool false), (fun v _ => v = .bool false)] (by kernel_rfl) (by kernel_rfl) rfl rfl rfl ?_ ?_ ?_
            · intro g hg v X Y hX hY hv
              simp only [List.mem_cons, List.not_mem_nil, or_false] at hg
              rcases hg with rfl | rfl | rfl | rfl | rfl | rfl | rfl | rfl | rfl | rfl | rfl | rfl | rfl | rfl | rfl | rfl | rfl | rfl | rfl | rfl | rfl | rfl | rfl
              all_goals first
                | exact hv
                | exact hv.kept hY
            · simp only [flowOps, and_true]
              refine ⟨?_, ?_, ?_, ?_, ?_, ?_, ?_, ?_, ?_, ?_, ?_, ?_, ?_, ?_, ?_, ?_, ?_, ?_, ?_, ?_, ?_, ?_, ?_⟩
              · intro xs W hW hn
                simp only [flowAct, List.zipWith_cons_cons, List.zipWith_nil_left]
                go_wp2_with (fail)
                exact ⟨rfl, _, rfl, Below.refl _ _, rfl⟩
              · intro xs W hW hn
                simp [flowNeeds, Region.binds] at hn
                simp only [flowAct, List.zipWith_cons_cons, List.zipWith_nil_left]
                try simp only [hn]
                go_wp2_with (fail)
                exact ⟨rfl, _, rfl, Below.refl _ _, rfl⟩
              · intro xs W hW hn
                simp [flowNeeds, Region.binds] at hn
                simp only [flowAct, List.zipWith_cons_cons, List.zipWith_nil_left]
                try simp only [hn]
                go_wp2_with (fail)
                exact ⟨rfl, _, rfl, Below.refl _ _, rfl⟩
              · intro xs W hW hn
                obtain ⟨c0, c1, c2, c3, c4, c5⟩ := HCW.out W hW
                simp [flowNeeds, Region.binds] at hn
                simp only [flowAct, List.zipWith_cons_cons, List.zipWith_nil_left]
                try simp only [hn]
                go_wp2_with (fail)
                exact ⟨rfl, _, rfl, Below.refl _ _, rfl⟩
              · intro xs W hW hn
                simp [flowNeeds, Region.binds] at hn
                simp only [flowAct, List.zipWith_cons_cons, List.zipWith_nil_left]
                try simp only [hn]
                go_wp2_with (go_at_call 62; (with_reducible refine (HVG.out _).mono ?_); rintro e9 w9 ⟨rfl, hb9⟩)
                exact ⟨rfl, _, rfl, hb9, rfl⟩
              · intro xs W hW hn
                simp [flowNeeds, Region.binds] at hn
                simp only [flowAct, List.zipWith_cons_cons, List.zipWith_nil_left]
                try simp only [hn]
                go_wp2_with (fail)
                exact ⟨rfl, _, rfl, Below.refl _ _, rfl⟩
              · intro xs W hW hn
                simp [flowNeeds, Region.binds] at hn
                simp only [flowAct, List.zipWith_cons_cons, List.zipWith_nil_left]
                try simp only [hn]
                go_wp2_with (fail)
                exact ⟨rfl, _, rfl, Below.refl _ _, rfl⟩
              · intro xs W hW hn
                simp [flowNeeds, Region.binds] at hn
                simp only [flowAct, List.zipWith_cons_cons, List.zipWith_nil_left]
                try simp only [hn]
                go_wp2_with (fail)
                exact ⟨rfl, _, rfl, Below.refl _ _, rfl⟩
              · intro xs W hW hn
                simp [flowNeeds, Region.binds] at hn
                simp only [flowAct, List.zipWith_cons_cons, List.zipWith_nil_left]
                try simp only [hn]
                go_wp2_with (fail)
                exact ⟨rfl, _, rfl, Below.refl _ _, rfl⟩
              · intro xs W hW hn
                simp [flowNeeds, Region.binds] at hn
                simp only [flowAct, List.zipWith_cons_cons, List.zipWith_nil_left]
                try simp only [hn]
                go_wp2_with (fail)
                exact ⟨rfl, _, rfl, Below.refl _ _, rfl⟩
              · intro xs W hW hn
                simp [flowNeeds, Region.binds] at hn
                simp only [flowAct, List.zipWith_cons_cons, List.zipWith_nil_left]
                try simp only [hn]
                go_wp2_with (fail)
                exact ⟨rfl, _, rfl, Below.refl _ _, rfl⟩
              · intro xs W hW hn
                simp [flowNeeds, Region.binds] at hn
                simp only [flowAct, List.zipWith_cons_cons, List.zipWith_nil_left]
                try simp only [hn]
                go_wp2_with (fail)
                exact ⟨rfl, _, rfl, Below.refl _ _, rfl⟩
              · intro xs W hW hn
                simp [flowNeeds, Region.binds] at hn
                simp only [flowAct, List.zipWith_cons_cons, List.zipWith_nil_left]
                try simp only [hn]
                go_wp2_with (fail)
                exact ⟨rfl, _, rfl, Below.refl _ _, rfl⟩
              · intro xs W hW hn
                simp [flowNeeds, Region.binds] at hn
                simp only [flowAct, List.zipWith_cons_cons, List.zipWith_nil_left]
                try simp only [hn]
                go_wp2_with (fail)
                exact ⟨rfl, _, rfl, Below.refl _ _, rfl⟩
              · intro xs W hW hn
                simp [flowNeeds, Region.binds] at hn
                simp only [flowAct, List.zipWith_cons_cons, List.zipWith_nil_left]
                try simp only [hn]
                go_wp2_with (fail)
                exact ⟨rfl, _, rfl, Below.refl _ _, rfl⟩
              · intro xs W hW hn
                simp [flowNeeds, Region.binds] at hn
                simp only [flowAct, List.zipWith_cons_cons, List.zipWith_nil_left]
                try simp only [hn]
                go_wp2_with (fail)
                exact ⟨rfl, _, rfl, Below.refl _ _, rfl⟩
              · intro xs W hW hn
                simp [flowNeeds, Region.binds] at hn
                simp only [flowAct, List.zipWith_cons_cons, List.zipWith_nil_left]
                try simp only [hn]
                go_wp2_with (fail)
                exact ⟨rfl, _, rfl, Below.refl _ _, rfl⟩
              · intro xs W hW hn
                simp [flowNeeds, Region.binds] at hn
                simp only [flowAct, List.zipWith_cons_cons, List.zipWith_nil_left]
                try simp only [hn]
                go_wp2_with (fail)
                exact ⟨rfl, _, rfl, Below.refl _ _, rfl⟩
              · intro xs W hW hn
                simp [flowNeeds, Region.binds] at hn
                simp only [flowAct, List.zipWith_cons_cons, List.zipWith_nil_left]
                try simp only [hn]
                go_wp2_with (fail)
                exact ⟨rfl, _, rfl, Below.refl _ _, rfl⟩
              · intro xs W hW hn
                simp [flowNeeds, Region.binds] at hn
                simp only [flowAct, List.zipWith_cons_cons, List.zipWith_nil_left]
                try simp only [hn]
                go_wp2_with (fail)
                exact ⟨rfl, _, rfl, Below.refl _ _, rfl⟩
              · intro xs W hW hn
                simp [flowNeeds, Region.binds] at hn
                simp only [flowAct, List.zipWith_cons_cons, List.zipWith_nil_left]
                try simp only [hn]
                go_wp2_with (fail)
                exact ⟨rfl, _, rfl, Below.refl _ _, rfl⟩
              · intro xs W hW hn
                simp [flowNeeds, Region.binds] at hn
                simp only [flowAct, List.zipWith_cons_cons, List.zipWith_nil_left]
                try simp only [hn]
                go_wp2_with (fail)
                exact ⟨rfl, _, rfl, Below.refl _ _, rfl⟩
              · intro xs W hW hn
                simp [flowNeeds, Region.binds] at hn
                simp only [flowAct, List.zipWith_cons_cons, List.zipWith_nil_left]
                try simp only [hn]
                go_wp2_with (fail)
                exact ⟨rfl, _, rfl, Below.refl _ _, rfl⟩
            · intro xs W hW hall
              simp only [flowAll, and_true, Nat.zero_add, Nat.reduceAdd] at hall
              obtain ⟨-, -, -, -, -, -, -, -, -, -, -, -, -, -, -, -, -, -, -, -, -, -, e22⟩ := hall
              simp only [flowAct, List.zipWith_cons_cons, List.zipWith_nil_left]
              simp only [e22]
              go_wp2
              go_ret
              exact ⟨by rw [HRR.out]; rfl, HB1.out.trans (hW.mono HB1.out.size)⟩
          | true =>
            by_cases hq : 1 ≤ seq
            · have HRR := Lib.hid (show r = (seq == b) by rw [HRR0.out]; simp [hq])
              clear HRR0
              refine wp_region_flow [none, none, some 22, none, none, none, none, none, none, none, none, none, none, none, none, none, none, none, none, none, none, none, none, some 0, some 1, some 2, some 3, some 4, some 5, some 6, some 7, some 8, some 9, some 10, some 11, some 12, some 13, some 14, some 15, some 16, some 17, some 18, some 19, some 20, some 21] (fun i => [undef, undef, undef, undef, undef, undef, undef, undef, undef, undef, undef, undef, undef, undef, undef, undef, undef, undef, undef, undef, undef, undef, .bool false].getD i undef) [(fun v _ => v = .bool true), (fun v _ => v = .bool true), (fun v _ => v = .pointer (some ⟨B, 4, none⟩)), (fun v _ => v = .agg #[.int .i64 a, .int .i64 b]), (fun v _ => v = .bool true), (fun v _ => v = .bool true), (fun v _ => v = .bool true), (fun v _ => v = .pointer (some ⟨B, 1, none⟩)), (fun v _ => v = .int .i64 seq), (fun v _ => v = .bool true), (fun v _ => v = .bool true), (fun v _ => v = .bool true), (fun v _ => v = .pointer (some ⟨B, 1, none⟩)), (fun v _ => v = .int .i64 seq), (fun v _ => v = .pointer (some ⟨B, 0, none⟩)), (fun v _ => v = .int .i64 2), (fun v _ => v = .int .i64 1), (fun v _ => v = .pointer (some ⟨B, 4, none⟩)), (fun v _ => v = .pointer (some ⟨B, 5, none⟩)), (fun v _ => v = .int .i64 b), (fun v _ => v = .bool (seq == b)), (fun v _ => v = .bool (seq == b)), (fun v _ => v = .bool (seq == b))] (by kernel_rfl) (by kernel_rfl) rfl rfl rfl ?_ ?_ ?_
              · intro g hg v X Y hX hY hv
                simp only [List.mem_cons, List.not_mem_nil, or_false] at hg
                rcases hg with rfl | rfl | rfl | rfl | rfl | rfl | rfl | rfl | rfl | rfl | rfl | rfl | rfl | rfl | rfl | rfl | rfl | rfl | rfl | rfl | rfl | rfl | rfl
                all_goals first
                  | exact hv
                  | exact hv.kept hY
              · simp only [flowOps, and_true]
                refine ⟨?_, ?_, ?_, ?_, ?_, ?_, ?_, ?_, ?_, ?_, ?_, ?_, ?_, ?_, ?_, ?_, ?_, ?_, ?_, ?_, ?_, ?_, ?_⟩
                · intro xs W hW hn
                  simp only [flowAct, List.zipWith_cons_cons, List.zipWith_nil_left]
                  go_wp2_with (fail)
                  exact ⟨rfl, _, rfl, Below.refl _ _, rfl⟩
                · intro xs W hW hn
                  simp [flowNeeds, Region.binds] at hn
                  simp only [flowAct, List.zipWith_cons_cons, List.zipWith_nil_left]
                  try simp only [hn]
                  go_wp2_with (fail)
                  exact ⟨rfl, _, rfl, Below.refl _ _, rfl⟩
                · intro xs W hW hn
                  simp [flowNeeds, Region.binds] at hn
                  simp only [flowAct, List.zipWith_cons_cons, List.zipWith_nil_left]
                  try simp only [hn]
                  go_wp2_with (fail)
                  exact ⟨rfl, _, rfl, Below.refl _ _, rfl⟩
                · intro xs W hW hn
                  obtain ⟨c0, c1, c2, c3, c4, c5⟩ := HCW.out W hW
                  simp [flowNeeds, Region.binds] at hn
                  simp only [flowAct, List.zipWith_cons_cons, List.zipWith_nil_left]
                  try simp only [hn]
                  go_wp2_with (fail)
                  exact ⟨rfl, _, rfl, Below.refl _ _, rfl⟩
                · intro xs W hW hn
                  simp [flowNeeds, Region.binds] at hn
                  simp only [flowAct, List.zipWith_cons_cons, List.zipWith_nil_left]
                  try simp only [hn]
                  go_wp2_with (go_at_call 62; (with_reducible refine (HVG.out _).mono ?_); rintro e9 w9 ⟨rfl, hb9⟩)
                  exact ⟨rfl, _, rfl, hb9, rfl⟩
                · intro xs W hW hn
                  simp [flowNeeds, Region.binds] at hn
                  simp only [flowAct, List.zipWith_cons_cons, List.zipWith_nil_left]
                  try simp only [hn]
                  go_wp2_with (fail)
                  exact ⟨rfl, _, rfl, Below.refl _ _, rfl⟩
                · intro xs W hW hn
                  simp [flowNeeds, Region.binds] at hn
                  simp only [flowAct, List.zipWith_cons_cons, List.zipWith_nil_left]
                  try simp only [hn]
                  go_wp2_with (fail)
                  exact ⟨rfl, _, rfl, Below.refl _ _, rfl⟩
                · intro xs W hW hn
                  simp [flowNeeds, Region.binds] at hn
                  simp only [flowAct, List.zipWith_cons_cons, List.zipWith_nil_left]
                  try simp only [hn]
                  go_wp2_with (fail)
                  exact ⟨rfl, _, rfl, Below.refl _ _, rfl⟩
                · intro xs W hW hn
                  obtain ⟨c0, c1, c2, c3, c4, c5⟩ := HCW.out W hW
                  simp [flowNeeds, Region.binds] at hn
                  simp only [flowAct, List.zipWith_cons_cons, List.zipWith_nil_left]
                  try simp only [hn]
                  go_wp2_with (fail)
                  exact ⟨rfl, _, rfl, Below.refl _ _, rfl⟩
                · intro xs W hW hn
                  simp [flowNeeds, Region.binds] at hn
                  simp only [flowAct, List.zipWith_cons_cons, List.zipWith_nil_left]
                  try simp only [hn]
                  go_wp2_with (fail)
                  exact ⟨rfl, _, rfl, Below.refl _ _, by first | rfl | go_num | (simp; done)⟩
                · intro xs W hW hn
                  simp [flowNeeds, Region.binds] at hn
                  simp only [flowAct, List.zipWith_cons_cons, List.zipWith_nil_left]
                  try simp only [hn]
                  go_wp2_with (fail)
                  exact ⟨rfl, _, rfl, Below.refl _ _, rfl⟩
                · intro xs W hW hn
                  simp [flowNeeds, Region.binds] at hn
                  simp only [flowAct, List.zipWith_cons_cons, List.zipWith_nil_left]
                  try simp only [hn]
                  go_wp2_with (fail)
                  exact ⟨rfl, _, rfl, Below.refl _ _, rfl⟩
                · intro xs W hW hn
                  simp [flowNeeds, Region.binds] at hn
                  simp only [flowAct, List.zipWith_cons_cons, List.zipWith_nil_left]
                  try simp only [hn]
                  go_wp2_with (fail)
                  exact ⟨rfl, _, rfl, Below.refl _ _, rfl⟩
                · intro xs W hW hn
                  obtain ⟨c0, c1, c2, c3, c4, c5⟩ := HCW.out W hW
                  simp [flowNeeds, Region.binds] at hn
                  simp only [flowAct, List.zipWith_cons_cons, List.zipWith_nil_left]
                  try simp only [hn]
                  go_wp2_with (fail)
                  exact ⟨rfl, _, rfl, Below.refl _ _, rfl⟩
                · intro xs W hW hn
                  simp [flowNeeds, Region.binds] at hn
                  simp only [flowAct, List.zipWith_cons_cons, List.zipWith_nil_left]
                  try simp only [hn]
                  go_wp2_with (fail)
                  exact ⟨rfl, _, rfl, Below.refl _ _, rfl⟩
                · intro xs W hW hn
                  obtain ⟨c0, c1, c2, c3, c4, c5⟩ := HCW.out W hW
                  simp [flowNeeds, Region.binds] at hn
                  simp only [flowAct, List.zipWith_cons_cons, List.zipWith_nil_left]
                  try simp only [hn]
                  go_wp2_with (fail)
                  exact ⟨rfl, _, rfl, Below.refl _ _, rfl⟩
                · intro xs W hW hn
                  simp [flowNeeds, Region.binds] at hn
                  simp only [flowAct, List.zipWith_cons_cons, List.zipWith_nil_left]
                  try simp only [hn]
                  go_wp2_with (fail)
                  exact ⟨rfl, _, rfl, Below.refl _ _, by first | rfl | go_num | (simp; done)⟩
                · intro xs W hW hn
                  simp [flowNeeds, Region.binds] at hn
                  simp only [flowAct, List.zipWith_cons_cons, List.zipWith_nil_left]
                  try simp only [hn]
                  go_wp2_with (fail)
                  exact ⟨rfl, _, rfl, Below.refl _ _, rfl⟩
                · intro xs W hW hn
                  simp [flowNeeds, Region.binds] at hn
                  simp only [flowAct, List.zipWith_cons_cons, List.zipWith_nil_left]
                  try simp only [hn]
                  go_wp2_with (fail)
                  exact ⟨rfl, _, rfl, Below.refl _ _, by first | rfl | go_num | (simp; done)⟩
                · intro xs W hW hn
                  obtain ⟨c0, c1, c2, c3, c4, c5⟩ := HCW.out W hW
                  simp [flowNeeds, Region.binds] at hn
                  simp only [flowAct, List.zipWith_cons_cons, List.zipWith_nil_left]
                  try simp only [hn]
                  go_wp2_with (fail)
                  exact ⟨rfl, _, rfl, Below.refl _ _, rfl⟩
                · intro xs W hW hn
                  simp [flowNeeds, Region.binds] at hn
                  simp only [flowAct, List.zipWith_cons_cons, List.zipWith_nil_left]
                  try simp only [hn]
                  go_wp2_with (fail)
                  exact ⟨rfl, _, rfl, Below.refl _ _, by first | rfl | go_num | (simp; done)⟩
                · intro xs W hW hn
                  simp [flowNeeds, Region.binds] at hn
                  simp only [flowAct, List.zipWith_cons_cons, List.zipWith_nil_left]
                  try simp only [hn]
                  go_wp2_with (fail)
                  exact ⟨rfl, _, rfl, Below.refl _ _, rfl⟩
                · intro xs W hW hn
                  simp [flowNeeds, Region.binds] at hn
                  simp only [flowAct, List.zipWith_cons_cons, List.zipWith_nil_left]
                  try simp only [hn]
                  go_wp2_with (fail)
                  exact ⟨rfl, _, rfl, Below.refl _ _, rfl⟩
              · intro xs W hW hall
                simp only [flowAll, and_true, Nat.zero_add, Nat.reduceAdd] at hall
                obtain ⟨-, -, -, -, -, -, -, -, -, -, -, -, -, -, -, -, -, -, -, -, -, -, e22⟩ := hall
                simp only [flowAct, List.zipWith_cons_cons, List.zipWith_nil_left]
                simp only [e22]
                go_wp2
                go_ret
                exact ⟨by rw [HRR.out]; rfl, HB1.out.trans (hW.mono HB1.out.size)⟩
            · have HRR := Lib.hid (show r = false by rw [HRR0.out]; simp [hq])
              clear HRR0
              refine wp_region_flow [none, none, some 22, none, none, none, none, none, none, none, none, none, none, none, none, none, none, none, none, none, none, none, none, some 0, some 1, some 2, some 3, some 4, some 5, some 6, some 7, some 8, some 9, some 10, some 11, some 12, some 13, some 14, some 15, some 16, some 17, some 18, some 19, some 20, some 21] (fun i => [undef, undef, undef, undef, undef, undef, undef, undef, undef, undef, undef, undef, undef, undef, undef, undef, undef, undef, undef, undef, undef, undef, .bool false].getD i undef) [(fun v _ => v = .bool true), (fun v _ => v = .bool true), (fun v _ => v = .pointer (some ⟨B, 4, none⟩)), (fun v _ => v = .agg #[.int .i64 a, .int .i64 b]), (fun v _ => v = .bool true), (fun v _ => v = .bool true), (fun v _ => v = .bool true), (fun v _ => v = .pointer (some ⟨B, 1, none⟩)), (fun v _ => v = .int .i64 seq), (fun v _ => v = .bool false), (fun v _ => v = .bool false), (fun v _ => v = .bool false), (fun v _ => v = undef), (fun v _ => v = undef), (fun v _ => v = undef), (fun v _ => v = undef), (fun v _ => v = undef), (fun v _ => v = undef), (fun v _ => v = undef), (fun v _ => v = undef), (fun v _ => v = undef), (fun v _ => v = .bool false), (fun v _ => v = .bool false)] (by kernel_rfl) (by kernel_rfl) rfl rfl rfl ?_ ?_ ?_
              · intro g hg v X Y hX hY hv
                simp only [List.mem_cons, List.not_mem_nil, or_false] at hg
                rcases hg with rfl | rfl | rfl | rfl | rfl | rfl | rfl | rfl | rfl | rfl | rfl | rfl | rfl | rfl | rfl | rfl | rfl | rfl | rfl | rfl | rfl | rfl | rfl
                all_goals first
                  | exact hv
                  | exact hv.kept hY
              · simp only [flowOps, and_true]
                refine ⟨?_, ?_, ?_, ?_, ?_, ?_, ?_, ?_, ?_, ?_, ?_, ?_, ?_, ?_, ?_, ?_, ?_, ?_, ?_, ?_, ?_, ?_, ?_⟩
                · intro xs W hW hn
                  simp only [flowAct, List.zipWith_cons_cons, List.zipWith_nil_left]
                  go_wp2_with (fail)
                  exact ⟨rfl, _, rfl, Below.refl _ _, rfl⟩
                · intro xs W hW hn
                  simp [flowNeeds, Region.binds] at hn
                  simp only [flowAct, List.zipWith_cons_cons, List.zipWith_nil_left]
                  try simp only [hn]
                  go_wp2_with (fail)
                  exact ⟨rfl, _, rfl, Below.refl _ _, rfl⟩
                · intro xs W hW hn
                  simp [flowNeeds, Region.binds] at hn
                  simp only [flowAct, List.zipWith_cons_cons, List.zipWith_nil_left]
                  try simp only [hn]
                  go_wp2_with (fail)
                  exact ⟨rfl, _, rfl, Below.refl _ _, rfl⟩
                · intro xs W hW hn
                  obtain ⟨c0, c1, c2, c3, c4, c5⟩ := HCW.out W hW
                  simp [flowNeeds, Region.binds] at hn
                  simp only [flowAct, List.zipWith_cons_cons, List.zipWith_nil_left]
                  try simp only [hn]
                  go_wp2_with (fail)
                  exact ⟨rfl, _, rfl, Below.refl _ _, rfl⟩
                · intro xs W hW hn
                  simp [flowNeeds, Region.binds] at hn
                  simp only [flowAct, List.zipWith_cons_cons, List.zipWith_nil_left]
                  try simp only [hn]
                  go_wp2_with (go_at_call 62; (with_reducible refine (HVG.out _).mono ?_); rintro e9 w9 ⟨rfl, hb9⟩)
                  exact ⟨rfl, _, rfl, hb9, rfl⟩
                · intro xs W hW hn
                  simp [flowNeeds, Region.binds] at hn
                  simp only [flowAct, List.zipWith_cons_cons, List.zipWith_nil_left]
                  try simp only [hn]
                  go_wp2_with (fail)
                  exact ⟨rfl, _, rfl, Below.refl _ _, rfl⟩
                · intro xs W hW hn
                  simp [flowNeeds, Region.binds] at hn
                  simp only [flowAct, List.zipWith_cons_cons, List.zipWith_nil_left]
                  try simp only [hn]
                  go_wp2_with (fail)
                  exact ⟨rfl, _, rfl, Below.refl _ _, rfl⟩
                · intro xs W hW hn
                  simp [flowNeeds, Region.binds] at hn
                  simp only [flowAct, List.zipWith_cons_cons, List.zipWith_nil_left]
                  try simp only [hn]
                  go_wp2_with (fail)
                  exact ⟨rfl, _, rfl, Below.refl _ _, rfl⟩
                · intro xs W hW hn
                  obtain ⟨c0, c1, c2, c3, c4, c5⟩ := HCW.out W hW
                  simp [flowNeeds, Region.binds] at hn
                  simp only [flowAct, List.zipWith_cons_cons, List.zipWith_nil_left]
                  try simp only [hn]
                  go_wp2_with (fail)
                  exact ⟨rfl, _, rfl, Below.refl _ _, rfl⟩
                · intro xs W hW hn
                  simp [flowNeeds, Region.binds] at hn
                  simp only [flowAct, List.zipWith_cons_cons, List.zipWith_nil_left]
                  try simp only [hn]
                  go_wp2_with (fail)
                  exact ⟨rfl, _, rfl, Below.refl _ _, by first | rfl | go_num | (simp; done)⟩
                · intro xs W hW hn
                  simp [flowNeeds, Region.binds] at hn
                  simp only [flowAct, List.zipWith_cons_cons, List.zipWith_nil_left]
                  try simp only [hn]
                  go_wp2_with (fail)
                  exact ⟨rfl, _, rfl, Below.refl _ _, rfl⟩
                · intro xs W hW hn
                  simp [flowNeeds, Region.binds] at hn
                  simp only [flowAct, List.zipWith_cons_cons, List.zipWith_nil_left]
                  try simp only [hn]
                  go_wp2_with (fail)
                  exact ⟨rfl, _, rfl, Below.refl _ _, rfl⟩
                · intro xs W hW hn
                  simp [flowNeeds, Region.binds] at hn
                  simp only [flowAct, List.zipWith_cons_cons, List.zipWith_nil_left]
                  try simp only [hn]
                  go_wp2_with (fail)
                  exact ⟨rfl, _, rfl, Below.refl _ _, rfl⟩
                · intro xs W hW hn
                  simp [flowNeeds, Region.binds] at hn
                  simp only [flowAct, List.zipWith_cons_cons, List.zipWith_nil_left]
                  try simp only [hn]
                  go_wp2_with (fail)
                  exact ⟨rfl, _, rfl, Below.refl _ _, rfl⟩
                · intro xs W hW hn
                  simp [flowNeeds, Region.binds] at hn
                  simp only [flowAct, List.zipWith_cons_cons, List.zipWith_nil_left]
                  try simp only [hn]
                  go_wp2_with (fail)
                  exact ⟨rfl, _, rfl, Below.refl _ _, rfl⟩
                · intro xs W hW hn
                  simp [flowNeeds, Region.binds] at hn
                  simp only [flowAct, List.zipWith_cons_cons, List.zipWith_nil_left]
                  try simp only [hn]
                  go_wp2_with (fail)
                  exact ⟨rfl, _, rfl, Below.refl _ _, rfl⟩
                · intro xs W hW hn
                  simp [flowNeeds, Region.binds] at hn
                  simp only [flowAct, List.zipWith_cons_cons, List.zipWith_nil_left]
                  try simp only [hn]
                  go_wp2_with (fail)
                  exact ⟨rfl, _, rfl, Below.refl _ _, rfl⟩
                · intro xs W hW hn
                  simp [flowNeeds, Region.binds] at hn
                  simp only [flowAct, List.zipWith_cons_cons, List.zipWith_nil_left]
                  try simp only [hn]
                  go_wp2_with (fail)
                  exact ⟨rfl, _, rfl, Below.refl _ _, rfl⟩
                · intro xs W hW hn
                  simp [flowNeeds, Region.binds] at hn
                  simp only [flowAct, List.zipWith_cons_cons, List.zipWith_nil_left]
                  try simp only [hn]
                  go_wp2_with (fail)
                  exact ⟨rfl, _, rfl, Below.refl _ _, rfl⟩
                · intro xs W hW hn
                  simp [flowNeeds, Region.binds] at hn
                  simp only [flowAct, List.zipWith_cons_cons, List.zipWith_nil_left]
                  try simp only [hn]
                  go_wp2_with (fail)
                  exact ⟨rfl, _, rfl, Below.refl _ _, rfl⟩
                · intro xs W hW hn
                  simp [flowNeeds, Region.binds] at hn
                  simp only [flowAct, List.zipWith_cons_cons, List.zipWith_nil_left]
                  try simp only [hn]
                  go_wp2_with (fail)
                  exact ⟨rfl, _, rfl, Below.refl _ _, rfl⟩
                · intro xs W hW hn
                  simp [flowNeeds, Region.binds] at hn
                  simp only [flowAct, List.zipWith_cons_cons, List.zipWith_nil_left]
                  try simp only [hn]
                  go_wp2_with (fail)
                  exact ⟨rfl, _, rfl, Below.refl _ _, rfl⟩
                · intro xs W hW hn
                  simp [flowNeeds, Region.binds] at hn
                  simp only [flowAct, List.zipWith_cons_cons, List.zipWith_nil_left]
                  try simp only [hn]
                  go_wp2_with (fail)
                  exact ⟨rfl, _, rfl, Below.refl _ _, rfl⟩
              · intro xs W hW hall
                simp only [flowAll, and_true, Nat.zero_add, Nat.reduceAdd] at hall
                obtain ⟨-, -, -, -, -, -, -, -, -, -, -, -, -, -, -, -, -, -, -, -, -, -, e22⟩ := hall
                simp only [flowAct, List.zipWith_cons_cons, List.zipWith_nil_left]
                simp only [e22]
                go_wp2
                go_ret
                exact ⟨by rw [HRR.out]; rfl, HB1.out.trans (hW.mono HB1.out.size)⟩
        · have hsb : (s == 2) = false := by simpa using hss
          have HRR := Lib.hid (show r = false by rw [HRR0.out, hsb]; rfl)
          clear HRR0
          go_enter Tryd.func34, Tryd.ntmps34
          go_upto_region 4 with (go_at_call 65; (with_reducible refine (HSG.out _).mono ?_); rintro e9 w2 ⟨rfl, hb2⟩; obtain ⟨c0, c1, c2, c3, c4, c5⟩ := HC0.out w2 hb2)
          have HB1 := Lib.hid (HB0.out.trans (hb2.mono HB0.out.size))
          have HCW := Lib.hid (fun W (h : Below w2.heap.size w2 W) => HC0.out W (hb2.trans (h.mono hb2.size)))
          clear hb2 HB0 HC0 HSG c0 c1 c2 c3 c4 c5
          obtain ⟨B, hB⟩ : ∃ z, w.heap.size = z := ⟨_, rfl⟩
          simp only [hB] at HCW ⊢
          have HBe := Lib.hid hB
          clear hB
          refine wp_region_flow [none, none, some 22, none, none, none, none, none, none, none, none, none, none, none, none, none, none, none, none, none, none, none, none, some 0, some 1, some 2, some 3, some 4, some 5, some 6, some 7, some 8, some 9, some 10, some 11, some 12, some 13, some 14, some 15, some 16, some 17, some 18, some 19, some 20, some 21] (fun i => [undef, undef, undef, undef, undef, undef, undef, undef, undef, undef, undef, undef, undef, undef, undef, undef, undef, undef, undef, undef, undef, undef, .bool false].getD i undef) [(fun v _ => v = .bool false), (fun v _ => v = .bool false), (fun v _ => v = undef), (fun v _ => v = undef), (fun v _ => v = undef), (fun v _ => v = .bool false), (fun v _ => v = .bool false), (fun v _ => v = undef), (fun v _ => v = undef), (fun v _ => v = undef), (fun v _ => v = .bool false), (fun v _ => v = .bool false), (fun v _ => v = undef), (fun v _ => v = undef), (fun v _ => v = undef), (fun v _ => v = undef), (fun v _ => v = undef), (fun v _ => v = undef), (fun v _ => v = undef), (fun v _ => v = undef), (fun v _ => v = undef), (fun v _ => v = .bool false), (fun v _ => v = .bool false)] (by kernel_rfl) (by kernel_rfl) rfl rfl rfl ?_ ?_ ?_
          · intro g hg v X Y hX hY hv
            simp only [List.mem_cons, List.not_mem_nil, or_false] at hg
            rcases hg with rfl | rfl | rfl | rfl | rfl | rfl | rfl | rfl | rfl | rfl | rfl | rfl | rfl | rfl | rfl | rfl | rfl | rfl | rfl | rfl | rfl | rfl | rfl
            all_goals first
              | exact hv
              | exact hv.kept hY
          · simp only [flowOps, and_true]
            refine ⟨?_, ?_, ?_, ?_, ?_, ?_, ?_, ?_, ?_, ?_, ?_, ?_, ?_, ?_, ?_, ?_, ?_, ?_, ?_, ?_, ?_, ?_, ?_⟩
            · intro xs W hW hn
              simp only [flowAct, List.zipWith_cons_cons, List.zipWith_nil_left]
              go_wp2_with (fail)
              exact ⟨rfl, _, rfl, Below.refl _ _, rfl⟩
            · intro xs W hW hn
              simp [flowNeeds, Region.binds] at hn
              simp only [flowAct, List.zipWith_cons_cons, List.zipWith_nil_left]
              try simp only [hn]
              go_wp2_with (fail)
              exact ⟨rfl, _, rfl, Below.refl _ _, rfl⟩
            · intro xs W hW hn
              simp [flowNeeds, Region.binds] at hn
              simp only [flowAct, List.zipWith_cons_cons, List.zipWith_nil_left]
              try simp only [hn]
              go_wp2_with (fail)
              exact ⟨rfl, _, rfl, Below.refl _ _, rfl⟩
            · intro xs W hW hn
              simp [flowNeeds, Region.binds] at hn
              simp only [flowAct, List.zipWith_cons_cons, List.zipWith_nil_left]
              try simp only [hn]
              go_wp2_with (fail)
              exact ⟨rfl, _, rfl, Below.refl _ _, rfl⟩
            · intro xs W hW hn
              simp [flowNeeds, Region.binds] at hn
              simp only [flowAct, List.zipWith_cons_cons, List.zipWith_nil_left]
              try simp only [hn]
              go_wp2_with (fail)
              exact ⟨rfl, _, rfl, Below.refl _ _, rfl⟩
            · intro xs W hW hn
              simp [flowNeeds, Region.binds] at hn
              simp only [flowAct, List.zipWith_cons_cons, List.zipWith_nil_left]
              try simp only [hn]
              go_wp2_with (fail)
              exact ⟨rfl, _, rfl, Below.refl _ _, rfl⟩
            · intro xs W hW hn
              simp [flowNeeds, Region.binds] at hn
              simp only [flowAct, List.zipWith_cons_cons, List.zipWith_nil_left]
              try simp only [hn]
              go_wp2_with (fail)
              exact ⟨rfl, _, rfl, Below.refl _ _, rfl⟩
            · intro xs W hW hn
              simp [flowNeeds, Region.binds] at hn
              simp only [flowAct, List.zipWith_cons_cons, List.zipWith_nil_left]
              try simp only [hn]
              go_wp2_with (fail)
              exact ⟨rfl, _, rfl, Below.refl _ _, rfl⟩
            · intro xs W hW hn
              simp [flowNeeds, Region.binds] at hn
              simp only [flowAct, List.zipWith_cons_cons, List.zipWith_nil_left]
              try simp only [hn]
              go_wp2_with (fail)
              exact ⟨rfl, _, rfl, Below.refl _ _, rfl⟩
            · intro xs W hW hn
              simp [flowNeeds, Region.binds] at hn
              simp only [flowAct, List.zipWith_cons_cons, List.zipWith_nil_left]
              try simp only [hn]
              go_wp2_with (fail)
              exact ⟨rfl, _, rfl, Below.refl _ _, rfl⟩
            · intro xs W hW hn
              simp [flowNeeds, Region.binds] at hn
              simp only [flowAct, List.zipWith_cons_cons, List.zipWith_nil_left]
              try simp only [hn]
              go_wp2_with (fail)
              exact ⟨rfl, _, rfl, Below.refl _ _, rfl⟩
            · intro xs W hW hn
              simp [flowNeeds, Region.binds] at hn
              simp only [flowAct, List.zipWith_cons_cons, List.zipWith_nil_left]
              try simp only [hn]
              go_wp2_with (fail)
              exact ⟨rfl, _, rfl, Below.refl _ _, rfl⟩
            · intro xs W hW hn
              simp [flowNeeds, Region.binds] at hn
              simp only [flowAct, List.zipWith_cons_cons, List.zipWith_nil_left]
              try simp only [hn]
              go_wp2_with (fail)
              exact ⟨rfl, _, rfl, Below.refl _ _, rfl⟩
            · intro xs W hW hn
              simp [flowNeeds, Region.binds] at hn
              simp only [flowAct, List.zipWith_cons_cons, List.zipWith_nil_left]
              try simp only [hn]
              go_wp2_with (fail)
              exact ⟨rfl, _, rfl, Below.refl _ _, rfl⟩
            · intro xs W hW hn
              simp [flowNeeds, Region.binds] at hn
              simp only [flowAct, List.zipWith_cons_cons, List.zipWith_nil_left]
              try simp only [hn]
              go_wp2_with (fail)
              exact ⟨rfl, _, rfl, Below.refl _ _, rfl⟩
            · intro xs W hW hn
              simp [flowNeeds, Region.binds] at hn
              simp only [flowAct, List.zipWith_cons_cons, List.zipWith_nil_left]
              try simp only [hn]
              go_wp2_with (fail)
              exact ⟨rfl, _, rfl, Below.refl _ _, rfl⟩
            · intro xs W hW hn
              simp [flowNeeds, Region.binds] at hn
              simp only [flowAct, List.zipWith_cons_cons, List.zipWith_nil_left]
              try simp only [hn]
              go_wp2_with (fail)
              exact ⟨rfl, _, rfl, Below.refl _ _, rfl⟩
            · intro xs W hW hn
              simp [flowNeeds, Region.binds] at hn
              simp only [flowAct, List.zipWith_cons_cons, List.zipWith_nil_left]
              try simp only [hn]
              go_wp2_with (fail)
              exact ⟨rfl, _, rfl, Below.refl _ _, rfl⟩
            · intro xs W hW hn
              simp [flowNeeds, Region.binds] at hn
              simp only [flowAct, List.zipWith_cons_cons, List.zipWith_nil_left]
              try simp only [hn]
              go_wp2_with (fail)
              exact ⟨rfl, _, rfl, Below.refl _ _, rfl⟩
            · intro xs W hW hn
              simp [flowNeeds, Region.binds] at hn
              simp only [flowAct, List.zipWith_cons_cons, List.zipWith_nil_left]
              try simp only [hn]
              go_wp2_with (fail)
              exact ⟨rfl, _, rfl, Below.refl _ _, rfl⟩
            · intro xs W hW hn
              simp [flowNeeds, Region.binds] at hn
              simp only [flowAct, List.zipWith_cons_cons, List.zipWith_nil_left]
              try simp only [hn]
              go_wp2_with (fail)
              exact ⟨rfl, _, rfl, Below.refl _ _, rfl⟩
            · intro xs W hW hn
              simp [flowNeeds, Region.binds] at hn
              simp only [flowAct, List.zipWith_cons_cons, List.zipWith_nil_left]
              try simp only [hn]
              go_wp2_with (fail)
              exact ⟨rfl, _, rfl, Below.refl _ _, rfl⟩
            · intro xs W hW hn
              simp [flowNeeds, Region.binds] at hn
              simp only [flowAct, List.zipWith_cons_cons, List.zipWith_nil_left]
              try simp only [hn]
              go_wp2_with (fail)
              exact ⟨rfl, _, rfl, Below.refl _ _, rfl⟩
          · intro xs W hW hall
            simp only [flowAll, and_true, Nat.zero_add, Nat.reduceAdd] at hall
            obtain ⟨-, -, -, -, -, -, -, -, -, -, -, -, -, -, -, -, -, -, -, -, -, -, e22⟩ := hall
            simp only [flowAct, List.zipWith_cons_cons, List.zipWith_nil_left]
            simp only [e22]
            go_wp2
            go_ret
            exact ⟨by rw [HRR.out]; rfl, HB1.out.trans (hW.mono HB1.out.size)⟩
    · have e1 : (site == 1) = false := by simpa using h1
      have e2 : (site == 2) = false := by simpa using h2
      have HRR := Lib.hid (show goodHeadS site seq n s a b = false by simp [goodHeadS, e1, e2])
      clear e1 e2
      have e1 : (site != 1) = true := by simpa using h1
      have e2 : (site != 2) = true := by simpa using h2
      clear h1 h2
      go_enter Tryd.func34, Tryd.ntmps34
      go_wp2
      go_ret
      exact ⟨by rw [HRR.out]; rfl, HB0.out⟩
set_option maxHeartbeats 12800000 in
theorem goodwrites_c {w : World} {x2 : Option Addr} {m cap2 : Nat} {l : List Wr} (n1 : Nat) (hl : Wrs w x2 m cap2 l) (hx : WShort l) : Calls Tryd.prog 35 #[.int .i64 (n1 : Int), .slice x2 m cap2] w (Tells (.bool (gwsS n1 l)) w) := by
  have hll := hl.len
  have hle2 := hl.le
  have hmax2 := hl.max
  have H2 := Lib.hid (fun (k : Nat) => @gws_no n1 l k)
  have H3 := Lib.hid (@gws_yes n1 l)
  have H4 := Lib.hid (show ¬ (1 ≤ l.length ∧ l.length ≤ 8) → gwsS n1 l = false from fun h => by
    unfold gwsS
    by_cases h1 : 1 ≤ l.length
    · have h8 : ¬ l.length ≤ 8 := fun h8 => h ⟨h1, h8⟩
      simp [h8]
    · simp [h1])
  have HL := Lib.hid hl
  have HXS := Lib.hid hx
  obtain ⟨R, hR⟩ : ∃ z, gwsS n1 l = z := ⟨_, rfl⟩
  rw [hR, hll] at H3 H4
  rw [hR] at H2 ⊢
  rw [hll] at H2
  clear hR hl hx
  by_cases h1 : m < 1
  · have h1i : (m : Int) < 1 := by omega
    have HRR := Lib.hid (H4.out (by omega))
    clear H2 H3 H4
    go_enter Tryd.func35, Tryd.ntmps35
    go_wp2
    go_ret
    exact ⟨by rw [HRR.out]; rfl, Below.refl _ _⟩
  · have h1i : ¬ (m : Int) < 1 := by omega
    by_cases h8 : 8 < m
    · have h8i : (8 : Int) < (m : Int) := by omega
      have HRR := Lib.hid (H4.out (by omega))
      clear H2 H3 H4
      go_enter Tryd.func35, Tryd.ntmps35
      go_wp2
      go_ret
      exact ⟨by rw [HRR.out]; rfl, Below.refl _ _⟩
    · have h8i : ¬ (8 : Int) < (m : Int) := by omega
      have H3b := Lib.hid (H3.out (by omega) (by omega))
      clear H4 H3
      go_enter Tryd.func35, Tryd.ntmps35
      go_wp2
      clear h1i h8i
      go_loopw [17] (fun i wr => ∃ k : Nat, k ≤ m ∧ i = .int .i64 (k : Int) ∧ (∀ j, j < k → wAt n1 l j = true) ∧ Below w.heap.size w wr) (fun i _ => m - (intOf i).toNat)
      case atStart => exact ⟨0, by omega, rfl, fun j hj => by omega, Below.refl _ _⟩
      case round =>
        obtain ⟨k, hk, rfl, ha, hB⟩ := hrel
        have HA := Lib.hid ha
        have HBr := Lib.hid hB
        clear ha hB
        by_cases hlt : k < m
        · have hki : (k : Int) < (m : Int) := by omega
          have hkc : (k : Int) < (cap2 : Int) := by omega
          obtain ⟨bk, off, rfl, hat⟩ := HL.out.place hlt
          have hxs := HXS.out _ (wr_mem (k := k) (by rw [hll]; exact hlt))
          have hwa : wAt n1 l k = (mayS n1 (l.getD k Wr.zero) && (decide (k = 0) || aheadS (l.getD (k - 1) Wr.zero) (l.getD k Wr.zero))) := rfl
          have HWA := Lib.hid hwa
          have HPL := Lib.hid (fun (j : Nat) (hj : j < m) => HL.out.place hj)
          obtain ⟨y, hy⟩ : ∃ y, l.getD k Wr.zero = y := ⟨_, rfl⟩
          rw [hy] at hat hxs HWA
          obtain ⟨kx, ix, gx, vx⟩ := y
          simp only at hat hxs
          have hwc := fun W => cgoodwrite_c n1 kx ix gx vx hxs.1 hxs.2 W
          obtain ⟨q, hq⟩ : ∃ z, mayS n1 ⟨kx, ix, gx, vx⟩ = z := ⟨_, rfl⟩
          rw [hq] at HWA
          simp only [hq] at hwc
          have HWC := Lib.hid hwc
          obtain ⟨p0, p1, p2, p3⟩ := hat wr HBr.out
          have HY := Lib.hid hy
          clear hat hxs hwa hwc hq hy
          go_upto_region 6 with (fail)
          clear p0 p1 p2 p3
          have hb6 := alloc_below wr (.cells #[.string (text kx), .int .i64 ix, .bool gx, .string (text vx)] 31)
          have hp6 := heap_alloc_new wr (.cells #[.string (text kx), .int .i64 ix, .bool gx, .string (text vx)] 31)
          have HB2 := Lib.hid (HBr.out.trans (hb6.mono HBr.out.size))
          obtain ⟨B, hB⟩ : ∃ z, wr.heap.size = z := ⟨_, rfl⟩
          rw [hB] at hp6 ⊢
          clear hB hb6 HBr
          generalize wr.alloc (.cells #[.string (text kx), .int .i64 ix, .bool gx, .string (text vx)] 31) = W6 at *
          have HPB := Lib.hid (fun W (h : Below W6.heap.size W6 W) => wr_cells (heap_below hp6 h))
          clear hp6
          cases q with
          | false =>
            have HRR := Lib.hid (H2.out k hlt (by rw [HWA.out]; rfl))
            clear HWA
            refine wp_region_flow [none, none, none, none, none, none, none, none, none, none, none, none, none, none, none, none, none, none, none, none, none, none, some 0, some 1, some 2, some 3, some 4, some 5, some 6, some 7, some 8, some 9, some 10, some 11, some 12, some 13, some 14, some 15, some 16, some 17, none] (fun i => [u22, u23, u24, u25, u26, u27, u28, u29, u30, u31, u32, u33, u34, u35, u36, u37, u38, u39].getD i undef) [(fun v _ => v = .int .i64 (n1 : Int)), (fun v _ => v = .agg #[.string (text kx), .int .i64 ix, .bool gx, .string (text vx)]), (fun v _ => v = .bool false), (fun v _ => v = .bool true), (fun v _ => v = .bool true), (fun v _ => v = undef), (fun v _ => v = undef), (fun v _ => v = undef), (fun v _ => v = undef), (fun v _ => v = undef), (fun v _ => v = undef), (fun v _ => v = undef), (fun v _ => v = undef), (fun v _ => v = undef), (fun v _ => v = undef), (fun v _ => v = undef), (fun v _ => v = undef), (fun v _ => v = .bool true)] (by kernel_rfl) (by kernel_rfl) rfl rfl rfl ?_ ?_ ?_
            · intro g hg v X Y hX hY hv
              simp only [List.mem_cons, List.not_mem_nil, or_false] at hg
              rcases hg with rfl | rfl | rfl | rfl | rfl | rfl | rfl | rfl | rfl | rfl | rfl | rfl | rfl | rfl | rfl | rfl | rfl | rfl
              all_goals first
                | exact hv
                | exact hv.kept hY
            · simp only [flowOps, and_true]
              refine ⟨?_, ?_, ?_, ?_, ?_, ?_, ?_, ?_, ?_, ?_, ?_, ?_, ?_, ?_, ?_, ?_, ?_, ?_⟩
              · intro xs W hW hn
                simp only [flowAct, List.zipWith_cons_cons, List.zipWith_nil_left]
                go_wp2_with (fail)
                exact ⟨rfl, _, rfl, Below.refl _ _, rfl⟩
              · intro xs W hW hn
                obtain ⟨p0, p1, p2, p3⟩ := HPB.out W hW
                simp only [flowAct, List.zipWith_cons_cons, List.zipWith_nil_left]
                go_wp2_with (fail)
                exact ⟨rfl, _, rfl, Below.refl _ _, rfl⟩
              · intro xs W hW hn
                simp [flowNeeds, Region.binds] at hn
                simp only [flowAct, List.zipWith_cons_cons, List.zipWith_nil_left]
                try simp only [hn]
                go_wp2_with (go_at_call 66; (with_reducible refine (HWC.out _).mono ?_); rintro e9 w9 ⟨rfl, hb9⟩)
                exact ⟨rfl, _, rfl, hb9, rfl⟩
              · intro xs W hW hn
                simp [flowNeeds, Region.binds] at hn
                simp only [flowAct, List.zipWith_cons_cons, List.zipWith_nil_left]
                try simp only [hn]
                go_wp2_with (fail)
                exact ⟨rfl, _, rfl, Below.refl _ _, rfl⟩
              · intro xs W hW hn
                simp [flowNeeds, Region.binds] at hn
                simp only [flowAct, List.zipWith_cons_cons, List.zipWith_nil_left]
                try simp only [hn]
                go_wp2_with (fail)
                exact ⟨rfl, _, rfl, Below.refl _ _, rfl⟩
              · intro xs W hW hn
                simp [flowNeeds, Region.binds] at hn
                simp only [flowAct, List.zipWith_cons_cons, List.zipWith_nil_left]
                try simp only [hn]
                go_wp2_with (fail)
                exact ⟨rfl, _, rfl, Below.refl _ _, rfl⟩
              · intro xs W hW hn
                simp [flowNeeds, Region.binds] at hn
                simp only [flowAct, List.zipWith_cons_cons, List.zipWith_nil_left]
                try simp only [hn]
                go_wp2_with (fail)
                exact ⟨rfl, _, rfl, Below.refl _ _, rfl⟩
              · intro xs W hW hn
                simp [flowNeeds, Region.binds] at hn
                simp only [flowAct, List.zipWith_cons_cons, List.zipWith_nil_left]
                try simp only [hn]
                go_wp2_with (fail)
                exact ⟨rfl, _, rfl, Below.refl _ _, rfl⟩
              · intro xs W hW hn
                simp [flowNeeds, Region.binds] at hn
                simp only [flowAct, List.zipWith_cons_cons, List.zipWith_nil_left]
                try simp only [hn]
                go_wp2_with (fail)
                exact ⟨rfl, _, rfl, Below.refl _ _, rfl⟩
              · intro xs W hW hn
                simp [flowNeeds, Region.binds] at hn
                simp only [flowAct, List.zipWith_cons_cons, List.zipWith_nil_left]
                try simp only [hn]
                go_wp2_with (fail)
                exact ⟨rfl, _, rfl, Below.refl _ _, rfl⟩
              · intro xs W hW hn
                simp [flowNeeds, Region.binds] at hn
                simp only [flowAct, List.zipWith_cons_cons, List.zipWith_nil_left]
                try simp only [hn]
                go_wp2_with (fail)
                exact ⟨rfl, _, rfl, Below.refl _ _, rfl⟩
              · intro xs W hW hn
                simp [flowNeeds, Region.binds] at hn
                simp only [flowAct, List.zipWith_cons_cons, List.zipWith_nil_left]
                try simp only [hn]
                go_wp2_with (fail)
                exact ⟨rfl, _, rfl, Below.refl _ _, rfl⟩
              · intro xs W hW hn
                simp [flowNeeds, Region.binds] at hn
                simp only [flowAct, List.zipWith_cons_cons, List.zipWith_nil_left]
                try simp only [hn]
                go_wp2_with (fail)
                exact ⟨rfl, _, rfl, Below.refl _ _, rfl⟩
              · intro xs W hW hn
                simp [flowNeeds, Region.binds] at hn
                simp only [flowAct, List.zipWith_cons_cons, List.zipWith_nil_left]
                try simp only [hn]
                go_wp2_with (fail)
                exact ⟨rfl, _, rfl, Below.refl _ _, rfl⟩
              · intro xs W hW hn
                simp [flowNeeds, Region.binds] at hn
                simp only [flowAct, List.zipWith_cons_cons, List.zipWith_nil_left]
                try simp only [hn]
                go_wp2_with (fail)
                exact ⟨rfl, _, rfl, Below.refl _ _, rfl⟩
              · intro xs W hW hn
                simp [flowNeeds, Region.binds] at hn
                simp only [flowAct, List.zipWith_cons_cons, List.zipWith_nil_left]
                try simp only [hn]
                go_wp2_with (fail)
                exact ⟨rfl, _, rfl, Below.refl _ _, rfl⟩
              · intro xs W hW hn
                simp [flowNeeds, Region.binds] at hn
                simp only [flowAct, List.zipWith_cons_cons, List.zipWith_nil_left]
                try simp only [hn]
                go_wp2_with (fail)
                exact ⟨rfl, _, rfl, Below.refl _ _, rfl⟩
              · intro xs W hW hn
                simp [flowNeeds, Region.binds] at hn
                simp only [flowAct, List.zipWith_cons_cons, List.zipWith_nil_left]
                try simp only [hn]
                go_wp2_with (fail)
                exact ⟨rfl, _, rfl, Below.refl _ _, rfl⟩
            · intro xs W hW hall
              simp only [flowAll, and_true, Nat.zero_add, Nat.reduceAdd] at hall
              obtain ⟨-, -, -, -, -, -, -, -, -, -, -, -, -, -, -, -, -, e17⟩ := hall
              simp only [flowAct, List.zipWith_cons_cons, List.zipWith_nil_left]
              simp only [e17]
              go_wp2
              go_ret
              exact ⟨by rw [HRR.out]; rfl, HB2.out.trans (hW.mono HB2.out.size)⟩
          | true =>
            by_cases hk0 : k = 0
            · subst hk0
              have HAN := Lib.hid (show ∀ j, j < 0 + 1 → wAt n1 l j = true from fun j hj => by
                obtain rfl : j = 0 := by omega
                rw [HWA.out]; rfl)
              clear HWA
              refine wp_region_flow [none, none, none, none, none, none, none, none, none, none, none, none, none, none, none, none, none, none, none, none, none, none, some 0, some 1, some 2, some 3, some 4, some 5, some 6, some 7, some 8, some 9, some 10, some 11, some 12, some 13, some 14, some 15, some 16, some 17, none] (fun i => [u22, u23, u24, u25, u26, u27, u28, u29, u30, u31, u32, u33, u34, u35, u36, u37, u38, u39].getD i undef) [(fun v _ => v = .int .i64 (n1 : Int)), (fun v _ => v = .agg #[.string (text kx), .int .i64 ix, .bool gx, .string (text vx)]), (fun v _ => v = .bool true), (fun v _ => v = .bool false), (fun v _ => v = .bool false), (fun v _ => v = .int .i64 0), (fun v _ => v = .bool false), (fun v _ => v = .bool false), (fun v _ => v = undef), (fun v _ => v = undef), (fun v _ => v = undef), (fun v _ => v = undef), (fun v _ => v = undef), (fun v _ => v = undef), (fun v _ => v = undef), (fun v _ => v = undef), (fun v _ => v = .bool false), (fun v _ => v = .bool false)] (by kernel_rfl) (by kernel_rfl) rfl rfl rfl ?_ ?_ ?_
              · intro g hg v X Y hX hY hv
                simp only [List.mem_cons, List.not_mem_nil, or_false] at hg
                rcases hg with rfl | rfl | rfl | rfl | rfl | rfl | rfl | rfl | rfl | rfl | rfl | rfl | rfl | rfl | rfl | rfl | rfl | rfl
                all_goals first
                  | exact hv
                  | exact hv.kept hY
              · simp only [flowOps, and_true]
                refine ⟨?_, ?_, ?_, ?_, ?_, ?_, ?_, ?_, ?_, ?_, ?_, ?_, ?_, ?_, ?_, ?_, ?_, ?_⟩
                · intro xs W hW hn
                  simp only [flowAct, List.zipWith_cons_cons, List.zipWith_nil_left]
                  go_wp2_with (fail)
                  exact ⟨rfl, _, rfl, Below.refl _ _, rfl⟩
                · intro xs W hW hn
                  obtain ⟨p0, p1, p2, p3⟩ := HPB.out W hW
                  simp only [flowAct, List.zipWith_cons_cons, List.zipWith_nil_left]
                  go_wp2_with (fail)
                  exact ⟨rfl, _, rfl, Below.refl _ _, rfl⟩
                · intro xs W hW hn
                  simp [flowNeeds, Region.binds] at hn
                  simp only [flowAct, List.zipWith_cons_cons, List.zipWith_nil_left]
                  try simp only [hn]
                  go_wp2_with (go_at_call 66; (with_reducible refine (HWC.out _).mono ?_); rintro e9 w9 ⟨rfl, hb9⟩)
                  exact ⟨rfl, _, rfl, hb9, rfl⟩
                · intro xs W hW hn
                  simp [flowNeeds, Region.binds] at hn
                  simp only [flowAct, List.zipWith_cons_cons, List.zipWith_nil_left]
                  try simp only [hn]
                  go_wp2_with (fail)
                  exact ⟨rfl, _, rfl, Below.refl _ _, rfl⟩
                · intro xs W hW hn
                  simp [flowNeeds, Region.binds] at hn
                  simp only [flowAct, List.zipWith_cons_cons, List.zipWith_nil_left]
                  try simp only [hn]
                  go_wp2_with (fail)
                  exact ⟨rfl, _, rfl, Below.refl _ _, rfl⟩
                · intro xs W hW hn
                  simp [flowNeeds, Region.binds] at hn
                  simp only [flowAct, List.zipWith_cons_cons, List.zipWith_nil_left]
                  try simp only [hn]
                  go_wp2_with (fail)
                  exact ⟨rfl, _, rfl, Below.refl _ _, rfl⟩
                · intro xs W hW hn
                  simp [flowNeeds, Region.binds] at hn
                  simp only [flowAct, List.zipWith_cons_cons, List.zipWith_nil_left]
                  try simp only [hn]
                  go_wp2_with (fail)
                  exact ⟨rfl, _, rfl, Below.refl _ _, rfl⟩
                · intro xs W hW hn
                  simp [flowNeeds, Region.binds] at hn
                  simp only [flowAct, List.zipWith_cons_cons, List.zipWith_nil_left]
                  try simp only [hn]
                  go_wp2_with (fail)
                  exact ⟨rfl, _, rfl, Below.refl _ _, rfl⟩
                · intro xs W hW hn
                  simp [flowNeeds, Region.binds] at hn
                  simp only [flowAct, List.zipWith_cons_cons, List.zipWith_nil_left]
                  try simp only [hn]
                  go_wp2_with (fail)
                  exact ⟨rfl, _, rfl, Below.refl _ _, rfl⟩
                · intro xs W hW hn
                  simp [flowNeeds, Region.binds] at hn
                  simp only [flowAct, List.zipWith_cons_cons, List.zipWith_nil_left]
                  try simp only [hn]
                  go_wp2_with (fail)
                  exact ⟨rfl, _, rfl, Below.refl _ _, rfl⟩
                · intro xs W hW hn
                  simp [flowNeeds, Region.binds] at hn
                  simp only [flowAct, List.zipWith_cons_cons, List.zipWith_nil_left]
                  try simp only [hn]
                  go_wp2_with (fail)
                  exact ⟨rfl, _, rfl, Below.refl _ _, rfl⟩
                · intro xs W hW hn
                  simp [flowNeeds, Region.binds] at hn
                  simp only [flowAct, List.zipWith_cons_cons, List.zipWith_nil_left]
                  try simp only [hn]
                  go_wp2_with (fail)
                  exact ⟨rfl, _, rfl, Below.refl _ _, rfl⟩
                · intro xs W hW hn
                  simp [flowNeeds, Region.binds] at hn
                  simp only [flowAct, List.zipWith_cons_cons, List.zipWith_nil_left]
                  try simp only [hn]
                  go_wp2_with (fail)
                  exact ⟨rfl, _, rfl, Below.refl _ _, rfl⟩
                · intro xs W hW hn
                  simp [flowNeeds, Region.binds] at hn
                  simp only [flowAct, List.zipWith_cons_cons, List.zipWith_nil_left]
                  try simp only [hn]
                  go_wp2_with (fail)
                  exact ⟨rfl, _, rfl, Below.refl _ _, rfl⟩
                · intro xs W hW hn
                  simp [flowNeeds, Region.binds] at hn
                  simp only [flowAct, List.zipWith_cons_cons, List.zipWith_nil_left]
                  try simp only [hn]
                  go_wp2_with (fail)
                  exact ⟨rfl, _, rfl, Below.refl _ _, rfl⟩
                · intro xs W hW hn
                  simp [flowNeeds, Region.binds] at hn
                  simp only [flowAct, List.zipWith_cons_cons, List.zipWith_nil_left]
                  try simp only [hn]
                  go_wp2_with (fail)
                  exact ⟨rfl, _, rfl, Below.refl _ _, rfl⟩
                · intro xs W hW hn
                  simp [flowNeeds, Region.binds] at hn
                  simp only [flowAct, List.zipWith_cons_cons, List.zipWith_nil_left]
                  try simp only [hn]
                  go_wp2_with (fail)
                  exact ⟨rfl, _, rfl, Below.refl _ _, rfl⟩
                · intro xs W hW hn
                  simp [flowNeeds, Region.binds] at hn
                  simp only [flowAct, List.zipWith_cons_cons, List.zipWith_nil_left]
                  try simp only [hn]
                  go_wp2_with (fail)
                  exact ⟨rfl, _, rfl, Below.refl _ _, rfl⟩
              · intro xs W hW hall
                simp only [flowAll, and_true, Nat.zero_add, Nat.reduceAdd] at hall
                obtain ⟨-, -, -, -, -, -, -, -, -, -, -, -, -, -, -, -, -, e17⟩ := hall
                simp only [flowAct, List.zipWith_cons_cons, List.zipWith_nil_left]
                simp only [e17]
                go_wp2
                go_roundw
                case rel => exact ⟨0 + 1, by omega, by go_num, HAN.out, HB2.out.trans (hW.mono HB2.out.size)⟩
                case measure => simp [intOf]; omega
            · obtain ⟨j, rfl⟩ : ∃ j, k = j + 1 := ⟨k - 1, by omega⟩
              clear hk0
              obtain ⟨bk', off', eab, hat'⟩ := HPL.out j (by omega)
              injection eab with eab
              injection eab with e1 e2 e3
              subst e1 e2
              clear e3
              have hord := ord_geq (l.getD j Wr.zero) ⟨kx, ix, gx, vx⟩
              have HWA2 := Lib.hid (show wAt n1 l (j + 1) = aheadS (l.getD j Wr.zero) ⟨kx, ix, gx, vx⟩ by
                rw [HWA.out]
                simp)
              clear HWA
              obtain ⟨z, hz⟩ : ∃ z, l.getD j Wr.zero = z := ⟨_, rfl⟩
              rw [hz] at hat' hord HWA2
              obtain ⟨ky, iy, gy, vy⟩ := z
              simp only at hat'
              have HQW := Lib.hid (fun W (h : Below W6.heap.size W6 W) => hat' W (HB2.out.trans (h.mono HB2.out.size)))
              have hah := fun W => order_c ky iy gy vy kx ix gx vx W
              obtain ⟨AH, hAH⟩ : ∃ z, aheadS ⟨ky, iy, gy, vy⟩ ⟨kx, ix, gx, vx⟩ = z := ⟨_, rfl⟩
              obtain ⟨OR, hOR⟩ : ∃ z, ordS ⟨ky, iy, gy, vy⟩ ⟨kx, ix, gx, vx⟩ = z := ⟨_, rfl⟩
              rw [hAH] at hord HWA2
              rw [hOR] at hord
              simp only [hOR] at hah
              have HAH := Lib.hid hah
              have HGE := Lib.hid hord
              have hj0 : (0 : Int) < ((j + 1 : Nat) : Int) := by omega
              have hjn : (j : Int) < (m : Int) := by omega
              have hjc : (j : Int) < (cap2 : Int) := by omega
              clear hat' hz hah hAH hOR hord
              cases AH with
              | true =>
                have HAN := Lib.hid (show ∀ i, i < j + 1 + 1 → wAt n1 l i = true from fun i hi => by
                  by_cases h9 : i < j + 1
                  · exact HA.out i h9
                  · obtain rfl : i = j + 1 := by omega
                    exact HWA2.out)
                clear HWA2 HA
                refine wp_region_flow [none, none, none, none, none, none, none, none, none, none, none, none, none, none, none, none, none, none, none, none, none, none, some 0, some 1, some 2, some 3, some 4, some 5, some 6, some 7, some 8, some 9, some 10, some 11, some 12, some 13, some 14, some 15, some 16, some 17, none] (fun i => [u22, u23, u24, u25, u26, u27, u28, u29, u30, u31, u32, u33, u34, u35, u36, u37, u38, u39].getD i undef) [(fun v _ => v = .int .i64 (n1 : Int)), (fun v _ => v = .agg #[.string (text kx), .int .i64 ix, .bool gx, .string (text vx)]), (fun v _ => v = .bool true), (fun v _ => v = .bool false), (fun v _ => v = .bool false), (fun v _ => v = .int .i64 ((j + 1 : Nat) : Int)), (fun v _ => v = .bool true), (fun v _ => v = .bool true), (fun v _ => v = .slice (some ⟨bk, off, none⟩) m cap2), (fun v _ => v = .int .i64 ((j + 1 : Nat) : Int)), (fun v _ => v = .int .i64 (j : Int)), (fun v _ => v = .pointer (some ⟨bk, off + j * 4, none⟩)), (fun v _ => v = .agg #[.string (text ky), .int .i64 iy, .bool gy, .string (text vy)]), (fun v _ => v = .agg #[.string (text kx), .int .i64 ix, .bool gx, .string (text vx)]), (fun v _ => v = .int .i64 OR), (fun v _ => v = .bool (!true)), (fun v _ => v = .bool (!true)), (fun v _ => v = .bool (!true))] (by kernel_rfl) (by kernel_rfl) rfl rfl rfl ?_ ?_ ?_
                · intro g hg v X Y hX hY hv
                  simp only [List.mem_cons, List.not_mem_nil, or_false] at hg
                  rcases hg with rfl | rfl | rfl | rfl | rfl | rfl | rfl | rfl | rfl | rfl | rfl | rfl | rfl | rfl | rfl | rfl | rfl | rfl
                  all_goals first
                    | exact hv
                    | exact hv.kept hY
                · simp only [flowOps, and_true]
                  refine ⟨?_, ?_, ?_, ?_, ?_, ?_, ?_, ?_, ?_, ?_, ?_, ?_, ?_, ?_, ?_, ?_, ?_, ?_⟩
                  · intro xs W hW hn
                    simp only [flowAct, List.zipWith_cons_cons, List.zipWith_nil_left]
                    go_wp2_with (fail)
                    exact ⟨rfl, _, rfl, Below.refl _ _, rfl⟩
                  · intro xs W hW hn
                    obtain ⟨p0, p1, p2, p3⟩ := HPB.out W hW
                    simp only [flowAct, List.zipWith_cons_cons, List.zipWith_nil_left]
                    go_wp2_with (fail)
                    exact ⟨rfl, _, rfl, Below.refl _ _, rfl⟩
                  · intro xs W hW hn
                    simp [flowNeeds, Region.binds] at hn
                    simp only [flowAct, List.zipWith_cons_cons, List.zipWith_nil_left]
                    try simp only [hn]
                    go_wp2_with (go_at_call 66; (with_reducible refine (HWC.out _).mono ?_); rintro e9 w9 ⟨rfl, hb9⟩)
                    exact ⟨rfl, _, rfl, hb9, rfl⟩
                  · intro xs W hW hn
                    simp [flowNeeds, Region.binds] at hn
                    simp only [flowAct, List.zipWith_cons_cons, List.zipWith_nil_left]
                    try simp only [hn]
                    go_wp2_with (fail)
                    exact ⟨rfl, _, rfl, Below.refl _ _, rfl⟩
                  · intro xs W hW hn
                    simp [flowNeeds, Region.binds] at hn
                    simp only [flowAct, List.zipWith_cons_cons, List.zipWith_nil_left]
                    try simp only [hn]
                    go_wp2_with (fail)
                    exact ⟨rfl, _, rfl, Below.refl _ _, rfl⟩
                  · intro xs W hW hn
                    simp [flowNeeds, Region.binds] at hn
                    simp only [flowAct, List.zipWith_cons_cons, List.zipWith_nil_left]
                    try simp only [hn]
                    go_wp2_with (fail)
                    exact ⟨rfl, _, rfl, Below.refl _ _, rfl⟩
                  · intro xs W hW hn
                    simp [flowNeeds, Region.binds] at hn
                    simp only [flowAct, List.zipWith_cons_cons, List.zipWith_nil_left]
                    try simp only [hn]
                    go_wp2_with (fail)
                    exact ⟨rfl, _, rfl, Below.refl _ _, by first | rfl | go_num | (simp; done)⟩
                  · intro xs W hW hn
                    simp [flowNeeds, Region.binds] at hn
                    simp only [flowAct, List.zipWith_cons_cons, List.zipWith_nil_left]
                    try simp only [hn]
                    go_wp2_with (fail)
                    exact ⟨rfl, _, rfl, Below.refl _ _, rfl⟩
                  · intro xs W hW hn
                    simp [flowNeeds, Region.binds] at hn
                    simp only [flowAct, List.zipWith_cons_cons, List.zipWith_nil_left]
                    try simp only [hn]
                    go_wp2_with (fail)
                    exact ⟨rfl, _, rfl, Below.refl _ _, rfl⟩
                  · intro xs W hW hn
                    simp [flowNeeds, Region.binds] at hn
                    simp only [flowAct, List.zipWith_cons_cons, List.zipWith_nil_left]
                    try simp only [hn]
                    go_wp2_with (fail)
                    exact ⟨rfl, _, rfl, Below.refl _ _, rfl⟩
                  · intro xs W hW hn
                    simp [flowNeeds, Region.binds] at hn
                    simp only [flowAct, List.zipWith_cons_cons, List.zipWith_nil_left]
                    try simp only [hn]
                    go_wp2_with (fail)
                    exact ⟨rfl, _, rfl, Below.refl _ _, by first | rfl | go_num | (simp; done)⟩
                  · intro xs W hW hn
                    simp [flowNeeds, Region.binds] at hn
                    simp only [flowAct, List.zipWith_cons_cons, List.zipWith_nil_left]
                    try simp only [hn]
                    go_wp2_with (fail)
                    exact ⟨rfl, _, rfl, Below.refl _ _, rfl⟩
                  · intro xs W hW hn
                    obtain ⟨y0, y1, y2, y3⟩ := HQW.out W hW
                    simp [flowNeeds, Region.binds] at hn
                    simp only [flowAct, List.zipWith_cons_cons, List.zipWith_nil_left]
                    try simp only [hn]
                    go_wp2_with (fail)
                    exact ⟨rfl, _, rfl, Below.refl _ _, rfl⟩
                  · intro xs W hW hn
                    obtain ⟨p0, p1, p2, p3⟩ := HPB.out W hW
                    simp [flowNeeds, Region.binds] at hn
                    simp only [flowAct, List.zipWith_cons_cons, List.zipWith_nil_left]
                    try simp only [hn]
                    go_wp2_with (fail)
                    exact ⟨rfl, _, rfl, Below.refl _ _, rfl⟩
                  · intro xs W hW hn
                    simp [flowNeeds, Region.binds] at hn
                    simp only [flowAct, List.zipWith_cons_cons, List.zipWith_nil_left]
                    try simp only [hn]
                    go_wp2_with (go_at_call 47; (with_reducible refine (HAH.out _).mono ?_); rintro e9 w9 ⟨rfl, hb9⟩)
                    exact ⟨rfl, _, rfl, hb9, rfl⟩
                  · intro xs W hW hn
                    simp [flowNeeds, Region.binds] at hn
                    simp only [flowAct, List.zipWith_cons_cons, List.zipWith_nil_left]
                    try simp only [hn]
                    go_wp2_with (fail)
                    exact ⟨rfl, _, rfl, Below.refl _ _, by first | exact congrArg Value.bool HGE.out | (have := HGE.out; simp at this ⊢; exact this)⟩
                  · intro xs W hW hn
                    simp [flowNeeds, Region.binds] at hn
                    simp only [flowAct, List.zipWith_cons_cons, List.zipWith_nil_left]
                    try simp only [hn]
                    go_wp2_with (fail)
                    exact ⟨rfl, _, rfl, Below.refl _ _, rfl⟩
                  · intro xs W hW hn
                    simp [flowNeeds, Region.binds] at hn
                    simp only [flowAct, List.zipWith_cons_cons, List.zipWith_nil_left]
                    try simp only [hn]
                    go_wp2_with (fail)
                    exact ⟨rfl, _, rfl, Below.refl _ _, rfl⟩
                · intro xs W hW hall
                  simp only [flowAll, and_true, Nat.zero_add, Nat.reduceAdd] at hall
                  obtain ⟨-, -, -, -, -, -, -, -, -, -, -, -, -, -, -, -, -, e17⟩ := hall
                  simp only [flowAct, List.zipWith_cons_cons, List.zipWith_nil_left]
                  simp only [e17]
                  go_wp2
                  go_roundw
                  case rel => exact ⟨(j + 1) + 1, by omega, by go_num, HAN.out, HB2.out.trans (hW.mono HB2.out.size)⟩
                  case measure => simp [intOf]; omega
              | false =>
                have HRR := Lib.hid (H2.out (j + 1) hlt HWA2.out)
                clear HWA2 HA
                refine wp_region_flow [none, none, none, none, none, none, none, none, none, none, none, none, none, none, none, none, none, none, none, none, none, none, some 0, some 1, some 2, some 3, some 4, some 5, some 6, some 7, some 8, some 9, some 10, some 11, some 12, some 13, some 14, some 15, some 16, some 17, none] (fun i => [u22, u23, u24, u25, u26, u27, u28, u29, u30, u31, u32, u33, u34, u35, u36, u37, u38, u39].getD i undef) [(fun v _ => v = .int .i64 (n1 : Int)), (fun v _ => v = .agg #[.string (text kx), .int .i64 ix, .bool gx, .string (text vx)]), (fun v _ => v = .bool true), (fun v _ => v = .bool false), (fun v _ => v = .bool false), (fun v _ => v = .int .i64 ((j + 1 : Nat) : Int)), (fun v _ => v = .bool true), (fun v _ => v = .bool true), (fun v _ => v = .slice (some ⟨bk, off, none⟩) m cap2), (fun v _ => v = .int .i64 ((j + 1 : Nat) : Int)), (fun v _ => v = .int .i64 (j : Int)), (fun v _ => v = .pointer (some ⟨bk, off + j * 4, none⟩)), (fun v _ => v = .agg #[.string (text ky), .int .i64 iy, .bool gy, .string (text vy)]), (fun v _ => v = .agg #[.string (text kx), .int .i64 ix, .bool gx, .string (text vx)]), (fun v _ => v = .int .i64 OR), (fun v _ => v = .bool (!false)), (fun v _ => v = .bool (!false)), (fun v _ => v = .bool (!false))] (by kernel_rfl) (by kernel_rfl) rfl rfl rfl ?_ ?_ ?_
                · intro g hg v X Y hX hY hv
                  simp only [List.mem_cons, List.not_mem_nil, or_false] at hg
                  rcases hg with rfl | rfl | rfl | rfl | rfl | rfl | rfl | rfl | rfl | rfl | rfl | rfl | rfl | rfl | rfl | rfl | rfl | rfl
                  all_goals first
                    | exact hv
                    | exact hv.kept hY
                · simp only [flowOps, and_true]
                  refine ⟨?_, ?_, ?_, ?_, ?_, ?_, ?_, ?_, ?_, ?_, ?_, ?_, ?_, ?_, ?_, ?_, ?_, ?_⟩
                  · intro xs W hW hn
                    simp only [flowAct, List.zipWith_cons_cons, List.zipWith_nil_left]
                    go_wp2_with (fail)
                    exact ⟨rfl, _, rfl, Below.refl _ _, rfl⟩
                  · intro xs W hW hn
                    obtain ⟨p0, p1, p2, p3⟩ := HPB.out W hW
                    simp only [flowAct, List.zipWith_cons_cons, List.zipWith_nil_left]
                    go_wp2_with (fail)
                    exact ⟨rfl, _, rfl, Below.refl _ _, rfl⟩
                  · intro xs W hW hn
                    simp [flowNeeds, Region.binds] at hn
                    simp only [flowAct, List.zipWith_cons_cons, List.zipWith_nil_left]
                    try simp only [hn]
                    go_wp2_with (go_at_call 66; (with_reducible refine (HWC.out _).mono ?_); rintro e9 w9 ⟨rfl, hb9⟩)
                    exact ⟨rfl, _, rfl, hb9, rfl⟩
                  · intro xs W hW hn
                    simp [flowNeeds, Region.binds] at hn
                    simp only [flowAct, List.zipWith_cons_cons, List.zipWith_nil_left]
                    try simp only [hn]
                    go_wp2_with (fail)
                    exact ⟨rfl, _, rfl, Below.refl _ _, rfl⟩
                  · intro xs W hW hn
                    simp [flowNeeds, Region.binds] at hn
                    simp only [flowAct, List.zipWith_cons_cons, List.zipWith_nil_left]
                    try simp only [hn]
                    go_wp2_with (fail)
                    exact ⟨rfl, _, rfl, Below.refl _ _, rfl⟩
                  · intro xs W hW hn
                    simp [flowNeeds, Region.binds] at hn
                    simp only [flowAct, List.zipWith_cons_cons, List.zipWith_nil_left]
                    try simp only [hn]
                    go_wp2_with (fail)
                    exact ⟨rfl, _, rfl, Below.refl _ _, rfl⟩
                  · intro xs W hW hn
                    simp [flowNeeds, Region.binds] at hn
                    simp only [flowAct, List.zipWith_cons_cons, List.zipWith_nil_left]
                    try simp only [hn]
                    go_wp2_with (fail)
                    exact ⟨rfl, _, rfl, Below.refl _ _, by first | rfl | go_num | (simp; done)⟩
                  · intro xs W hW hn
                    simp [flowNeeds, Region.binds] at hn
                    simp only [flowAct, List.zipWith_cons_cons, List.zipWith_nil_left]
                    try simp only [hn]
                    go_wp2_with (fail)
                    exact ⟨rfl, _, rfl, Below.refl _ _, rfl⟩
                  · intro xs W hW hn
                    simp [flowNeeds, Region.binds] at hn
                    simp only [flowAct, List.zipWith_cons_cons, List.zipWith_nil_left]
                    try simp only [hn]
                    go_wp2_with (fail)
                    exact ⟨rfl, _, rfl, Below.refl _ _, rfl⟩
                  · intro xs W hW hn
                    simp [flowNeeds, Region.binds] at hn
                    simp only [flowAct, List.zipWith_cons_cons, List.zipWith_nil_left]
                    try simp only [hn]
                    go_wp2_with (fail)
                    exact ⟨rfl, _, rfl, Below.refl _ _, rfl⟩
                  · intro xs W hW hn
                    simp [flowNeeds, Region.binds] at hn
                    simp only [flowAct, List.zipWith_cons_cons, List.zipWith_nil_left]
                    try simp only [hn]
                    go_wp2_with (fail)
                    exact ⟨rfl, _, rfl, Below.refl _ _, by first | rfl | go_num | (simp; done)⟩
                  · intro xs W hW hn
                    simp [flowNeeds, Region.binds] at hn
                    simp only [flowAct, List.zipWith_cons_cons, List.zipWith_nil_left]
                    try simp only [hn]
                    go_wp2_with (fail)
                    exact ⟨rfl, _, rfl, Below.refl _ _, rfl⟩
                  · intro xs W hW hn
                    obtain ⟨y0, y1, y2, y3⟩ := HQW.out W hW
                    simp [flowNeeds, Region.binds] at hn
                    simp only [flowAct, List.zipWith_cons_cons, List.zipWith_nil_left]
                    try simp only [hn]
                    go_wp2_with (fail)
                    exact ⟨rfl, _, rfl, Below.refl _ _, rfl⟩
                  · intro xs W hW hn
                    obtain ⟨p0, p1, p2, p3⟩ := HPB.out W hW
                    simp [flowNeeds, Region.binds] at hn
                    simp only [flowAct, List.zipWith_cons_cons, List.zipWith_nil_left]
                    try simp only [hn]
                    go_wp2_with (fail)
                    exact ⟨rfl, _, rfl, Below.refl _ _, rfl⟩
                  · intro xs W hW hn
                    simp [flowNeeds, Region.binds] at hn
                    simp only [flowAct, List.zipWith_cons_cons, List.zipWith_nil_left]
                    try simp only [hn]
                    go_wp2_with (go_at_call 47; (with_reducible refine (HAH.out _).mono ?_); rintro e9 w9 ⟨rfl, hb9⟩)
                    exact ⟨rfl, _, rfl, hb9, rfl⟩
                  · intro xs W hW hn
                    simp [flowNeeds, Region.binds] at hn
                    simp only [flowAct, List.zipWith_cons_cons, List.zipWith_nil_left]
                    try simp only [hn]
                    go_wp2_with (fail)
                    exact ⟨rfl, _, rfl, Below.refl _ _, by first | exact congrArg Value.bool HGE.out | (have := HGE.out; simp at this ⊢; exact this)⟩
                  · intro xs W hW hn
                    simp [flowNeeds, Region.binds] at hn
                    simp only [flowAct, List.zipWith_cons_cons, List.zipWith_nil_left]
                    try simp only [hn]
                    go_wp2_with (fail)
                    exact ⟨rfl, _, rfl, Below.refl _ _, rfl⟩
                  · intro xs W hW hn
                    simp [flowNeeds, Region.binds] at hn
                    simp only [flowAct, List.zipWith_cons_cons, List.zipWith_nil_left]
                    try simp only [hn]
                    go_wp2_with (fail)
                    exact ⟨rfl, _, rfl, Below.refl _ _, rfl⟩
                · intro xs W hW hall
                  simp only [flowAll, and_true, Nat.zero_add, Nat.reduceAdd] at hall
                  obtain ⟨-, -, -, -, -, -, -, -, -, -, -, -, -, -, -, -, -, e17⟩ := hall
                  simp only [flowAct, List.zipWith_cons_cons, List.zipWith_nil_left]
                  simp only [e17]
                  go_wp2
                  go_ret
                  exact ⟨by rw [HRR.out]; rfl, HB2.out.trans (hW.mono HB2.out.size)⟩
        · obtain rfl : m = k := by omega
          have HRR := Lib.hid (H3b.out HA.out)
          clear H2 H3b
          go_wp2
          go_ret
          exact ⟨by rw [HRR.out]; rfl, HBr.out⟩
set_option maxHeartbeats 3200000 in
theorem chgood_c {w : World} {x x2 : Option Addr} {n1 cap m cap2 : Nat} {gs : List Grp} {l : List Wr} (hg : Grs w x n1 cap gs) (hs : ∀ g ∈ gs, g.1.length ≤ 9223372036854775807) (hl : Wrs w x2 m cap2 l) (hx : WShort l) (site seq n s a b : Int) :
    Calls Tryd.prog 13 #[.slice x n1 cap, .agg #[.int .i64 site, .int .i64 seq, .int .i64 n, .int .i64 s, .int .i64 a, .int .i64 b, .slice x2 m cap2]] w (Tells (.int .i64 (chgoodS gs site seq n s a b l)) w) := by
  have hgl := hg.len
  have HPG := Lib.hid (fun W (h : Below w.heap.size w W) => pgood_c (hg.below h) hs)
  have HGH := Lib.hid (fun W => goodhead_c site seq n s a b x2 m cap2 W)
  have HGW := Lib.hid (fun W (h : Below w.heap.size w W) => goodwrites_c n1 (hl.below h) hx)
  have HV := Lib.hid (chgood_eq gs site seq n s a b l)
  rw [hgl] at HV
  obtain ⟨R, hR⟩ : ∃ z, chgoodS gs site seq n s a b l = z := ⟨_, rfl⟩
  obtain ⟨P0, hP⟩ : ∃ z, pgoodS gs = z := ⟨_, rfl⟩
  obtain ⟨GH, hGH⟩ : ∃ z, goodHeadS site seq n s a b = z := ⟨_, rfl⟩
  obtain ⟨GW, hGW⟩ : ∃ z, gwsS n1 l = z := ⟨_, rfl⟩
  rw [hR, hP, hGH, hGW] at HV
  simp only [hP] at HPG
  simp only [hGH] at HGH
  simp only [hGW] at HGW
  rw [hR]
  have HB1 := Lib.hid (alloc_below w (.cells #[.int .i64 site, .int .i64 seq, .int .i64 n, .int .i64 s, .int .i64 a, .int .i64 b, .slice x2 m cap2] 29))
  have hr := heap_alloc_new w (.cells #[.int .i64 site, .int .i64 seq, .int .i64 n, .int .i64 s, .int .i64 a, .int .i64 b, .slice x2 m cap2] 29)
  have HC0 := Lib.hid (fun W (h : Below (w.alloc (.cells #[.int .i64 site, .int .i64 seq, .int .i64 n, .int .i64 s, .int .i64 a, .int .i64 b, .slice x2 m cap2] 29)).heap.size (w.alloc (.cells #[.int .i64 site, .int .i64 seq, .int .i64 n, .int .i64 s, .int .i64 a, .int .i64 b, .slice x2 m cap2] 29)) W) => ch_cells (heap_below hr h))
  clear hR hP hGH hGW hg hs hl hx hr
  by_cases h0 : P0 = 0
  · subst h0
    go_enter Tryd.func13, Tryd.ntmps13
    go_upto_region 4 with (go_at_call 33; (with_reducible refine (HPG.out _ HB1.out).mono ?_); rintro e9 w2 ⟨rfl, hb2⟩)
    have HB2 := Lib.hid (HB1.out.trans (hb2.mono HB1.out.size))
    obtain ⟨c0, c1, c2, c3, c4, c5, c6⟩ := HC0.out _ hb2
    have HC2 := Lib.hid (fun W (h : Below w2.heap.size w2 W) => HC0.out W (hb2.trans (h.mono hb2.size)))
    clear hb2 HC0 HB1
    cases GH with
    | false =>
      have HRR := Lib.hid (show R = 120 by rw [HV.out]; rfl)
      clear HV
      go_wp2_with (go_at_call 34; (with_reducible refine (HGH.out _).mono ?_); rintro e9 w3 ⟨rfl, hb3⟩)
      go_ret
      exact ⟨by rw [HRR.out]; rfl, HB2.out.trans (hb3.mono HB2.out.size)⟩
    | true =>
      cases GW with
      | false =>
        have HRR := Lib.hid (show R = 120 by rw [HV.out]; rfl)
        clear HV
        go_wp2_with (first | (go_at_call 34; (with_reducible refine (HGH.out _).mono ?_); rintro e9 w3 ⟨rfl, hb3⟩; obtain ⟨d0, d1, d2, d3, d4, d5, d6⟩ := HC2.out _ hb3; have HB3 := Lib.hid (HB2.out.trans (hb3.mono HB2.out.size)); clear hb3) | (go_at_call 35; (with_reducible refine (HGW.out _ HB3.out).mono ?_); rintro e9 w4 ⟨rfl, hb4⟩))
        go_ret
        exact ⟨by rw [HRR.out]; rfl, HB3.out.trans (hb4.mono HB3.out.size)⟩
      | true =>
        have HRR := Lib.hid (show R = 0 by rw [HV.out]; rfl)
        clear HV
        go_wp2_with (first | (go_at_call 34; (with_reducible refine (HGH.out _).mono ?_); rintro e9 w3 ⟨rfl, hb3⟩; obtain ⟨d0, d1, d2, d3, d4, d5, d6⟩ := HC2.out _ hb3; have HB3 := Lib.hid (HB2.out.trans (hb3.mono HB2.out.size)); clear hb3) | (go_at_call 35; (with_reducible refine (HGW.out _ HB3.out).mono ?_); rintro e9 w4 ⟨rfl, hb4⟩))
        go_ret
        exact ⟨by rw [HRR.out]; rfl, HB3.out.trans (hb4.mono HB3.out.size)⟩
  · have HRR := Lib.hid (show R = P0 by rw [HV.out, if_pos h0])
    have h0n : (P0 != 0) = true := by simpa using h0
    clear HV
    go_enter Tryd.func13, Tryd.ntmps13
    go_wp2_with (go_at_call 33; (with_reducible refine (HPG.out _ HB1.out).mono ?_); rintro e9 w2 ⟨rfl, hb2⟩)
    go_ret
    exact ⟨by rw [HRR.out]; rfl, HB1.out.trans (hb2.mono HB1.out.size)⟩
end Go.Proofs.YtfkmfccdhmnllaaDoor
end

section
namespace Go.Proofs.YtfkmfccdhmnllaaDoor
open Go.RowKit Go Go.Sort
set_option linter.unusedVariables false
set_option maxRecDepth 20000

theorem own_bys {W : World} {B : Nat} {a : Option Addr} {m c : Nat} {l : List UInt8} (h : OwnB W B 5 (.slice a m c) l) : Bys W a m c l := by
  obtain ⟨a', c', ev, hc⟩ := h.bys
  injection ev with e1 e2 e3
  subst e1 e2 e3
  exact hc
/-- A change's bytes behind others: its head, and its writes one behind the other. -/
def cheadB (l : List UInt8) (site seq n s a b : Int) (m : Nat) : List UInt8 := vputS (sputS (l ++ numB site ++ numB seq) n s) a b ++ numB (m : Int)
def wputS (l : List UInt8) (c : Wr) : List UInt8 := if c.g = true then putTextS l c.k ++ numB c.i ++ numB 1 else putTextS (putTextS l c.k ++ numB c.i ++ numB 0) c.v
def wputN (l : List UInt8) (ws : List Wr) : Nat → List UInt8
  | 0 => l
  | k + 1 => wputS (wputN l ws k) (ws.getD k Wr.zero)
def chputS (l : List UInt8) (gs : List Grp) (site seq n s a b : Int) (ws : List Wr) : List UInt8 := if chgoodS gs site seq n s a b ws = 0 then wputN (cheadB l site seq n s a b ws.length) ws ws.length else l
theorem head_ok {site seq n s a b : Int} {m : Nat} (h : headBad site seq n s a b m = false) : (site = 1 ∨ site = 2) ∧ 1 ≤ seq ∧ seq ≤ 1099511627776 ∧ sgood n s = true ∧ s = site ∧ vgood a b = true ∧ (if site = 1 then a else b) = seq ∧ 1 ≤ m ∧ m ≤ 8 := by
  unfold headBad at h
  simp only [Bool.or_eq_false_iff, Bool.and_eq_false_iff, Bool.not_eq_false', bne_eq_false_iff_eq, decide_eq_false_iff_not] at h
  obtain ⟨⟨⟨⟨⟨⟨⟨⟨h1, h2⟩, h3⟩, h4⟩, h5⟩, h6⟩, h7⟩, h8⟩, h9⟩ := h
  exact ⟨h1, by omega, by omega, h4, h5, h6, h7, by omega, by omega⟩
theorem may_few {n : Nat} {c : Wr} (h : mayS n c = true) : c.k.length ≤ 32 ∧ 1 ≤ c.k.length ∧ 0 ≤ c.i ∧ c.i < (n : Int) ∧ c.v.length ≤ 64 ∧ (c.g = true → c.v = []) := by
  unfold mayS at h
  simp only [Bool.and_eq_true, decide_eq_true_eq] at h
  obtain ⟨h1, h2, h3, h4, h5⟩ := h
  have hk : ¬ c.k = [] ∧ c.k.length ≤ 32 := by
    unfold keyS at h1
    split at h1
    · cases h1
    · split at h1
      · cases h1
      · rename_i h6 h7; exact ⟨h6, by omega⟩
  refine ⟨hk.2, ?_, h2, h3, h4, fun hg => ?_⟩
  · rcases Nat.eq_zero_or_pos c.k.length with h | h
    · exact absurd (List.eq_nil_of_length_eq_zero h) hk.1
    · exact h
  · rw [hg] at h5
    simpa using h5
theorem w_at {n1 : Nat} {l : List Wr} {k : Nat} (h : wAt n1 l k = true) : mayS n1 (l.getD k Wr.zero) = true := by
  unfold wAt at h
  rw [Bool.and_eq_true] at h
  exact h.1
theorem chead_le (l : List UInt8) (site seq n s a b : Int) (m : Nat) : (cheadB l site seq n s a b m).length ≤ l.length + 48 := by
  have h1 := numB_length site
  have h2 := numB_length seq
  have h3 := sput_le (l ++ numB site ++ numB seq) n s
  have h4 := vput_le (sputS (l ++ numB site ++ numB seq) n s) a b
  have h5 := numB_length (m : Int)
  unfold cheadB
  simp only [List.length_append] at *
  omega
theorem wput_le {n : Nat} {c : Wr} (l : List UInt8) (h : mayS n c = true) : (wputS l c).length ≤ l.length + 128 := by
  have hf := may_few h
  have h1 := putText_le l c.k
  have h2 := numB_length c.i
  have h3 := numB_length 1
  have h4 := numB_length 0
  have h5 := putText_le (putTextS l c.k ++ numB c.i ++ numB 0) c.v
  unfold wputS
  split
  · simp only [List.length_append]; omega
  · simp only [List.length_append] at h5 ⊢; omega

set_option maxRecDepth 100000 in
set_option maxHeartbeats 12800000 in
theorem rchput_c {w : World} {ad : Option Addr} {m9 cap9 : Nat} {by9 : List UInt8} (hy : Bys w ad m9 cap9 by9) (hm9 : m9 ≤ 5400) {x x2 : Option Addr} {n1 cap m cap2 : Nat} {gs : List Grp} {l : List Wr} (hg : Grs w x n1 cap gs) (hs : ∀ g ∈ gs, g.1.length ≤ 9223372036854775807) (hl : Wrs w x2 m cap2 l) (hx : WShort l) (site seq n s a b : Int) :
    Calls Tryd.prog 24 #[.slice ad m9 cap9, .slice x n1 cap, .agg #[.int .i64 site, .int .i64 seq, .int .i64 n, .int .i64 s, .int .i64 a, .int .i64 b, .slice x2 m cap2]] w (BytesPost (chputS by9 gs site seq n s a b l) w) := by
  obtain ⟨i0, hi, hz0, hz1, hz2⟩ := info_parts Tryd.info5
  have hyl := hy.len
  have hgl := hg.len
  have hll := hl.len
  have hle2 := hl.le
  have hmax2 := hl.max
  have HGD := Lib.hid (fun W (h : Below w.heap.size w W) => rchgood_c (hg.below h) hs (hl.below h) hx site seq n s a b)
  have HIV := Lib.hid (@ch_inv gs site seq n s a b l)
  have HP := Lib.hid (show chgoodS gs site seq n s a b l = 0 → chputS by9 gs site seq n s a b l = wputN (cheadB by9 site seq n s a b m) l m from fun h => by unfold chputS; rw [if_pos h, hll])
  have HQ := Lib.hid (show ¬ chgoodS gs site seq n s a b l = 0 → chputS by9 gs site seq n s a b l = by9 from fun h => by unfold chputS; rw [if_neg h])
  have HHE := Lib.hid (show cheadB by9 site seq n s a b m = vputS (sputS (by9 ++ numB site ++ numB seq) n s) a b ++ numB (m : Int) from rfl)
  have HHL := Lib.hid (chead_le by9 site seq n s a b m)
  have HL := Lib.hid hl
  have HY := Lib.hid hy
  obtain ⟨RV, hRV⟩ : ∃ z, chputS by9 gs site seq n s a b l = z := ⟨_, rfl⟩
  rw [hRV] at HP HQ ⊢
  obtain ⟨R, hR⟩ : ∃ z, chgoodS gs site seq n s a b l = z := ⟨_, rfl⟩
  rw [hR] at HP HQ HIV
  simp only [hR] at HGD
  obtain ⟨HE, hHE⟩ : ∃ z, cheadB by9 site seq n s a b m = z := ⟨_, rfl⟩
  rw [hHE] at HP HHE HHL
  have hr := heap_alloc_new w (.cells #[.int .i64 site, .int .i64 seq, .int .i64 n, .int .i64 s, .int .i64 a, .int .i64 b, .slice x2 m cap2] 29)
  have hb := alloc_below w (.cells #[.int .i64 site, .int .i64 seq, .int .i64 n, .int .i64 s, .int .i64 a, .int .i64 b, .slice x2 m cap2] 29)
  clear hRV hR hHE hg hs hl hx hy
  go_enter Tryd.func24, Tryd.ntmps24
  go_upto_region 1 with (fail)
  obtain ⟨B, hB⟩ : ∃ q, w.heap.size = q := ⟨_, rfl⟩
  have HBe := Lib.hid hB
  rw [hB] at hr ⊢
  clear hB
  generalize w.alloc (.cells #[.int .i64 site, .int .i64 seq, .int .i64 n, .int .i64 s, .int .i64 a, .int .i64 b, .slice x2 m cap2] 29) = W1 at *
  obtain ⟨c0, c1, c2, c3, c4, c5, c6⟩ := ch_cells hr
  have HR1 := Lib.hid hr
  have HB1 := Lib.hid hb
  clear hr hb
  by_cases h0 : R = 0
  · subst h0
    have HRR := Lib.hid (HP.out (by first | rfl | trivial))
    obtain ⟨hp0, hhd, hall⟩ := HIV.out (by first | rfl | trivial)
    rw [hll] at hhd
    obtain ⟨hd1, hd2, hd3, -, -, -, -, hd4, hd5⟩ := head_ok hhd
    have hst : 1 ≤ site ∧ site ≤ 2 := by omega
    have hn4 := pgood_len hp0
    have HALL := Lib.hid hall
    clear HP HQ HIV hp0 hall hhd hd1
    go_upto_region 3 with (go_at_call 14; (with_reducible refine (HGD.out _ HB1.out).mono ?_); rintro e9 w2 ⟨rfl, hb2⟩)
    have HB2 := Lib.hid (HB1.out.trans (hb2.mono HB1.out.size))
    have HR2 := Lib.hid (heap_below HR1.out hb2)
    have HY2 := Lib.hid (HY.out.below HB2.out)
    clear hb2 HR1 HB1 HGD c0 c1 c2 c3 c4 c5 c6
    obtain ⟨l1, hl1⟩ : ∃ z, by9 ++ numB site = z := ⟨_, rfl⟩
    obtain ⟨l2, hl2⟩ : ∃ z, l1 ++ numB seq = z := ⟨_, rfl⟩
    obtain ⟨l3, hl3⟩ : ∃ z, sputS l2 n s = z := ⟨_, rfl⟩
    obtain ⟨l4, hl4⟩ : ∃ z, vputS l3 a b = z := ⟨_, rfl⟩
    have hhe := HHE.out
    rw [hl1, hl2, hl3, hl4] at hhe
    have g1 : l1.length ≤ 5408 := by have := numB_length site; rw [← hl1, List.length_append]; omega
    have g2 : l2.length ≤ 5416 := by have := numB_length seq; rw [← hl2, List.length_append]; omega
    have g3 : l3.length ≤ 5424 := by have := sput_le l2 n s; rw [← hl3]; omega
    have g4 : l4.length ≤ 5440 := by have := vput_le l3 a b; rw [← hl4]; omega
    have hP1 := fun W (h : Below w2.heap.size w2 W) => rput_c (HY2.out.below h) (by omega) site (by omega) (by omega)
    have HP2 := Lib.hid (fun (W : World) (a2 : Option Addr) (k2 : Nat) (hh : Bys W a2 l1.length k2 l1) => show Calls _ _ _ _ (BytesPost l2 W) by rw [← hl2]; exact rput_c hh (by omega) seq (by omega) (by omega))
    have HP3 := Lib.hid (fun (W : World) (a2 : Option Addr) (k2 : Nat) (hh : Bys W a2 l2.length k2 l2) => show Calls _ _ _ _ (BytesPost l3 W) by rw [← hl3]; exact rsput_c hh (by omega) n s)
    have HP4 := Lib.hid (fun (W : World) (a2 : Option Addr) (k2 : Nat) (hh : Bys W a2 l3.length k2 l3) => show Calls _ _ _ _ (BytesPost l4 W) by rw [← hl4]; exact rvput_c hh (by omega) a b)
    have HP5 := Lib.hid (fun (W : World) (a2 : Option Addr) (k2 : Nat) (hh : Bys W a2 l4.length k2 l4) => show Calls _ _ _ _ (BytesPost HE W) by rw [hhe]; exact rput_c hh (by omega) (m : Int) (by omega) (by omega))
    simp only [hl1] at hP1
    have HP1 := Lib.hid hP1
    have HCW := Lib.hid (fun W (h : Below w2.heap.size w2 W) => ch_cells (heap_below HR2.out h))
    have HBs := Lib.hid HB2.out.size
    clear hP1 hl1 hl2 hl3 hl4 hhe g1 g2 g3 g4
    refine wp_region_flow_tail 7 [none, none, none, none, none, none, none, none, none, none, none, none, none, none, none, none, none, some 0, some 1, some 2, some 3, some 4, some 5, some 6, none, none, none, none, none, none, none, none, none, none, none, none, none, none, none, none, none, none, none, none, none, none, none, none, none, none, none, none, none, none, none, none, none, none, none, none, none, none, none, none, none] (fun i => [undef, undef, undef, undef, undef, undef, undef].getD i undef) [(fun v _ => v = .slice ad m9 cap9), (fun v _ => v = .pointer (some ⟨B, 0, none⟩)), (fun v _ => v = .int .i64 site), (fun v W => OwnB W w.heap.size 5 v l1), (fun v _ => v = .pointer (some ⟨B, 1, none⟩)), (fun v _ => v = .int .i64 seq), (fun v W => OwnB W w.heap.size 5 v l2)] (fun _ => False) (by kernel_rfl) (by kernel_rfl) (by kernel_rfl) rfl rfl rfl ?_ ?_ ?_
    · intro g hg v X Y hX hY hv
      simp only [List.mem_cons, List.not_mem_nil, or_false] at hg
      rcases hg with rfl | rfl | rfl | rfl | rfl | rfl | rfl
      all_goals first
        | exact hv
        | exact hv.kept hY
    · simp only [flowOpsF, List.take_succ_cons, List.take_zero, and_true]
      refine ⟨?_, ?_, ?_, ?_, ?_, ?_, ?_⟩
      · intro xs W hW hn
        simp only [flowAct, List.zipWith_cons_cons, List.zipWith_nil_left]
        go_wp2_with (fail)
        exact ⟨rfl, _, rfl, Below.refl _ _, rfl, fun h => h.elim⟩
      · intro xs W hW hn
        simp only [flowAct, List.zipWith_cons_cons, List.zipWith_nil_left]
        go_wp2_with (fail)
        exact ⟨rfl, _, rfl, Below.refl _ _, rfl, fun h => h.elim⟩
      · intro xs W hW hn
        obtain ⟨c0, c1, c2, c3, c4, c5, c6⟩ := HCW.out W hW
        simp [flowNeeds, Region.binds] at hn
        simp only [flowAct, List.zipWith_cons_cons, List.zipWith_nil_left]
        try simp only [hn]
        go_wp2_with (fail)
        exact ⟨rfl, _, rfl, Below.refl _ _, rfl, fun h => h.elim⟩
      · intro xs W hW hn
        simp [flowNeeds, Region.binds] at hn
        simp only [flowAct, List.zipWith_cons_cons, List.zipWith_nil_left]
        simp only [hn]
        go_wp2_with (go_at_call 52; (with_reducible refine (HP1.out _ hW).mono ?_); rintro e9 w9 ⟨v9, rfl, ho9, hb9⟩)
        exact ⟨rfl, _, rfl, hb9, ho9.mono (Nat.le_trans HBs.out hW.size), fun h => h.elim⟩
      · intro xs W hW hn
        simp only [flowAct, List.zipWith_cons_cons, List.zipWith_nil_left]
        go_wp2_with (fail)
        exact ⟨rfl, _, rfl, Below.refl _ _, rfl, fun h => h.elim⟩
      · intro xs W hW hn
        obtain ⟨c0, c1, c2, c3, c4, c5, c6⟩ := HCW.out W hW
        simp [flowNeeds, Region.binds] at hn
        simp only [flowAct, List.zipWith_cons_cons, List.zipWith_nil_left]
        try simp only [hn]
        go_wp2_with (fail)
        exact ⟨rfl, _, rfl, Below.refl _ _, rfl, fun h => h.elim⟩
      · intro xs W hW hn
        simp [flowNeeds, Region.binds] at hn
        obtain ⟨ho3, e5⟩ := hn
        obtain ⟨a2, k2, e3, hy3⟩ := ho3.bys
        simp only [flowAct, List.zipWith_cons_cons, List.zipWith_nil_left]
        simp only [e3, e5]
        go_wp2_with (go_at_call 52; (with_reducible refine (HP2.out _ _ _ hy3).mono ?_); rintro e9 w9 ⟨v9, rfl, ho9, hb9⟩)
        exact ⟨rfl, _, rfl, hb9, ho9.mono (Nat.le_trans HBs.out hW.size), fun h => h.elim⟩
    · intro xs W hW hall hfr
      clear hfr
      simp only [flowAll, and_true, Nat.zero_add, Nat.reduceAdd] at hall
      obtain ⟨-, -, -, -, -, -, e6⟩ := hall
      simp only [flowAct, List.zipWith_cons_cons, List.zipWith_nil_left, List.drop_succ_cons, List.drop_zero]
      obtain ⟨a2, k2, e3, -⟩ := e6.bys
      have O3 := Lib.hid e6
      rw [e3] at O3
      simp only [e3]
      clear e6 e3 HP1 HP2
      have HB3 := Lib.hid (HB2.out.trans (hW.mono HB2.out.size))
      have HR3 := Lib.hid (heap_below HR2.out hW)
      clear hW HB2 HR2 HCW HBs
      obtain ⟨W3, hW3⟩ : ∃ X, W = X := ⟨_, rfl⟩
      rw [hW3] at HB3 HR3 O3 ⊢
      clear hW3
      have HCW := Lib.hid (fun W (h : Below W3.heap.size W3 W) => ch_cells (heap_below HR3.out h))
      have HBs := Lib.hid HB3.out.size
      have HYB := Lib.hid (fun W (h : Below W3.heap.size W3 W) => show Bys W a2 l2.length k2 l2 from (own_bys O3.out).below h)
      go_upto_region 4 with (fail)
      refine wp_region_flow_tail 7 [none, none, none, none, none, none, none, none, none, none, none, none, none, none, none, none, none, none, none, none, none, none, none, none, some 0, some 1, some 2, some 3, some 4, some 5, some 6, none, none, none, none, none, none, none, none, none, none, none, none, none, none, none, none, none, none, none, none, none, none, none, none, none, none, none, none, none, none, none, none, none, none] (fun i => [undef, undef, undef, undef, undef, undef, undef].getD i undef) [(fun v _ => v = .slice a2 l2.length k2), (fun v _ => v = .pointer (some ⟨B, 2, none⟩)), (fun v _ => v = .agg #[.int .i64 n, .int .i64 s]), (fun v W => OwnB W w.heap.size 5 v l3), (fun v _ => v = .pointer (some ⟨B, 4, none⟩)), (fun v _ => v = .agg #[.int .i64 a, .int .i64 b]), (fun v W => OwnB W w.heap.size 5 v l4)] (fun _ => False) (by kernel_rfl) (by kernel_rfl) (by kernel_rfl) rfl rfl rfl ?_ ?_ ?_
      · intro g hg v X Y hX hY hv
        simp only [List.mem_cons, List.not_mem_nil, or_false] at hg
        rcases hg with rfl | rfl | rfl | rfl | rfl | rfl | rfl
        all_goals first
          | exact hv
          | exact hv.kept hY
      · simp only [flowOpsF, List.take_succ_cons, List.take_zero, and_true]
        refine ⟨?_, ?_, ?_, ?_, ?_, ?_, ?_⟩
        · intro xs W hW hn
          simp only [flowAct, List.zipWith_cons_cons, List.zipWith_nil_left]
          go_wp2_with (fail)
          exact ⟨rfl, _, rfl, Below.refl _ _, rfl, fun h => h.elim⟩
        · intro xs W hW hn
          simp only [flowAct, List.zipWith_cons_cons, List.zipWith_nil_left]
          go_wp2_with (fail)
          exact ⟨rfl, _, rfl, Below.refl _ _, rfl, fun h => h.elim⟩
        · intro xs W hW hn
          obtain ⟨c0, c1, c2, c3, c4, c5, c6⟩ := HCW.out W hW
          simp [flowNeeds, Region.binds] at hn
          simp only [flowAct, List.zipWith_cons_cons, List.zipWith_nil_left]
          try simp only [hn]
          go_wp2_with (fail)
          exact ⟨rfl, _, rfl, Below.refl _ _, rfl, fun h => h.elim⟩
        · intro xs W hW hn
          simp [flowNeeds, Region.binds] at hn
          simp only [flowAct, List.zipWith_cons_cons, List.zipWith_nil_left]
          simp only [hn]
          go_wp2_with (go_at_call 54; (with_reducible refine (HP3.out _ _ _ (HYB.out W hW)).mono ?_); rintro e9 w9 ⟨v9, rfl, ho9, hb9⟩)
          exact ⟨rfl, _, rfl, hb9, ho9.mono (Nat.le_trans HBs.out hW.size), fun h => h.elim⟩
        · intro xs W hW hn
          simp only [flowAct, List.zipWith_cons_cons, List.zipWith_nil_left]
          go_wp2_with (fail)
          exact ⟨rfl, _, rfl, Below.refl _ _, rfl, fun h => h.elim⟩
        · intro xs W hW hn
          obtain ⟨c0, c1, c2, c3, c4, c5, c6⟩ := HCW.out W hW
          simp [flowNeeds, Region.binds] at hn
          simp only [flowAct, List.zipWith_cons_cons, List.zipWith_nil_left]
          try simp only [hn]
          go_wp2_with (fail)
          exact ⟨rfl, _, rfl, Below.refl _ _, rfl, fun h => h.elim⟩
        · intro xs W hW hn
          simp [flowNeeds, Region.binds] at hn
          obtain ⟨ho3, e5⟩ := hn
          obtain ⟨a2, k2, e3, hy3⟩ := ho3.bys
          simp only [flowAct, List.zipWith_cons_cons, List.zipWith_nil_left]
          simp only [e3, e5]
          go_wp2_with (go_at_call 53; (with_reducible refine (HP4.out _ _ _ hy3).mono ?_); rintro e9 w9 ⟨v9, rfl, ho9, hb9⟩)
          exact ⟨rfl, _, rfl, hb9, ho9.mono (Nat.le_trans HBs.out hW.size), fun h => h.elim⟩
      · intro xs W hW hall hfr
        clear hfr
        simp only [flowAll, and_true, Nat.zero_add, Nat.reduceAdd] at hall
        obtain ⟨-, -, -, -, -, -, e6⟩ := hall
        simp only [flowAct, List.zipWith_cons_cons, List.zipWith_nil_left, List.drop_succ_cons, List.drop_zero]
        obtain ⟨a4, k4, e3, -⟩ := e6.bys
        have O4 := Lib.hid e6
        rw [e3] at O4
        simp only [e3]
        clear e6 e3 HP3 HP4 HYB O3
        have HB4 := Lib.hid (HB3.out.trans (hW.mono HB3.out.size))
        have HR4 := Lib.hid (heap_below HR3.out hW)
        clear hW HB3 HR3 HCW HBs
        obtain ⟨W4, hW4⟩ : ∃ X, W = X := ⟨_, rfl⟩
        rw [hW4] at HB4 HR4 O4 ⊢
        clear hW4
        obtain ⟨c0, c1, c2, c3, c4, c5, c6⟩ := ch_cells HR4.out
        go_upto_region 7 with (go_at_call 52; (with_reducible refine (HP5.out _ _ _ (own_bys O4.out)).mono ?_); rintro e9 w5 ⟨v5, rfl, ho5, hb5⟩)
        have O5 := Lib.hid (ho5.mono HB4.out.size)
        have HB5 := Lib.hid (HB4.out.trans (hb5.mono HB4.out.size))
        have HR5 := Lib.hid (heap_below HR4.out hb5)
        clear ho5 hb5 HB4 HR4 O4 HP5 c0 c1 c2 c3 c4 c5 c6
        go_loopw [7, 8] (fun v9 i9 wr => ∃ k9 : Nat, k9 ≤ m ∧ i9 = .int .i64 (k9 : Int) ∧ OwnB wr w.heap.size 5 v9 (wputN HE l k9) ∧ (wputN HE l k9).length ≤ 5448 + 128 * k9 ∧ Below w.heap.size w wr ∧ wr.heap[B]? = some (.cells #[.int .i64 site, .int .i64 seq, .int .i64 n, .int .i64 s, .int .i64 a, .int .i64 b, .slice x2 m cap2] 29 (0, 0))) (fun _ i9 _ => m - (intOf i9).toNat)
        case atStart => exact ⟨0, by omega, rfl, O5.out, by have := HHL.out; show HE.length ≤ _; omega, HB5.out, HR5.out⟩
        case round =>
          clear O5 HB5 HR5
          obtain ⟨j, hj, rfl, ho, hlen, hB, hr⟩ := hrel
          obtain ⟨c0, c1, c2, c3, c4, c5, c6⟩ := ch_cells hr
          by_cases hlt : j < m
          · have hji : (j : Int) < (m : Int) := by omega
            have hjc : (j : Int) < (cap2 : Int) := by omega
            obtain ⟨bk, off, rfl, hat⟩ := HL.out.place hlt
            have hmay := w_at (HALL.out j (by rw [hll]; exact hlt))
            rw [hgl] at hmay
            have hst : wputN HE l (j + 1) = wputS (wputN HE l j) (l.getD j Wr.zero) := rfl
            have hle8 := wput_le (wputN HE l j) hmay
            obtain ⟨y, hy⟩ : ∃ y, l.getD j Wr.zero = y := ⟨_, rfl⟩
            rw [hy] at hat hmay hst hle8
            obtain ⟨kx, ix, gx, vx⟩ := y
            simp only at hat
            obtain ⟨f1, f2, f3, f4, f5, f6⟩ := may_few hmay
            simp only at f1 f2 f3 f4 f5 f6
            obtain ⟨acc, hac⟩ : ∃ z, wputN HE l j = z := ⟨_, rfl⟩
            rw [hac] at hst hle8 ho hlen
            rw [← hst] at hle8
            obtain ⟨ax, kk, rfl, -⟩ := ho.bys
            obtain ⟨p0, p1, p2, p3⟩ := hat wr hB
            obtain ⟨u1, hu1⟩ : ∃ z, putTextS acc kx = z := ⟨_, rfl⟩
            obtain ⟨u2, hu2⟩ : ∃ z, u1 ++ numB ix = z := ⟨_, rfl⟩
            have g1 : u1.length ≤ 6600 := by have := putText_le acc kx; rw [← hu1]; omega
            have g2 : u2.length ≤ 6608 := by have := numB_length ix; rw [← hu2, List.length_append]; omega
            have hstep : wputN HE l (j + 1) = if gx = true then u2 ++ numB 1 else putTextS (u2 ++ numB 0) vx := by rw [hst, ← hu2, ← hu1]; rfl
            have hT1 := fun (W : World) (hh : Bys W ax acc.length kk acc) => rputtext_c hh (text kx) (by omega) (by rw [text_size]; omega)
            simp only [text_back, hu1] at hT1
            have HT1 := Lib.hid hT1
            have HT2 := Lib.hid (fun (W : World) (a2 : Option Addr) (k2 : Nat) (hh : Bys W a2 u1.length k2 u1) => show Calls _ _ _ _ (BytesPost u2 W) by rw [← hu2]; exact rput_c hh (by omega) ix (by omega) (by omega))
            have HSTEP := Lib.hid hstep
            have HLE8 := Lib.hid (show (wputN HE l (j + 1)).length ≤ 5448 + 128 * (j + 1) by omega)
            have HBr := Lib.hid hB
            have HRr := Lib.hid hr
            have HOr := Lib.hid ho
            clear hat hmay hst hle8 hy ho hB hr hstep hac hT1 hu1 hu2 f6
            go_upto_region 10 with (fail)
            have hal := alloc_below wr (.cells #[.string (text kx), .int .i64 ix, .bool gx, .string (text vx)] 31)
            have HQ1 := Lib.hid (heap_alloc_new wr (.cells #[.string (text kx), .int .i64 ix, .bool gx, .string (text vx)] 31))
            have HB6 := Lib.hid (HBr.out.trans (hal.mono HBr.out.size))
            have HR6 := Lib.hid (heap_below HRr.out hal)
            have HO6 := Lib.hid (HOr.out.kept hal)
            obtain ⟨gq, hgq⟩ : ∃ z, wr.heap.size = z := ⟨_, rfl⟩
            rw [hgq] at HQ1 ⊢
            clear hgq hal p0 p1 p2 p3 c0 c1 c2 c3 c4 c5 c6 HBr HRr HOr
            generalize wr.alloc (.cells #[.string (text kx), .int .i64 ix, .bool gx, .string (text vx)] 31) = V1 at *
            have HYB := Lib.hid (fun W (h : Below V1.heap.size V1 W) => show Bys W ax acc.length kk acc from (own_bys HO6.out).below h)
            have HQW := Lib.hid (fun W (h : Below V1.heap.size V1 W) => wr_cells (heap_below HQ1.out h))
            have HBs := Lib.hid HB6.out.size
            refine wp_region_flow_tail 7 [none, none, none, none, none, none, none, none, none, none, none, none, none, none, none, none, none, none, none, none, none, none, none, none, none, none, none, none, none, none, none, none, none, none, none, none, none, none, none, none, none, none, none, none, none, none, none, none, some 0, some 1, some 2, some 3, some 4, some 5, some 6, none, none, none, none, none, none, none, none, none, none] (fun i => [u48, u49, u50, u51, u52, u53, u54].getD i undef) [(fun v _ => v = .slice ax acc.length kk), (fun v _ => v = .pointer (some ⟨gq, 0, none⟩)), (fun v _ => v = .string (text kx)), (fun v W => OwnB W w.heap.size 5 v u1), (fun v _ => v = .pointer (some ⟨gq, 1, none⟩)), (fun v _ => v = .int .i64 ix), (fun v W => OwnB W w.heap.size 5 v u2)] (fun _ => False) (by kernel_rfl) (by kernel_rfl) (by kernel_rfl) rfl rfl rfl ?_ ?_ ?_
            · intro g hg v X Y hX hY hv
              simp only [List.mem_cons, List.not_mem_nil, or_false] at hg
              rcases hg with rfl | rfl | rfl | rfl | rfl | rfl | rfl
              all_goals first
                | exact hv
                | exact hv.kept hY
            · simp only [flowOpsF, List.take_succ_cons, List.take_zero, and_true]
              refine ⟨?_, ?_, ?_, ?_, ?_, ?_, ?_⟩
              · intro xs W hW hn
                simp only [flowAct, List.zipWith_cons_cons, List.zipWith_nil_left]
                go_wp2_with (fail)
                exact ⟨rfl, _, rfl, Below.refl _ _, rfl, fun h => h.elim⟩
              · intro xs W hW hn
                simp only [flowAct, List.zipWith_cons_cons, List.zipWith_nil_left]
                go_wp2_with (fail)
                exact ⟨rfl, _, rfl, Below.refl _ _, rfl, fun h => h.elim⟩
              · intro xs W hW hn
                obtain ⟨p0, p1, p2, p3⟩ := HQW.out W hW
                simp [flowNeeds, Region.binds] at hn
                simp only [flowAct, List.zipWith_cons_cons, List.zipWith_nil_left]
                try simp only [hn]
                go_wp2_with (fail)
                exact ⟨rfl, _, rfl, Below.refl _ _, rfl, fun h => h.elim⟩
              · intro xs W hW hn
                simp [flowNeeds, Region.binds] at hn
                simp only [flowAct, List.zipWith_cons_cons, List.zipWith_nil_left]
                simp only [hn]
                go_wp2_with (go_at_call 55; (with_reducible refine (HT1.out _ (HYB.out W hW)).mono ?_); rintro e9 w9 ⟨v9, rfl, ho9, hb9⟩)
                exact ⟨rfl, _, rfl, hb9, ho9.mono (Nat.le_trans HBs.out hW.size), fun h => h.elim⟩
              · intro xs W hW hn
                simp only [flowAct, List.zipWith_cons_cons, List.zipWith_nil_left]
                go_wp2_with (fail)
                exact ⟨rfl, _, rfl, Below.refl _ _, rfl, fun h => h.elim⟩
              · intro xs W hW hn
                obtain ⟨p0, p1, p2, p3⟩ := HQW.out W hW
                simp [flowNeeds, Region.binds] at hn
                simp only [flowAct, List.zipWith_cons_cons, List.zipWith_nil_left]
                try simp only [hn]
                go_wp2_with (fail)
                exact ⟨rfl, _, rfl, Below.refl _ _, rfl, fun h => h.elim⟩
              · intro xs W hW hn
                simp [flowNeeds, Region.binds] at hn
                obtain ⟨ho3, e5⟩ := hn
                obtain ⟨a2, k2, e3, hy3⟩ := ho3.bys
                simp only [flowAct, List.zipWith_cons_cons, List.zipWith_nil_left]
                simp only [e3, e5]
                go_wp2_with (go_at_call 52; (with_reducible refine (HT2.out _ _ _ hy3).mono ?_); rintro e9 w9 ⟨v9, rfl, ho9, hb9⟩)
                exact ⟨rfl, _, rfl, hb9, ho9.mono (Nat.le_trans HBs.out hW.size), fun h => h.elim⟩
            · intro xs W hW hall hfr
              clear hfr
              simp only [flowAll, and_true, Nat.zero_add, Nat.reduceAdd] at hall
              obtain ⟨-, -, -, -, -, -, e6⟩ := hall
              simp only [flowAct, List.zipWith_cons_cons, List.zipWith_nil_left, List.drop_succ_cons, List.drop_zero]
              obtain ⟨a7, k7, e3, -⟩ := e6.bys
              have O7 := Lib.hid e6
              rw [e3] at O7
              simp only [e3]
              clear e6 e3 HT1 HT2 HYB HO6
              have HB7 := Lib.hid (HB6.out.trans (hW.mono HB6.out.size))
              have HR7 := Lib.hid (heap_below HR6.out hW)
              have HQ7 := Lib.hid (heap_below HQ1.out hW)
              clear hW HB6 HR6 HQ1 HQW HBs
              obtain ⟨W7, hW7⟩ : ∃ X, W = X := ⟨_, rfl⟩
              rw [hW7] at HB7 HR7 HQ7 O7 ⊢
              clear hW7
              obtain ⟨p0, p1, p2, p3⟩ := wr_cells HQ7.out
              cases gx with
              | true =>
                have HP8 := Lib.hid (show Calls _ _ _ _ (BytesPost (wputN HE l (j + 1)) W7) by rw [HSTEP.out]; exact rput_c (own_bys O7.out) (by omega) 1 (by omega) (by omega))
                go_wp2_with (go_at_call 52; (with_reducible refine HP8.out.mono ?_); rintro e9 w9 ⟨v9, rfl, ho9, hb9⟩)
                go_roundw
                case rel => exact ⟨j + 1, by omega, by go_num, ho9.mono HB7.out.size, HLE8.out, HB7.out.trans (hb9.mono HB7.out.size), heap_below HR7.out hb9⟩
                case measure => simp [intOf]; omega
              | false =>
                obtain ⟨u3, hu3⟩ : ∃ z, u2 ++ numB 0 = z := ⟨_, rfl⟩
                have g3 : u3.length ≤ 6616 := by have := numB_length 0; rw [← hu3, List.length_append]; omega
                have hst2 := HSTEP.out
                rw [if_neg (by decide), hu3] at hst2
                have HP8 := Lib.hid (fun W (h : Below W7.heap.size W7 W) => show Calls _ _ _ _ (BytesPost u3 W) by rw [← hu3]; exact rput_c ((own_bys O7.out).below h) (by omega) 0 (by omega) (by omega))
                have hT9 := fun (W : World) (a2 : Option Addr) (k2 : Nat) (hh : Bys W a2 u3.length k2 u3) => rputtext_c hh (text vx) (by omega) (by rw [text_size]; omega)
                simp only [text_back, ← hst2] at hT9
                have HT9 := Lib.hid hT9
                have HQW := Lib.hid (fun W (h : Below W7.heap.size W7 W) => wr_cells (heap_below HQ7.out h))
                have HBs := Lib.hid HB7.out.size
                clear hT9 hst2 hu3 HSTEP
                go_upto_region 13 with (fail)
                clear p0 p1 p2 p3
                refine wp_region_flow_tail 5 [none, none, none, none, none, none, none, none, none, none, none, none, none, none, none, none, none, none, none, none, none, none, none, none, none, none, none, none, none, none, none, none, none, none, none, none, none, none, none, none, none, none, none, none, none, none, none, none, none, none, none, none, none, none, none, none, none, none, none, some 0, some 1, some 2, some 3, some 4, none] (fun i => [u59, u60, u61, u62, u63].getD i undef) [(fun v _ => v = .slice a7 u2.length k7), (fun v W => OwnB W w.heap.size 5 v u3), (fun v _ => v = .pointer (some ⟨gq, 3, none⟩)), (fun v _ => v = .string (text vx)), (fun v W => OwnB W w.heap.size 5 v (wputN HE l (j + 1)))] (fun _ => False) (by kernel_rfl) (by kernel_rfl) (by kernel_rfl) rfl rfl rfl ?_ ?_ ?_
                · intro g hg v X Y hX hY hv
                  simp only [List.mem_cons, List.not_mem_nil, or_false] at hg
                  rcases hg with rfl | rfl | rfl | rfl | rfl
                  all_goals first
                    | exact hv
                    | exact hv.kept hY
                · simp only [flowOpsF, List.take_succ_cons, List.take_zero, and_true]
                  refine ⟨?_, ?_, ?_, ?_, ?_⟩
                  · intro xs W hW hn
                    simp only [flowAct, List.zipWith_cons_cons, List.zipWith_nil_left]
                    go_wp2_with (fail)
                    exact ⟨rfl, _, rfl, Below.refl _ _, rfl, fun h => h.elim⟩
                  · intro xs W hW hn
                    simp [flowNeeds, Region.binds] at hn
                    simp only [flowAct, List.zipWith_cons_cons, List.zipWith_nil_left]
                    simp only [hn]
                    go_wp2_with (go_at_call 52; (with_reducible refine (HP8.out _ hW).mono ?_); rintro e9 w9 ⟨v9, rfl, ho9, hb9⟩)
                    exact ⟨rfl, _, rfl, hb9, ho9.mono (Nat.le_trans HBs.out hW.size), fun h => h.elim⟩
                  · intro xs W hW hn
                    simp only [flowAct, List.zipWith_cons_cons, List.zipWith_nil_left]
                    go_wp2_with (fail)
                    exact ⟨rfl, _, rfl, Below.refl _ _, rfl, fun h => h.elim⟩
                  · intro xs W hW hn
                    obtain ⟨p0, p1, p2, p3⟩ := HQW.out W hW
                    simp [flowNeeds, Region.binds] at hn
                    simp only [flowAct, List.zipWith_cons_cons, List.zipWith_nil_left]
                    try simp only [hn]
                    go_wp2_with (fail)
                    exact ⟨rfl, _, rfl, Below.refl _ _, rfl, fun h => h.elim⟩
                  · intro xs W hW hn
                    simp [flowNeeds, Region.binds] at hn
                    obtain ⟨ho3, e5⟩ := hn
                    obtain ⟨a2, k2, e3, hy3⟩ := ho3.bys
                    simp only [flowAct, List.zipWith_cons_cons, List.zipWith_nil_left]
                    simp only [e3, e5]
                    go_wp2_with (go_at_call 55; (with_reducible refine (HT9.out _ _ _ hy3).mono ?_); rintro e9 w9 ⟨v9, rfl, ho9, hb9⟩)
                    exact ⟨rfl, _, rfl, hb9, ho9.mono (Nat.le_trans HBs.out hW.size), fun h => h.elim⟩
                · intro xs W hW hall hfr
                  clear hfr
                  simp only [flowAll, and_true, Nat.zero_add, Nat.reduceAdd] at hall
                  obtain ⟨-, -, -, -, e4⟩ := hall
                  simp only [flowAct, List.zipWith_cons_cons, List.zipWith_nil_left, List.drop_succ_cons, List.drop_zero]
                  have HB8 := Lib.hid (HB7.out.trans (hW.mono HB7.out.size))
                  have HR8 := Lib.hid (heap_below HR7.out hW)
                  have O8 := Lib.hid e4
                  go_wp2
                  go_roundw
                  case rel => exact ⟨j + 1, by omega, by go_num, O8.out, HLE8.out, HB8.out, HR8.out⟩
                  case measure => simp [intOf]; omega
          · obtain rfl : m = j := by omega
            obtain ⟨ax, kk, rfl, -⟩ := ho.bys
            have HO := Lib.hid ho
            have HB := Lib.hid hB
            clear ho hB hr
            go_wp2
            go_ret
            exact ⟨_, rfl, by rw [HRR.out]; exact HO.out, HB.out⟩
  · have h0n : (R != 0) = true := by simpa using h0
    have HRR := Lib.hid (HQ.out h0)
    clear HP HQ HIV h0
    go_upto_region 2 with (go_at_call 14; (with_reducible refine (HGD.out _ HB1.out).mono ?_); rintro e9 w2 ⟨rfl, hb2⟩)
    have HB2 := Lib.hid (HB1.out.trans (hb2.mono HB1.out.size))
    have hla := (HY.out.below HB2.out).below (alloc_below w2 (.cells #[] 5))
    have hoe := OwnB.empty w2 w2.heap.size 5 (Nat.le_refl _)
    clear hb2 HB1 HGD c0 c1 c2 c3 c4 c5 c6
    go_wp2_with (at_builtin; refine wpList_append_bys rfl (.tmp 14) (.tmp 15) 50 rfl Tryd.underlying50 hi hz0 hz1 hz2 rfl rfl hoe rfl hla (by simp; omega) (by simp) ?_; intro v1 w3 ho1 hg1)
    have b1 : Below w2.heap.size w2 w3 := ((Below.refl w2.heap.size w2).alloc (Nat.le_refl _) (.cells #[] 5)).grown hg1 (by simp) (fun k hk => (hoe.lt k hk).1)
    rw [List.nil_append] at ho1
    go_ret
    exact ⟨_, rfl, by rw [HRR.out]; exact ho1.mono HB2.out.size, HB2.out.trans (b1.mono HB2.out.size)⟩
end Go.Proofs.YtfkmfccdhmnllaaDoor
end

section
namespace Go.Proofs.YtfkmfccdhmnllaaDoor
open Go.RowKit Go Go.Sort
set_option linter.unusedVariables false
set_option maxRecDepth 20000

/-- The change with which bytes begin, how many they are, and an error. -/
def chgetS (gs : List Grp) (l : List UInt8) : (Int × Int × Int × Int × Int × Int × List Wr) × Int × Int :=
  if ¬ pgoodS gs = 0 then ((0, 0, 0, 0, 0, 0, []), 0, pgoodS gs) else match chreadS l with
  | none => ((0, 0, 0, 0, 0, 0, []), 0, 120)
  | some (site, seq, n, s, a, b, ws, q) => if chgoodS gs site seq n s a b ws = 0 then ((site, seq, n, s, a, b, ws), (q : Int), 0) else ((0, 0, 0, 0, 0, 0, []), 0, 120)
theorem chget_pol {gs : List Grp} {l : List UInt8} (h : ¬ pgoodS gs = 0) : chgetS gs l = ((0, 0, 0, 0, 0, 0, []), 0, pgoodS gs) := by unfold chgetS; rw [if_pos h]
theorem chget_none {gs : List Grp} {l : List UInt8} (h : pgoodS gs = 0) (hr : chreadS l = none) : chgetS gs l = ((0, 0, 0, 0, 0, 0, []), 0, 120) := by unfold chgetS; rw [if_neg (not_not_intro h), hr]
theorem chget_bad {gs : List Grp} {l : List UInt8} (site seq n s a b : Int) (ws : List Wr) (q : Nat) (h : pgoodS gs = 0) (hr : chreadS l = some (site, seq, n, s, a, b, ws, q)) (hg : ¬ chgoodS gs site seq n s a b ws = 0) : chgetS gs l = ((0, 0, 0, 0, 0, 0, []), 0, 120) := by unfold chgetS; rw [if_neg (not_not_intro h), hr]; simp only; rw [if_neg hg]
theorem chget_yes {gs : List Grp} {l : List UInt8} (site seq n s a b : Int) (ws : List Wr) (q : Nat) (h : pgoodS gs = 0) (hr : chreadS l = some (site, seq, n, s, a, b, ws, q)) (hg : chgoodS gs site seq n s a b ws = 0) : chgetS gs l = ((site, seq, n, s, a, b, ws), (q : Int), 0) := by unfold chgetS; rw [if_neg (not_not_intro h), hr]; simp only; rw [if_pos hg]
/-- A change, how many bytes, an error. -/
def ChGetPost (r : (Int × Int × Int × Int × Int × Int × List Wr) × Int × Int) (w : World) (e : Ending) (w' : World) : Prop :=
  ∃ (site seq n s a b : Int) (v : Value) (ws : List Wr) (k er : Int), e = .returned (.tuple #[.agg #[.int .i64 site, .int .i64 seq, .int .i64 n, .int .i64 s, .int .i64 a, .int .i64 b, v], .int .i64 k, .int .i64 er]) ∧ OwnW w' w.heap.size v ws ∧ WShort ws ∧ Below w.heap.size w w' ∧ r = ((site, seq, n, s, a, b, ws), k, er)

set_option maxRecDepth 100000 in
set_option maxHeartbeats 12800000 in
theorem rchget_c {w : World} {ad : Option Addr} {m9 cap9 : Nat} {by9 : List UInt8} (hy : Bys w ad m9 cap9 by9) {x : Option Addr} {n1 cap : Nat} {gs : List Grp} (hg : Grs w x n1 cap gs) (hs : ∀ g ∈ gs, g.1.length ≤ 9223372036854775807) :
    Calls Tryd.prog 21 #[.slice ad m9 cap9, .slice x n1 cap] w (ChGetPost (chgetS gs by9) w) := by
  have hb := alloc_below w (.cells #[.int .i64 0, .int .i64 0, .int .i64 0, .int .i64 0, .int .i64 0, .int .i64 0, .slice none 0 0] 29)
  have hz := heap_alloc_new w (.cells #[.int .i64 0, .int .i64 0, .int .i64 0, .int .i64 0, .int .i64 0, .int .i64 0, .slice none 0 0] 29)
  have HRD := Lib.hid (fun W (h : Below w.heap.size w W) => rread_c (hy.below h))
  have HPG := Lib.hid (fun W (h : Below w.heap.size w W) => rpgood_c (hg.below h) hs)
  have HCG := Lib.hid (fun W (h : Below w.heap.size w W) (x2 : Option Addr) (m cap2 : Nat) (l : List Wr) (hl : Wrs W x2 m cap2 l) (hx : WShort l) (site seq n s a b : Int) => rchgood_c (hg.below h) hs hl hx site seq n s a b)
  have H1 := Lib.hid (@chget_pol gs by9)
  have H2 := Lib.hid (@chget_none gs by9)
  have H3 := Lib.hid (@chget_bad gs by9)
  have H4 := Lib.hid (@chget_yes gs by9)
  obtain ⟨RV, hRV⟩ : ∃ z, chgetS gs by9 = z := ⟨_, rfl⟩
  rw [hRV] at H1 H2
  simp only [hRV] at H3 H4
  rw [hRV]
  obtain ⟨P, hP⟩ : ∃ z, pgoodS gs = z := ⟨_, rfl⟩
  rw [hP] at H1 H2
  simp only [hP] at HPG H3 H4
  clear hRV hP hy hg
  go_enter Tryd.func21, Tryd.ntmps21
  go_upto_region 1 with (fail)
  obtain ⟨B, hB⟩ : ∃ z, w.heap.size = z := ⟨_, rfl⟩
  have HBe := Lib.hid hB
  rw [hB] at hz ⊢
  clear hB
  generalize w.alloc (.cells #[.int .i64 0, .int .i64 0, .int .i64 0, .int .i64 0, .int .i64 0, .int .i64 0, .slice none 0 0] 29) = W1 at *
  have HB1 := Lib.hid hb
  have HZ1 := Lib.hid hz
  clear hz hb
  by_cases h0 : P = 0
  · subst h0
    go_upto_region 3 with (go_at_call 36; (with_reducible refine (HPG.out _ HB1.out).mono ?_); rintro e9 w2 ⟨rfl, hb2⟩)
    have HB2 := Lib.hid (HB1.out.trans (hb2.mono HB1.out.size))
    have HZ2 := Lib.hid (heap_below HZ1.out hb2)
    have HP0 := Lib.hid (show (0 : Int) = 0 from rfl)
    clear hb2 HB1 HZ1 HPG H1
    go_upto_region 5 with (go_at_call 49; (with_reducible refine (HRD.out _ HB2.out).mono ?_); rintro e9 w4 ⟨site, seq, n, s, a, b, v, ws, k, ok, rfl, ho4, hsh4, hb4, hno4, hyes4⟩; obtain ⟨a9, c9, rfl, -⟩ := OwnL.wrs ho4)
    have hal := alloc_below w4 (.cells #[.int .i64 site, .int .i64 seq, .int .i64 n, .int .i64 s, .int .i64 a, .int .i64 b, .slice a9 ws.length c9] 29)
    have hbx := hb4.trans (hal.mono hb4.size)
    have HS4 := Lib.hid (heap_alloc_new w4 (.cells #[.int .i64 site, .int .i64 seq, .int .i64 n, .int .i64 s, .int .i64 a, .int .i64 b, .slice a9 ws.length c9] 29))
    have HB4 := Lib.hid (HB2.out.trans (hbx.mono HB2.out.size))
    have HZ4 := Lib.hid (heap_below HZ2.out hbx)
    have HO4 := Lib.hid ((ho4.mono HB2.out.size).kept hal)
    obtain ⟨gw, hgw⟩ : ∃ z, w4.heap.size = z := ⟨_, rfl⟩
    rw [hgw] at HS4 ⊢
    generalize w4.alloc (.cells #[.int .i64 site, .int .i64 seq, .int .i64 n, .int .i64 s, .int .i64 a, .int .i64 b, .slice a9 ws.length c9] 29) = W4 at *
    clear ho4 hb4 hal hbx HB2 HZ2 hgw HRD
    have HSH := Lib.hid hsh4
    clear hsh4
    obtain ⟨⟨x0, x1, x2, x3, x4, x5, x6⟩, xf⟩ := ch_any HS4.out
    cases ok with
    | false =>
      have HRR := Lib.hid (H2.out HP0.out (hno4 rfl))
      obtain ⟨⟨z0, z1, z2, z3, z4, z5, z6⟩, zf⟩ := ch_any HZ4.out
      have HSB := Lib.hid (ch_set HZ4.out (.int .i64 0) (.int .i64 0) (.int .i64 0) (.int .i64 0) (.int .i64 0) (.int .i64 0) (.slice none 0 0))
      have HBB := Lib.hid (ch_set_below (q := B) HB4.out (by have := HBe.out; omega) (.int .i64 0) (.int .i64 0) (.int .i64 0) (.int .i64 0) (.int .i64 0) (.int .i64 0) (.slice none 0 0))
      go_wp2
      refine bodyPost_ret (res_cell_tmp2 rfl _ _ B 29 _ (0, 0) _ (.int .i64 (0)) (.int .i64 (120)) rfl rfl rfl HSB.out Tryd.underlying29 rfl (by kernel_rfl)) rfl ⟨_, _, _, _, _, _, _, [], 0, 120, rfl, OwnL.nil _ _ _, (fun c hc => by cases hc), HBB.out, HRR.out⟩
    | true =>
      obtain ⟨q, hq, -, hrd⟩ := hyes4 rfl
      subst hq
      obtain ⟨a8, c8, e8, hws⟩ := OwnL.wrs HO4.out
      injection e8 with e81 e82 e83
      subst e81 e83
      have HCC := Lib.hid (HCG.out W4 HB4.out a9 ws.length c9 ws hws HSH.out site seq n s a b)
      by_cases h1 : chgoodS gs site seq n s a b ws = 0
      · have HRR := Lib.hid (H4.out site seq n s a b ws q HP0.out hrd h1)
        simp only [h1] at HCC
        clear hrd h1 hws e82 hno4 hyes4 HCG
        go_upto_region 7 with (go_at_call 14; (with_reducible refine HCC.out.mono ?_); rintro e9 w5 ⟨rfl, hb5⟩)
        have HB5 := Lib.hid (HB4.out.trans (hb5.mono HB4.out.size))
        have HZ5 := Lib.hid (heap_below HZ4.out hb5)
        have HS5 := Lib.hid (heap_below HS4.out hb5)
        have HO5 := Lib.hid (HO4.out.kept hb5)
        obtain ⟨⟨y0, y1, y2, y3, y4, y5, y6⟩, yf⟩ := ch_any HS5.out
        clear hb5 HB4 HZ4 HS4 HO4
        obtain ⟨⟨z0, z1, z2, z3, z4, z5, z6⟩, zf⟩ := ch_any HZ5.out
        have HSB := Lib.hid (ch_set HZ5.out (.int .i64 site) (.int .i64 seq) (.int .i64 n) (.int .i64 s) (.int .i64 a) (.int .i64 b) (.slice a9 ws.length c9))
        have HBB := Lib.hid (ch_set_below (q := B) HB5.out (by have := HBe.out; omega) (.int .i64 site) (.int .i64 seq) (.int .i64 n) (.int .i64 s) (.int .i64 a) (.int .i64 b) (.slice a9 ws.length c9))
        have HOB := Lib.hid ((HO5.out).of_block fun q hq => ch_set_other (q := B) (p := q) (fun e => own_ne HZ5.out (by decide) HO5.out (by rw [hq, e])) (.int .i64 site) (.int .i64 seq) (.int .i64 n) (.int .i64 s) (.int .i64 a) (.int .i64 b) (.slice a9 ws.length c9))
        go_wp2
        refine bodyPost_ret (res_cell_tmp2 rfl _ _ B 29 _ (0, 0) _ (.int .i64 ((q : Int))) (.int .i64 (0)) rfl rfl rfl HSB.out Tryd.underlying29 rfl (by kernel_rfl)) rfl ⟨_, _, _, _, _, _, _, ws, (q : Int), 0, rfl, HOB.out, HSH.out, HBB.out, HRR.out⟩
      · have HRR := Lib.hid (H3.out site seq n s a b ws q HP0.out hrd h1)
        obtain ⟨ER, hER⟩ : ∃ z, chgoodS gs site seq n s a b ws = z := ⟨_, rfl⟩
        rw [hER] at h1
        simp only [hER] at HCC
        have h1n : (ER != 0) = true := by simpa using h1
        clear hrd hws e82 hno4 hyes4 HCG hER
        go_upto_region 6 with (go_at_call 14; (with_reducible refine HCC.out.mono ?_); rintro e9 w5 ⟨rfl, hb5⟩)
        have HB5 := Lib.hid (HB4.out.trans (hb5.mono HB4.out.size))
        have HZ5 := Lib.hid (heap_below HZ4.out hb5)
        have HS5 := Lib.hid (heap_below HS4.out hb5)
        have HO5 := Lib.hid (HO4.out.kept hb5)
        obtain ⟨⟨y0, y1, y2, y3, y4, y5, y6⟩, yf⟩ := ch_any HS5.out
        clear hb5 HB4 HZ4 HS4 HO4
        obtain ⟨⟨z0, z1, z2, z3, z4, z5, z6⟩, zf⟩ := ch_any HZ5.out
        have HSB := Lib.hid (ch_set HZ5.out (.int .i64 0) (.int .i64 0) (.int .i64 0) (.int .i64 0) (.int .i64 0) (.int .i64 0) (.slice none 0 0))
        have HBB := Lib.hid (ch_set_below (q := B) HB5.out (by have := HBe.out; omega) (.int .i64 0) (.int .i64 0) (.int .i64 0) (.int .i64 0) (.int .i64 0) (.int .i64 0) (.slice none 0 0))
        go_wp2
        refine bodyPost_ret (res_cell_tmp2 rfl _ _ B 29 _ (0, 0) _ (.int .i64 (0)) (.int .i64 (120)) rfl rfl rfl HSB.out Tryd.underlying29 rfl (by kernel_rfl)) rfl ⟨_, _, _, _, _, _, _, [], 0, 120, rfl, OwnL.nil _ _ _, (fun c hc => by cases hc), HBB.out, HRR.out⟩
  · have h0n : (P != 0) = true := by simpa using h0
    have HRR := Lib.hid (H1.out h0)
    go_upto_region 2 with (go_at_call 36; (with_reducible refine (HPG.out _ HB1.out).mono ?_); rintro e9 w2 ⟨rfl, hb2⟩)
    have HB2 := Lib.hid (HB1.out.trans (hb2.mono HB1.out.size))
    have HZ2 := Lib.hid (heap_below HZ1.out hb2)
    clear hb2 HB1 HZ1 HPG
    obtain ⟨⟨z0, z1, z2, z3, z4, z5, z6⟩, zf⟩ := ch_any HZ2.out
    have HSB := Lib.hid (ch_set HZ2.out (.int .i64 0) (.int .i64 0) (.int .i64 0) (.int .i64 0) (.int .i64 0) (.int .i64 0) (.slice none 0 0))
    have HBB := Lib.hid (ch_set_below (q := B) HB2.out (by have := HBe.out; omega) (.int .i64 0) (.int .i64 0) (.int .i64 0) (.int .i64 0) (.int .i64 0) (.int .i64 0) (.slice none 0 0))
    go_wp2
    refine bodyPost_ret (res_cell_tmp2 rfl _ _ B 29 _ (0, 0) _ (.int .i64 (0)) (.int .i64 (P)) rfl rfl rfl HSB.out Tryd.underlying29 rfl (by kernel_rfl)) rfl ⟨_, _, _, _, _, _, _, [], 0, P, rfl, OwnL.nil _ _ _, (fun c hc => by cases hc), HBB.out, HRR.out⟩
end Go.Proofs.YtfkmfccdhmnllaaDoor
end

section
namespace Go.Proofs.YtfkmfccdhmnllaaDoor
open Go.RowKit Go Go.Sort
set_option linter.unusedVariables false
set_option maxRecDepth 20000

theorem dr1 (A B : List UInt8) : (A ++ B).drop A.length = B := by simp
theorem dr2 (A B C : List UInt8) : (A ++ (B ++ C)).drop (A.length + B.length) = C := by rw [← List.drop_drop, dr1, dr1]
theorem dr3 (A B C D : List UInt8) : (A ++ (B ++ (C ++ D))).drop (A.length + B.length + C.length) = D := by rw [← List.drop_drop, dr2, dr1]
theorem dr4 (A B C D E : List UInt8) : (A ++ (B ++ (C ++ (D ++ E)))).drop (A.length + B.length + C.length + D.length) = E := by rw [← List.drop_drop, dr3, dr1]
theorem putText_nil (l t : List UInt8) : putTextS l t = l ++ putTextS [] t := by have := putText_app l [] t; simpa using this
theorem sput_nil (l : List UInt8) (n s : Int) : sputS l n s = l ++ sputS [] n s := by have := sput_app l [] n s; simpa using this
theorem vput_nil (l : List UInt8) (a b : Int) : vputS l a b = l ++ vputS [] a b := by have := vput_app l [] a b; simpa using this
theorem wput_one (k : List UInt8) (i : Int) (g : Bool) (v : List UInt8) : wputS [] ⟨k, i, g, v⟩ = putTextS [] k ++ (numB i ++ (if g = true then numB 1 else numB 0 ++ putTextS [] v)) := by
  unfold wputS
  cases g with
  | true => simp
  | false =>
    simp only [Bool.false_eq_true, if_false]
    rw [putText_nil (putTextS [] k ++ numB i ++ numB 0) v]
    simp
theorem wput_nil (l : List UInt8) (c : Wr) : wputS l c = l ++ wputS [] c := by
  obtain ⟨k, i, g, v⟩ := c
  rw [wput_one]
  unfold wputS
  cases g with
  | true =>
    simp only [if_true]
    rw [putText_nil l k]
    simp
  | false =>
    simp only [Bool.false_eq_true, if_false]
    rw [putText_nil (putTextS l k ++ numB i ++ numB 0) v, putText_nil l k]
    simp
/-- A write that may be comes back. -/
theorem w_back {n : Nat} {c : Wr} (h : mayS n c = true) (hn : n ≤ 1000) (t : List UInt8) : wgetS (wputS [] c ++ t) = some (c, (wputS [] c).length) := by
  obtain ⟨h1, -, h3, h4, h5, h6⟩ := may_few h
  obtain ⟨k, i, g, v⟩ := c
  simp only at h1 h3 h4 h5 h6
  rw [wput_one]
  cases g with
  | true =>
    obtain rfl := h6 rfl
    simp only [if_true]
    rw [show (putTextS [] k ++ (numB i ++ numB 1)) ++ t = putTextS [] k ++ (numB i ++ (numB 1 ++ t)) by simp]
    rw [wget_5 (tget_back (by omega) (by decide) _) (by rw [dr1]; exact get_num i _ h3 (by omega)) (by rw [dr2]; exact get_num 1 t (by decide) (by decide))]
    simp [Nat.add_assoc]
  | false =>
    simp only [Bool.false_eq_true, if_false]
    rw [show (putTextS [] k ++ (numB i ++ (numB 0 ++ putTextS [] v))) ++ t = putTextS [] k ++ (numB i ++ (numB 0 ++ (putTextS [] v ++ t))) by simp]
    rw [wget_7 (tget_back (by omega) (by decide) _) (by rw [dr1]; exact get_num i _ h3 (by omega)) (by rw [dr2]; exact get_num 0 _ (by decide) (by decide)) (by decide) (by decide) (by rw [dr3]; exact tget_back (by omega) (by decide) t)]
    simp [Nat.add_assoc]
/-- What a write off bytes is read from. -/
theorem wget_inv {l : List UInt8} {c : Wr} {q : Nat} (h : wgetS l = some (c, q)) : ∃ (t : List UInt8) (i : Int) (q1 q2 q3 : Nat), textS l 32 = (t, (q1 : Int), 0) ∧ getS (l.drop q1) = (i, (q2 : Int), 0) ∧
    ((getS (l.drop (q1 + q2)) = (1, (q3 : Int), 0) ∧ c = ⟨t, i, true, []⟩ ∧ q = q1 + q2 + q3) ∨ (∃ (v : List UInt8) (q4 : Nat), getS (l.drop (q1 + q2)) = (0, (q3 : Int), 0) ∧ textS (l.drop (q1 + q2 + q3)) 64 = (v, (q4 : Int), 0) ∧ c = ⟨t, i, false, v⟩ ∧ q = q1 + q2 + q3 + q4)) := by
  obtain ⟨⟨t, kt, ft⟩, h1⟩ : ∃ z, textS l 32 = z := ⟨_, rfl⟩
  by_cases e1 : ft = 0
  · subst e1
    obtain ⟨q1, e, hq1, ht⟩ := textS_ok l 32 (by rw [h1])
    rw [h1] at e
    simp only at e
    subst e
    obtain ⟨⟨i, k2, f2⟩, h2⟩ : ∃ z, getS (l.drop q1) = z := ⟨_, rfl⟩
    by_cases e2 : f2 = 0
    · subst e2
      obtain ⟨q2, e, -, hq2, -, -⟩ := getS_ok (l.drop q1) (by rw [h2])
      rw [h2] at e
      simp only at e
      subst e
      obtain ⟨⟨g, k3, f3⟩, h3⟩ : ∃ z, getS (l.drop (q1 + q2)) = z := ⟨_, rfl⟩
      by_cases e3 : f3 = 0
      · subst e3
        obtain ⟨q3, e, -, hq3, hg0, -⟩ := getS_ok (l.drop (q1 + q2)) (by rw [h3])
        rw [h3] at e hg0
        simp only at e hg0
        subst e
        by_cases e4 : 1 < g
        · rw [wget_4 h1 h2 h3 e4] at h; cases h
        · by_cases e5 : g = 1
          · subst e5
            rw [wget_5 h1 h2 h3] at h
            injection h with h
            injection h with hc hq
            exact ⟨t, i, q1, q2, q3, h1, h2, .inl ⟨h3, hc.symm, hq.symm⟩⟩
          · obtain ⟨⟨v, k4, f4⟩, h4⟩ : ∃ z, textS (l.drop (q1 + q2 + q3)) 64 = z := ⟨_, rfl⟩
            by_cases e6 : f4 = 0
            · subst e6
              obtain ⟨q4, e, hq4, hv⟩ := textS_ok (l.drop (q1 + q2 + q3)) 64 (by rw [h4])
              rw [h4] at e
              simp only at e
              subst e
              rw [wget_7 h1 h2 h3 e4 e5 h4] at h
              injection h with h
              injection h with hc hq
              obtain rfl : g = 0 := by omega
              exact ⟨t, i, q1, q2, q3, h1, h2, .inr ⟨v, q4, h3, h4, hc.symm, hq.symm⟩⟩
            · rw [wget_6 h1 h2 h3 e4 e5 h4 e6] at h; cases h
      · rw [wget_3 h1 h2 h3 e3] at h; cases h
    · rw [wget_2 h1 h2 e2] at h; cases h
  · rw [wget_1 h1 e1] at h; cases h
/-- What is got of a write is put as it was. -/
theorem w_form {l : List UInt8} {c : Wr} {q : Nat} (h : wgetS l = some (c, q)) : wputS [] c = l.take q ∧ q ≤ l.length := by
  obtain ⟨t, i, q1, q2, q3, h1, h2, h3⟩ := wget_inv h
  obtain ⟨a1, a2, -⟩ := tget_form h1
  obtain ⟨b1, b2, -, -⟩ := numB_take h2
  rw [List.length_drop] at b2
  rcases h3 with ⟨h3, rfl, rfl⟩ | ⟨v, q4, h3, h4, rfl, rfl⟩
  · obtain ⟨c1, c2, -, -⟩ := numB_take h3
    rw [List.length_drop] at c2
    refine ⟨?_, by omega⟩
    rw [wput_one, a1, ← b1, List.take_add, List.take_add, c1]
    simp
  · obtain ⟨c1, c2, -, -⟩ := numB_take h3
    rw [List.length_drop] at c2
    obtain ⟨d1, d2, -⟩ := tget_form h4
    rw [List.length_drop] at d2
    refine ⟨?_, by omega⟩
    rw [wput_one, a1, ← b1, List.take_add, List.take_add, List.take_add, c1, d1]
    simp
theorem wputN_nil (l : List UInt8) (ws : List Wr) : ∀ k, wputN l ws k = l ++ wputN [] ws k
  | 0 => by simp [wputN]
  | k + 1 => by
    show wputS (wputN l ws k) _ = l ++ wputS (wputN [] ws k) _
    rw [wput_nil, wputN_nil l ws k, wput_nil (wputN [] ws k), List.append_assoc]
theorem wputN_succ (ws : List Wr) (k : Nat) : wputN [] ws (k + 1) = wputN [] ws k ++ wputS [] (ws.getD k Wr.zero) := wput_nil _ _
theorem wputN_split (ws : List Wr) (k : Nat) : ∀ m, k < m → ∃ r, wputN [] ws m = wputN [] ws k ++ (wputS [] (ws.getD k Wr.zero) ++ r)
  | m + 1, h => by
    by_cases e : k = m
    · subst e; exact ⟨[], by rw [wputN_succ, List.append_nil]⟩
    · obtain ⟨r, hr⟩ := wputN_split ws k m (by omega)
      exact ⟨r ++ wputS [] (ws.getD m Wr.zero), by rw [wputN_succ, hr]; simp⟩
theorem wputN_pre (ws : List Wr) (c : Wr) : ∀ k, k ≤ ws.length → wputN [] (ws ++ [c]) k = wputN [] ws k
  | 0, _ => rfl
  | k + 1, h => by
    rw [wputN_succ, wputN_succ, wputN_pre ws c k (by omega), List.getD_eq_getElem?_getD, List.getD_eq_getElem?_getD, List.getElem?_append_left (by omega)]
theorem readN_back {n : Nat} {ws : List Wr} {l A t : List UInt8} (hn : n ≤ 1000) (hall : ∀ j, j < ws.length → mayS n (ws.getD j Wr.zero) = true) (hl : l = A ++ (wputN [] ws ws.length ++ t)) : ∀ k, k ≤ ws.length → readN l A.length k = some (ws.take k, A.length + (wputN [] ws k).length)
  | 0, _ => rfl
  | k + 1, h => by
    obtain ⟨r, hr⟩ := wputN_split ws k ws.length (by omega)
    have hd : l.drop (A.length + (wputN [] ws k).length) = wputS [] (ws.getD k Wr.zero) ++ (r ++ t) := by
      rw [hl, hr, show A ++ ((wputN [] ws k ++ (wputS [] (ws.getD k Wr.zero) ++ r)) ++ t) = A ++ (wputN [] ws k ++ (wputS [] (ws.getD k Wr.zero) ++ (r ++ t))) by simp, dr2]
    rw [readN_ok (readN_back hn hall hl k (by omega)) (by rw [hd]; exact w_back (hall k (by omega)) hn _), wputN_succ, List.length_append, List.take_add_one, List.getD_eq_getElem?_getD, List.getElem?_eq_getElem (by omega)]
    simp [Nat.add_assoc]
theorem readN_form {l : List UInt8} {a0 : Nat} (h0 : a0 ≤ l.length) : ∀ (k : Nat) {ws : List Wr} {q : Nat}, readN l a0 k = some (ws, q) → ws.length = k ∧ a0 ≤ q ∧ q ≤ l.length ∧ wputN [] ws k = (l.drop a0).take (q - a0)
  | 0, ws, q, h => by
    injection h with h
    injection h with h1 h2
    subst h1 h2
    exact ⟨rfl, Nat.le_refl _, h0, by simp [wputN]⟩
  | k + 1, ws, q, h => by
    have h : ((readN l a0 k).bind fun r => (wgetS (l.drop r.2)).map fun x => (r.1 ++ [x.1], r.2 + x.2)) = some (ws, q) := h
    cases h1 : readN l a0 k with
    | none => rw [h1] at h; cases h
    | some r =>
      obtain ⟨ws', q'⟩ := r
      rw [h1] at h
      have h : ((wgetS (l.drop q')).map fun x => (ws' ++ [x.1], q' + x.2)) = some (ws, q) := h
      cases h2 : wgetS (l.drop q') with
      | none => rw [h2] at h; cases h
      | some r2 =>
        obtain ⟨c, p⟩ := r2
        rw [h2] at h
        injection h with h
        injection h with e1 e2
        simp only at e1 e2
        subst e1 e2
        obtain ⟨f1, f2, f3, f4⟩ := readN_form h0 k h1
        obtain ⟨g1, g2⟩ := w_form h2
        rw [List.length_drop] at g2
        refine ⟨by rw [List.length_append, f1]; rfl, by omega, by omega, ?_⟩
        rw [wputN_succ, wputN_pre ws' c k (by omega), f4, List.getD_eq_getElem?_getD, List.getElem?_append_right (by omega), f1, Nat.sub_self]
        rw [show q' + p - a0 = (q' - a0) + p by omega, List.take_add, List.drop_drop, show a0 + (q' - a0) = q' by omega, ← g1]
        rfl
theorem chead_one (site seq n s a b : Int) (m : Nat) : cheadB [] site seq n s a b m = numB site ++ (numB seq ++ (sputS [] n s ++ (vputS [] a b ++ numB (m : Int)))) := by
  unfold cheadB
  rw [vput_nil, sput_nil]
  simp
/-- A change that may be comes back, whatever stands behind it. -/
theorem chread_back {gs : List Grp} {site seq n s a b : Int} {ws : List Wr} (h : chgoodS gs site seq n s a b ws = 0) (t : List UInt8) :
    chreadS (wputN (cheadB [] site seq n s a b ws.length) ws ws.length ++ t) = some (site, seq, n, s, a, b, ws, (wputN (cheadB [] site seq n s a b ws.length) ws ws.length).length) := by
  obtain ⟨h1, h2, h3⟩ := ch_inv h
  obtain ⟨d1, d2, d3, d4, d5, d6, d7, d8, d9⟩ := head_ok h2
  have hgl := pgood_len h1
  rw [wputN_nil, chead_one]
  have hA := readN_back (l := (numB site ++ (numB seq ++ (sputS [] n s ++ (vputS [] a b ++ numB (ws.length : Int))))) ++ (wputN [] ws ws.length ++ t)) (t := t) (n := gs.length) (by omega) (fun j hj => w_at (h3 j hj)) rfl ws.length (Nat.le_refl _)
  rw [List.take_length] at hA
  have hl : (numB site ++ (numB seq ++ (sputS [] n s ++ (vputS [] a b ++ numB (ws.length : Int))))) ++ (wputN [] ws ws.length ++ t) = numB site ++ (numB seq ++ (sputS [] n s ++ (vputS [] a b ++ (numB (ws.length : Int) ++ (wputN [] ws ws.length ++ t))))) := by simp
  have hn : (numB site ++ (numB seq ++ (sputS [] n s ++ (vputS [] a b ++ numB (ws.length : Int))))).length = (numB site).length + (numB seq).length + (sputS [] n s).length + (vputS [] a b).length + (numB (ws.length : Int)).length := by
    simp only [List.length_append]; omega
  rw [List.append_assoc, hl]
  rw [hn, hl] at hA
  rw [rd_7 (get_num site _ (by omega) (by omega)) (by rw [dr1]; exact get_num seq _ (by omega) (by omega)) (by rw [dr2]; exact sget_put d4 _) (by rw [dr3]; exact vget_back d6 _) (by rw [dr4]; exact get_num _ _ (by omega) (by omega)) (by omega), Int.toNat_natCast, hA, List.length_append, hn]
  rfl
theorem chread_inv {l : List UInt8} {site seq n s a b : Int} {ws : List Wr} {q : Nat} (h : chreadS l = some (site, seq, n, s, a, b, ws, q)) : ∃ q1 q2 q3 q4 q5 m : Nat, getS l = (site, (q1 : Int), 0) ∧ getS (l.drop q1) = (seq, (q2 : Int), 0) ∧ sgetS (l.drop (q1 + q2)) = ((n, s), (q3 : Int), 0) ∧ vgetS (l.drop (q1 + q2 + q3)) = ((a, b), (q4 : Int), 0) ∧
    getS (l.drop (q1 + q2 + q3 + q4)) = ((m : Int), (q5 : Int), 0) ∧ readN l (q1 + q2 + q3 + q4 + q5) m = some (ws, q) := by
  obtain ⟨⟨site', k1, f1⟩, h1⟩ : ∃ z, getS l = z := ⟨_, rfl⟩
  by_cases e1 : f1 = 0
  · subst e1
    obtain ⟨q1, e, -, hq1, -, -⟩ := getS_ok l (by rw [h1])
    rw [h1] at e
    simp only at e
    subst e
    obtain ⟨⟨seq', k2, f2⟩, h2⟩ : ∃ z, getS (l.drop q1) = z := ⟨_, rfl⟩
    by_cases e2 : f2 = 0
    · subst e2
      obtain ⟨q2, e, -, hq2, -, -⟩ := getS_ok (l.drop q1) (by rw [h2])
      rw [h2] at e
      simp only at e
      subst e
      obtain ⟨⟨⟨n', s'⟩, k3, f3⟩, h3⟩ : ∃ z, sgetS (l.drop (q1 + q2)) = z := ⟨_, rfl⟩
      by_cases e3 : f3 = 0
      · subst e3
        obtain ⟨q3, e, hq3⟩ := sgetS_ok (l.drop (q1 + q2)) (by rw [h3])
        rw [h3] at e
        simp only at e
        subst e
        obtain ⟨⟨⟨a', b'⟩, k4, f4⟩, h4⟩ : ∃ z, vgetS (l.drop (q1 + q2 + q3)) = z := ⟨_, rfl⟩
        by_cases e4 : f4 = 0
        · subst e4
          obtain ⟨q4, e, hq4⟩ := vgetS_ok (l.drop (q1 + q2 + q3)) (by rw [h4])
          rw [h4] at e
          simp only at e
          subst e
          obtain ⟨⟨m', k5, f5⟩, h5⟩ : ∃ z, getS (l.drop (q1 + q2 + q3 + q4)) = z := ⟨_, rfl⟩
          by_cases e5 : f5 = 0
          · subst e5
            obtain ⟨q5, e, -, hq5, hm0, -⟩ := getS_ok (l.drop (q1 + q2 + q3 + q4)) (by rw [h5])
            rw [h5] at e hm0
            simp only at e hm0
            subst e
            obtain ⟨m, rfl⟩ : ∃ m : Nat, m' = (m : Int) := ⟨m'.toNat, by omega⟩
            by_cases e6 : (8 : Int) < (m : Int)
            · rw [rd_6 h1 h2 h3 h4 h5 e6] at h; cases h
            · rw [rd_7 h1 h2 h3 h4 h5 e6, Int.toNat_natCast] at h
              cases h6 : readN l (q1 + q2 + q3 + q4 + q5) m with
              | none => rw [h6] at h; cases h
              | some r =>
                obtain ⟨ws', q'⟩ := r
                rw [h6] at h
                simp only [Option.map_some, Option.some.injEq, Prod.mk.injEq] at h
                obtain ⟨rfl, rfl, rfl, rfl, rfl, rfl, rfl, rfl⟩ := h
                exact ⟨q1, q2, q3, q4, q5, m, h1, h2, h3, h4, h5, h6⟩
          · rw [rd_5 h1 h2 h3 h4 h5 e5] at h; cases h
        · rw [rd_4 h1 h2 h3 h4 e4] at h; cases h
      · rw [rd_3 h1 h2 h3 e3] at h; cases h
    · rw [rd_2 h1 h2 e2] at h; cases h
  · rw [rd_1 h1 e1] at h; cases h
/-- What is got of a change is put as it was. -/
theorem chread_form {l : List UInt8} {site seq n s a b : Int} {ws : List Wr} {q : Nat} (h : chreadS l = some (site, seq, n, s, a, b, ws, q)) : wputN (cheadB [] site seq n s a b ws.length) ws ws.length = l.take q ∧ q ≤ l.length := by
  obtain ⟨q1, q2, q3, q4, q5, m, h1, h2, h3, h4, h5, h6⟩ := chread_inv h
  obtain ⟨a1, a2, -, -⟩ := numB_take h1
  obtain ⟨b1, b2, -, -⟩ := numB_take h2
  obtain ⟨c1, c2⟩ := sget_form h3
  obtain ⟨d1, d2⟩ := vget_form h4
  obtain ⟨e1, e2, -, -⟩ := numB_take h5
  rw [List.length_drop] at b2 c2 d2 e2
  obtain ⟨f1, f2, f3, f4⟩ := readN_form (by omega) m h6
  refine ⟨?_, f3⟩
  rw [wputN_nil, chead_one, f1, f4, ← a1, ← b1, c1, d1, ← e1]
  obtain ⟨p, rfl⟩ : ∃ p, q = q1 + q2 + q3 + q4 + q5 + p := ⟨q - (q1 + q2 + q3 + q4 + q5), by omega⟩
  rw [Nat.add_sub_cancel_left, List.take_add, List.take_add, List.take_add, List.take_add, List.take_add]
  simp
theorem chget_back {gs : List Grp} {site seq n s a b : Int} {ws : List Wr} (h : chgoodS gs site seq n s a b ws = 0) (t : List UInt8) :
    chgetS gs (chputS [] gs site seq n s a b ws ++ t) = ((site, seq, n, s, a, b, ws), ((chputS [] gs site seq n s a b ws).length : Int), 0) := by
  have hp : chputS [] gs site seq n s a b ws = wputN (cheadB [] site seq n s a b ws.length) ws ws.length := by unfold chputS; rw [if_pos h]
  rw [hp]
  exact chget_yes site seq n s a b ws _ (ch_inv h).1 (chread_back h t) h
theorem chget_ok {gs : List Grp} {l : List UInt8} {site seq n s a b : Int} {ws : List Wr} {k : Int} (h : chgetS gs l = ((site, seq, n, s, a, b, ws), k, 0)) : ∃ q : Nat, k = (q : Int) ∧ q ≤ l.length ∧ chputS [] gs site seq n s a b ws = l.take q := by
  by_cases h1 : pgoodS gs = 0
  · cases h2 : chreadS l with
    | none =>
      rw [chget_none h1 h2] at h
      simp at h
    | some r =>
      obtain ⟨site', seq', n', s', a', b', ws', q'⟩ := r
      by_cases h3 : chgoodS gs site' seq' n' s' a' b' ws' = 0
      · rw [chget_yes _ _ _ _ _ _ _ _ h1 h2 h3] at h
        simp only [Prod.mk.injEq] at h
        obtain ⟨⟨rfl, rfl, rfl, rfl, rfl, rfl, rfl⟩, rfl, -⟩ := h
        obtain ⟨f1, f2⟩ := chread_form h2
        exact ⟨q', rfl, f2, by unfold chputS; rw [if_pos h3]; exact f1⟩
      · rw [chget_bad _ _ _ _ _ _ _ _ h1 h2 h3] at h
        simp at h
  · rw [chget_pol h1] at h
    simp only [Prod.mk.injEq] at h
    exact absurd h.2.2 h1
end Go.Proofs.YtfkmfccdhmnllaaDoor
end

section
namespace Go.Proofs.YtfkmfccdhmnllaaDoor
open Go.RowKit Go Go.Sort
set_option linter.unusedVariables false
set_option maxRecDepth 20000

theorem bys_nil (W : World) : Bys W none 0 0 [] := own_bys (World.ownsRow_nil _ _ _ _ : OwnB W 0 5 (.slice none 0 0) [])
set_option maxRecDepth 100000 in
set_option maxHeartbeats 12800000 in
theorem chlay_c {w : World} {x2 : Option Addr} {m cap2 : Nat} {l : List Wr} (n1 : Nat) (hl : Wrs w x2 m cap2 l) (hm8 : m ≤ 8) (hall : ∀ k, k < m → mayS n1 (l.getD k Wr.zero) = true) (hn4 : n1 ≤ 4) (hT : TabW w) (site seq n s a b : Int) (hst : 1 ≤ site ∧ site ≤ 2) (hd2 : 1 ≤ seq) (hd3 : seq ≤ 1099511627776) :
    Calls Tryd.prog 50 #[.agg #[.int .i64 site, .int .i64 seq, .int .i64 n, .int .i64 s, .int .i64 a, .int .i64 b, .slice x2 m cap2]] w (BytesPost (wputN (cheadB [] site seq n s a b m) l m) w) := by
  have hle2 := hl.le
  have hmax2 := hl.max
  have HALL := Lib.hid hall
  have HHE := Lib.hid (show cheadB [] site seq n s a b m = vputS (sputS ([] ++ numB site ++ numB seq) n s) a b ++ numB (m : Int) from rfl)
  have HHL := Lib.hid (chead_le [] site seq n s a b m)
  have HL := Lib.hid hl
  have HT := Lib.hid hT
  obtain ⟨HE, hHE⟩ : ∃ z, cheadB [] site seq n s a b m = z := ⟨_, rfl⟩
  rw [hHE] at HHE HHL ⊢
  have hr := heap_alloc_new w (.cells #[.int .i64 site, .int .i64 seq, .int .i64 n, .int .i64 s, .int .i64 a, .int .i64 b, .slice x2 m cap2] 29)
  have hb := alloc_below w (.cells #[.int .i64 site, .int .i64 seq, .int .i64 n, .int .i64 s, .int .i64 a, .int .i64 b, .slice x2 m cap2] 29)
  clear hHE hl hT hall
  go_enter Tryd.func50, Tryd.ntmps50
  go_upto_region 1 with (fail)
  obtain ⟨B, hB⟩ : ∃ q, w.heap.size = q := ⟨_, rfl⟩
  have HBe := Lib.hid hB
  rw [hB] at hr ⊢
  clear hB
  generalize w.alloc (.cells #[.int .i64 site, .int .i64 seq, .int .i64 n, .int .i64 s, .int .i64 a, .int .i64 b, .slice x2 m cap2] 29) = W1 at *
  have HR1 := Lib.hid hr
  have HB1 := Lib.hid hb
  clear hr hb
  obtain ⟨l1, hl1⟩ : ∃ z, [] ++ numB site = z := ⟨_, rfl⟩
  obtain ⟨l2, hl2⟩ : ∃ z, l1 ++ numB seq = z := ⟨_, rfl⟩
  obtain ⟨l3, hl3⟩ : ∃ z, sputS l2 n s = z := ⟨_, rfl⟩
  obtain ⟨l4, hl4⟩ : ∃ z, vputS l3 a b = z := ⟨_, rfl⟩
  have hhe := HHE.out
  rw [hl1, hl2, hl3, hl4] at hhe
  have g1 : l1.length ≤ 8 := by have := numB_length site; rw [← hl1, List.length_append]; simp; omega
  have g2 : l2.length ≤ 16 := by have := numB_length seq; rw [← hl2, List.length_append]; omega
  have g3 : l3.length ≤ 24 := by have := sput_le l2 n s; rw [← hl3]; omega
  have g4 : l4.length ≤ 40 := by have := vput_le l3 a b; rw [← hl4]; omega
  have hP1 := fun W (hT : TabW W) => put_c (bys_nil W) (by omega) site (by omega) (by omega) hT
  have HP2 := Lib.hid (fun (W : World) (a2 : Option Addr) (k2 : Nat) (hh : Bys W a2 l1.length k2 l1) (hT : TabW W) => show Calls _ _ _ _ (BytesPost l2 W) by rw [← hl2]; exact put_c hh (by omega) seq (by omega) (by omega) hT)
  have HP3 := Lib.hid (fun (W : World) (a2 : Option Addr) (k2 : Nat) (hh : Bys W a2 l2.length k2 l2) (hT : TabW W) => show Calls _ _ _ _ (BytesPost l3 W) by rw [← hl3]; exact sput_c hh (by omega) hT n s)
  have HP4 := Lib.hid (fun (W : World) (a2 : Option Addr) (k2 : Nat) (hh : Bys W a2 l3.length k2 l3) (hT : TabW W) => show Calls _ _ _ _ (BytesPost l4 W) by rw [← hl4]; exact vput_c hh (by omega) hT a b)
  have HP5 := Lib.hid (fun (W : World) (a2 : Option Addr) (k2 : Nat) (hh : Bys W a2 l4.length k2 l4) (hT : TabW W) => show Calls _ _ _ _ (BytesPost HE W) by rw [hhe]; exact put_c hh (by omega) (m : Int) (by omega) (by omega) hT)
  simp only [hl1] at hP1
  have HP1 := Lib.hid hP1
  have HCW := Lib.hid (fun W (h : Below W1.heap.size W1 W) => ch_cells (heap_below HR1.out h))
  have HBs := Lib.hid HB1.out.size
  have HTW := Lib.hid (fun W (h : Below W1.heap.size W1 W) => HT.out.below (HB1.out.trans (h.mono HB1.out.size)))
  clear hP1 hl1 hl2 hl3 hl4 hhe g1 g2 g3 g4
  refine wp_region_flow_tail 6 [none, none, none, none, none, none, some 0, some 1, some 2, some 3, some 4, some 5, none, none, none, none, none, none, none, none, none, none, none, none, none, none, none, none, none, none, none, none, none, none, none, none, none, none, none, none, none, none, none, none, none, none, none, none, none] (fun i => [undef, undef, undef, undef, undef, undef].getD i undef) [(fun v _ => v = .pointer (some ⟨B, 0, none⟩)), (fun v _ => v = .int .i64 site), (fun v W => OwnB W w.heap.size 5 v l1), (fun v _ => v = .pointer (some ⟨B, 1, none⟩)), (fun v _ => v = .int .i64 seq), (fun v W => OwnB W w.heap.size 5 v l2)] (fun _ => False) (by kernel_rfl) (by kernel_rfl) (by kernel_rfl) rfl rfl rfl ?_ ?_ ?_
  · intro g hg v X Y hX hY hv
    simp only [List.mem_cons, List.not_mem_nil, or_false] at hg
    rcases hg with rfl | rfl | rfl | rfl | rfl | rfl
    all_goals first
      | exact hv
      | exact hv.kept hY
  · simp only [flowOpsF, List.take_succ_cons, List.take_zero, and_true]
    refine ⟨?_, ?_, ?_, ?_, ?_, ?_⟩
    · intro xs W hW hn
      simp only [flowAct, List.zipWith_cons_cons, List.zipWith_nil_left]
      go_wp2_with (fail)
      exact ⟨rfl, _, rfl, Below.refl _ _, rfl, fun h => h.elim⟩
    · intro xs W hW hn
      obtain ⟨c0, c1, c2, c3, c4, c5, c6⟩ := HCW.out W hW
      simp [flowNeeds, Region.binds] at hn
      simp only [flowAct, List.zipWith_cons_cons, List.zipWith_nil_left]
      try simp only [hn]
      go_wp2_with (fail)
      exact ⟨rfl, _, rfl, Below.refl _ _, rfl, fun h => h.elim⟩
    · intro xs W hW hn
      simp [flowNeeds, Region.binds] at hn
      simp only [flowAct, List.zipWith_cons_cons, List.zipWith_nil_left]
      simp only [hn]
      go_wp2_with (go_at_call 87; (with_reducible refine (HP1.out _ (HTW.out W hW)).mono ?_); rintro e9 w9 ⟨v9, rfl, ho9, hb9⟩)
      exact ⟨rfl, _, rfl, hb9, ho9.mono (Nat.le_trans HBs.out hW.size), fun h => h.elim⟩
    · intro xs W hW hn
      simp only [flowAct, List.zipWith_cons_cons, List.zipWith_nil_left]
      go_wp2_with (fail)
      exact ⟨rfl, _, rfl, Below.refl _ _, rfl, fun h => h.elim⟩
    · intro xs W hW hn
      obtain ⟨c0, c1, c2, c3, c4, c5, c6⟩ := HCW.out W hW
      simp [flowNeeds, Region.binds] at hn
      simp only [flowAct, List.zipWith_cons_cons, List.zipWith_nil_left]
      try simp only [hn]
      go_wp2_with (fail)
      exact ⟨rfl, _, rfl, Below.refl _ _, rfl, fun h => h.elim⟩
    · intro xs W hW hn
      simp [flowNeeds, Region.binds] at hn
      obtain ⟨ho3, e5⟩ := hn
      obtain ⟨a2, k2, e3, hy3⟩ := ho3.bys
      simp only [flowAct, List.zipWith_cons_cons, List.zipWith_nil_left]
      simp only [e3, e5]
      go_wp2_with (go_at_call 87; (with_reducible refine (HP2.out _ _ _ hy3 (HTW.out W hW)).mono ?_); rintro e9 w9 ⟨v9, rfl, ho9, hb9⟩)
      exact ⟨rfl, _, rfl, hb9, ho9.mono (Nat.le_trans HBs.out hW.size), fun h => h.elim⟩
  · intro xs W hW hall hfr
    clear hfr
    simp only [flowAll, and_true, Nat.zero_add, Nat.reduceAdd] at hall
    obtain ⟨-, -, -, -, -, e6⟩ := hall
    simp only [flowAct, List.zipWith_cons_cons, List.zipWith_nil_left, List.drop_succ_cons, List.drop_zero]
    obtain ⟨a2, k2, e3, -⟩ := e6.bys
    have O3 := Lib.hid e6
    rw [e3] at O3
    simp only [e3]
    clear e6 e3 HP1 HP2
    have HB3 := Lib.hid (HB1.out.trans (hW.mono HB1.out.size))
    have HR3 := Lib.hid (heap_below HR1.out hW)
    clear hW HB1 HR1 HCW HBs HTW
    obtain ⟨W3, hW3⟩ : ∃ X, W = X := ⟨_, rfl⟩
    rw [hW3] at HB3 HR3 O3 ⊢
    clear hW3
    have HCW := Lib.hid (fun W (h : Below W3.heap.size W3 W) => ch_cells (heap_below HR3.out h))
    have HBs := Lib.hid HB3.out.size
    have HTW := Lib.hid (fun W (h : Below W3.heap.size W3 W) => HT.out.below (HB3.out.trans (h.mono HB3.out.size)))
    have HYB := Lib.hid (fun W (h : Below W3.heap.size W3 W) => show Bys W a2 l2.length k2 l2 from (own_bys O3.out).below h)
    go_upto_region 2 with (fail)
    refine wp_region_flow_tail 7 [none, none, none, none, none, none, none, none, none, none, none, none, some 0, some 1, some 2, some 3, some 4, some 5, some 6, none, none, none, none, none, none, none, none, none, none, none, none, none, none, none, none, none, none, none, none, none, none, none, none, none, none, none, none, none, none] (fun i => [undef, undef, undef, undef, undef, undef, undef].getD i undef) [(fun v _ => v = .slice a2 l2.length k2), (fun v _ => v = .pointer (some ⟨B, 2, none⟩)), (fun v _ => v = .agg #[.int .i64 n, .int .i64 s]), (fun v W => OwnB W w.heap.size 5 v l3), (fun v _ => v = .pointer (some ⟨B, 4, none⟩)), (fun v _ => v = .agg #[.int .i64 a, .int .i64 b]), (fun v W => OwnB W w.heap.size 5 v l4)] (fun _ => False) (by kernel_rfl) (by kernel_rfl) (by kernel_rfl) rfl rfl rfl ?_ ?_ ?_
    · intro g hg v X Y hX hY hv
      simp only [List.mem_cons, List.not_mem_nil, or_false] at hg
      rcases hg with rfl | rfl | rfl | rfl | rfl | rfl | rfl
      all_goals first
        | exact hv
        | exact hv.kept hY
    · simp only [flowOpsF, List.take_succ_cons, List.take_zero, and_true]
      refine ⟨?_, ?_, ?_, ?_, ?_, ?_, ?_⟩
      · intro xs W hW hn
        simp only [flowAct, List.zipWith_cons_cons, List.zipWith_nil_left]
        go_wp2_with (fail)
        exact ⟨rfl, _, rfl, Below.refl _ _, rfl, fun h => h.elim⟩
      · intro xs W hW hn
        simp only [flowAct, List.zipWith_cons_cons, List.zipWith_nil_left]
        go_wp2_with (fail)
        exact ⟨rfl, _, rfl, Below.refl _ _, rfl, fun h => h.elim⟩
      · intro xs W hW hn
        obtain ⟨c0, c1, c2, c3, c4, c5, c6⟩ := HCW.out W hW
        simp [flowNeeds, Region.binds] at hn
        simp only [flowAct, List.zipWith_cons_cons, List.zipWith_nil_left]
        try simp only [hn]
        go_wp2_with (fail)
        exact ⟨rfl, _, rfl, Below.refl _ _, rfl, fun h => h.elim⟩
      · intro xs W hW hn
        simp [flowNeeds, Region.binds] at hn
        simp only [flowAct, List.zipWith_cons_cons, List.zipWith_nil_left]
        simp only [hn]
        go_wp2_with (go_at_call 89; (with_reducible refine (HP3.out _ _ _ (HYB.out W hW) (HTW.out W hW)).mono ?_); rintro e9 w9 ⟨v9, rfl, ho9, hb9⟩)
        exact ⟨rfl, _, rfl, hb9, ho9.mono (Nat.le_trans HBs.out hW.size), fun h => h.elim⟩
      · intro xs W hW hn
        simp only [flowAct, List.zipWith_cons_cons, List.zipWith_nil_left]
        go_wp2_with (fail)
        exact ⟨rfl, _, rfl, Below.refl _ _, rfl, fun h => h.elim⟩
      · intro xs W hW hn
        obtain ⟨c0, c1, c2, c3, c4, c5, c6⟩ := HCW.out W hW
        simp [flowNeeds, Region.binds] at hn
        simp only [flowAct, List.zipWith_cons_cons, List.zipWith_nil_left]
        try simp only [hn]
        go_wp2_with (fail)
        exact ⟨rfl, _, rfl, Below.refl _ _, rfl, fun h => h.elim⟩
      · intro xs W hW hn
        simp [flowNeeds, Region.binds] at hn
        obtain ⟨ho3, e5⟩ := hn
        obtain ⟨a2, k2, e3, hy3⟩ := ho3.bys
        simp only [flowAct, List.zipWith_cons_cons, List.zipWith_nil_left]
        simp only [e3, e5]
        go_wp2_with (go_at_call 88; (with_reducible refine (HP4.out _ _ _ hy3 (HTW.out W hW)).mono ?_); rintro e9 w9 ⟨v9, rfl, ho9, hb9⟩)
        exact ⟨rfl, _, rfl, hb9, ho9.mono (Nat.le_trans HBs.out hW.size), fun h => h.elim⟩
    · intro xs W hW hall hfr
      clear hfr
      simp only [flowAll, and_true, Nat.zero_add, Nat.reduceAdd] at hall
      obtain ⟨-, -, -, -, -, -, e6⟩ := hall
      simp only [flowAct, List.zipWith_cons_cons, List.zipWith_nil_left, List.drop_succ_cons, List.drop_zero]
      obtain ⟨a4, k4, e3, -⟩ := e6.bys
      have O4 := Lib.hid e6
      rw [e3] at O4
      simp only [e3]
      clear e6 e3 HP3 HP4 HYB O3
      have HB4 := Lib.hid (HB3.out.trans (hW.mono HB3.out.size))
      have HR4 := Lib.hid (heap_below HR3.out hW)
      clear hW HB3 HR3 HCW HBs HTW
      obtain ⟨W4, hW4⟩ : ∃ X, W = X := ⟨_, rfl⟩
      rw [hW4] at HB4 HR4 O4 ⊢
      clear hW4
      obtain ⟨c0, c1, c2, c3, c4, c5, c6⟩ := ch_cells HR4.out
      have HT4 := Lib.hid (HT.out.below HB4.out)
      go_upto_region 4 with (go_at_call 87; (with_reducible refine (HP5.out _ _ _ (own_bys O4.out) HT4.out).mono ?_); rintro e9 w5 ⟨v5, rfl, ho5, hb5⟩)
      have O5 := Lib.hid (ho5.mono HB4.out.size)
      have HB5 := Lib.hid (HB4.out.trans (hb5.mono HB4.out.size))
      obtain ⟨c0, c1, c2, c3, c4, c5, c6⟩ := ch_cells (heap_below HR4.out hb5)
      clear ho5 hb5 HB4 HR4 O4 HP5 HT4
      go_wp2
      clear c0 c1 c2 c3 c4 c5 c6
      go_loopw [3, 27] (fun v9 i9 wr => ∃ k9 : Nat, k9 ≤ m ∧ i9 = .int .i64 (k9 : Int) ∧ OwnB wr w.heap.size 5 v9 (wputN HE l k9) ∧ (wputN HE l k9).length ≤ 48 + 128 * k9 ∧ Below w.heap.size w wr) (fun _ i9 _ => m - (intOf i9).toNat)
      case atStart => exact ⟨0, by omega, rfl, O5.out, by have := HHL.out; show HE.length ≤ _; simpa using this, HB5.out⟩
      case round =>
        clear O5 HB5
        obtain ⟨j, hj, rfl, ho, hlen, hB⟩ := hrel
        by_cases hlt : j < m
        · have hji : (j : Int) < (m : Int) := by omega
          have hjc : (j : Int) < (cap2 : Int) := by omega
          obtain ⟨bk, off, rfl, hat⟩ := HL.out.place hlt
          have hmay := HALL.out j hlt
          have hst9 : wputN HE l (j + 1) = wputS (wputN HE l j) (l.getD j Wr.zero) := rfl
          have hle8 := wput_le (wputN HE l j) hmay
          obtain ⟨y, hy⟩ : ∃ y, l.getD j Wr.zero = y := ⟨_, rfl⟩
          rw [hy] at hat hmay hst9 hle8
          obtain ⟨kx, ix, gx, vx⟩ := y
          simp only at hat
          obtain ⟨f1, f2, f3, f4, f5, f6⟩ := may_few hmay
          simp only at f1 f2 f3 f4 f5 f6
          obtain ⟨acc, hac⟩ : ∃ z, wputN HE l j = z := ⟨_, rfl⟩
          rw [hac] at hst9 hle8 ho hlen
          rw [← hst9] at hle8
          obtain ⟨ax, kk, rfl, -⟩ := ho.bys
          obtain ⟨p0, p1, p2, p3⟩ := hat wr hB
          obtain ⟨u1, hu1⟩ : ∃ z, putTextS acc kx = z := ⟨_, rfl⟩
          obtain ⟨u2, hu2⟩ : ∃ z, u1 ++ numB ix = z := ⟨_, rfl⟩
          have g1 : u1.length ≤ 1200 := by have := putText_le acc kx; rw [← hu1]; omega
          have g2 : u2.length ≤ 1208 := by have := numB_length ix; rw [← hu2, List.length_append]; omega
          have hstep : wputN HE l (j + 1) = if gx = true then u2 ++ numB 1 else putTextS (u2 ++ numB 0) vx := by rw [hst9, ← hu2, ← hu1]; rfl
          have hT1 := fun (W : World) (hh : Bys W ax acc.length kk acc) (hT : TabW W) => puttext_c hh (text kx) (by omega) (by rw [text_size]; omega) hT
          simp only [text_back, hu1] at hT1
          have HT1 := Lib.hid hT1
          have HT2 := Lib.hid (fun (W : World) (a2 : Option Addr) (k2 : Nat) (hh : Bys W a2 u1.length k2 u1) (hT : TabW W) => show Calls _ _ _ _ (BytesPost u2 W) by rw [← hu2]; exact put_c hh (by omega) ix (by omega) (by omega) hT)
          have HSTEP := Lib.hid hstep
          have HLE8 := Lib.hid (show (wputN HE l (j + 1)).length ≤ 48 + 128 * (j + 1) by omega)
          have HBr := Lib.hid hB
          have HOr := Lib.hid ho
          clear hat hmay hst9 hle8 hy ho hB hstep hac hT1 hu1 hu2 f6
          go_upto_region 7 with (fail)
          have hal := alloc_below wr (.cells #[.string (text kx), .int .i64 ix, .bool gx, .string (text vx)] 31)
          have HQ1 := Lib.hid (heap_alloc_new wr (.cells #[.string (text kx), .int .i64 ix, .bool gx, .string (text vx)] 31))
          have HB6 := Lib.hid (HBr.out.trans (hal.mono HBr.out.size))
          have HO6 := Lib.hid (HOr.out.kept hal)
          obtain ⟨gq, hgq⟩ : ∃ z, wr.heap.size = z := ⟨_, rfl⟩
          rw [hgq] at HQ1 ⊢
          clear hgq hal p0 p1 p2 p3 HBr HOr
          generalize wr.alloc (.cells #[.string (text kx), .int .i64 ix, .bool gx, .string (text vx)] 31) = V1 at *
          have HYB := Lib.hid (fun W (h : Below V1.heap.size V1 W) => show Bys W ax acc.length kk acc from (own_bys HO6.out).below h)
          have HQW := Lib.hid (fun W (h : Below V1.heap.size V1 W) => wr_cells (heap_below HQ1.out h))
          have HBs := Lib.hid HB6.out.size
          have HTW := Lib.hid (fun W (h : Below V1.heap.size V1 W) => HT.out.below (HB6.out.trans (h.mono HB6.out.size)))
          refine wp_region_flow_tail 7 [none, none, none, none, none, none, none, none, none, none, none, none, none, none, none, none, none, none, none, none, none, none, none, none, none, none, none, none, none, none, none, some 0, some 1, some 2, some 3, some 4, some 5, some 6, none, none, none, none, none, none, none, none, none, none, none] (fun i => [u31, u32, u33, u34, u35, u36, u37].getD i undef) [(fun v _ => v = .slice ax acc.length kk), (fun v _ => v = .pointer (some ⟨gq, 0, none⟩)), (fun v _ => v = .string (text kx)), (fun v W => OwnB W w.heap.size 5 v u1), (fun v _ => v = .pointer (some ⟨gq, 1, none⟩)), (fun v _ => v = .int .i64 ix), (fun v W => OwnB W w.heap.size 5 v u2)] (fun _ => False) (by kernel_rfl) (by kernel_rfl) (by kernel_rfl) rfl rfl rfl ?_ ?_ ?_
          · intro g hg v X Y hX hY hv
            simp only [List.mem_cons, List.not_mem_nil, or_false] at hg
            rcases hg with rfl | rfl | rfl | rfl | rfl | rfl | rfl
            all_goals first
              | exact hv
              | exact hv.kept hY
          · simp only [flowOpsF, List.take_succ_cons, List.take_zero, and_true]
            refine ⟨?_, ?_, ?_, ?_, ?_, ?_, ?_⟩
            · intro xs W hW hn
              simp only [flowAct, List.zipWith_cons_cons, List.zipWith_nil_left]
              go_wp2_with (fail)
              exact ⟨rfl, _, rfl, Below.refl _ _, rfl, fun h => h.elim⟩
            · intro xs W hW hn
              simp only [flowAct, List.zipWith_cons_cons, List.zipWith_nil_left]
              go_wp2_with (fail)
              exact ⟨rfl, _, rfl, Below.refl _ _, rfl, fun h => h.elim⟩
            · intro xs W hW hn
              obtain ⟨p0, p1, p2, p3⟩ := HQW.out W hW
              simp [flowNeeds, Region.binds] at hn
              simp only [flowAct, List.zipWith_cons_cons, List.zipWith_nil_left]
              try simp only [hn]
              go_wp2_with (fail)
              exact ⟨rfl, _, rfl, Below.refl _ _, rfl, fun h => h.elim⟩
            · intro xs W hW hn
              simp [flowNeeds, Region.binds] at hn
              simp only [flowAct, List.zipWith_cons_cons, List.zipWith_nil_left]
              simp only [hn]
              go_wp2_with (go_at_call 90; (with_reducible refine (HT1.out _ (HYB.out W hW) (HTW.out W hW)).mono ?_); rintro e9 w9 ⟨v9, rfl, ho9, hb9⟩)
              exact ⟨rfl, _, rfl, hb9, ho9.mono (Nat.le_trans HBs.out hW.size), fun h => h.elim⟩
            · intro xs W hW hn
              simp only [flowAct, List.zipWith_cons_cons, List.zipWith_nil_left]
              go_wp2_with (fail)
              exact ⟨rfl, _, rfl, Below.refl _ _, rfl, fun h => h.elim⟩
            · intro xs W hW hn
              obtain ⟨p0, p1, p2, p3⟩ := HQW.out W hW
              simp [flowNeeds, Region.binds] at hn
              simp only [flowAct, List.zipWith_cons_cons, List.zipWith_nil_left]
              try simp only [hn]
              go_wp2_with (fail)
              exact ⟨rfl, _, rfl, Below.refl _ _, rfl, fun h => h.elim⟩
            · intro xs W hW hn
              simp [flowNeeds, Region.binds] at hn
              obtain ⟨ho3, e5⟩ := hn
              obtain ⟨a2, k2, e3, hy3⟩ := ho3.bys
              simp only [flowAct, List.zipWith_cons_cons, List.zipWith_nil_left]
              simp only [e3, e5]
              go_wp2_with (go_at_call 87; (with_reducible refine (HT2.out _ _ _ hy3 (HTW.out W hW)).mono ?_); rintro e9 w9 ⟨v9, rfl, ho9, hb9⟩)
              exact ⟨rfl, _, rfl, hb9, ho9.mono (Nat.le_trans HBs.out hW.size), fun h => h.elim⟩
          · intro xs W hW hall hfr
            clear hfr
            simp only [flowAll, and_true, Nat.zero_add, Nat.reduceAdd] at hall
            obtain ⟨-, -, -, -, -, -, e6⟩ := hall
            simp only [flowAct, List.zipWith_cons_cons, List.zipWith_nil_left, List.drop_succ_cons, List.drop_zero]
            obtain ⟨a7, k7, e3, -⟩ := e6.bys
            have O7 := Lib.hid e6
            rw [e3] at O7
            simp only [e3]
            clear e6 e3 HT1 HT2 HYB HO6 HTW
            have HB7 := Lib.hid (HB6.out.trans (hW.mono HB6.out.size))
            have HQ7 := Lib.hid (heap_below HQ1.out hW)
            clear hW HB6 HQ1 HQW HBs
            obtain ⟨W7, hW7⟩ : ∃ X, W = X := ⟨_, rfl⟩
            rw [hW7] at HB7 HQ7 O7 ⊢
            clear hW7
            obtain ⟨p0, p1, p2, p3⟩ := wr_cells HQ7.out
            cases gx with
            | true =>
              have HP8 := Lib.hid (show Calls _ _ _ _ (BytesPost (wputN HE l (j + 1)) W7) by rw [HSTEP.out]; exact put_c (own_bys O7.out) (by omega) 1 (by omega) (by omega) (HT.out.below HB7.out))
              go_wp2_with (go_at_call 87; (with_reducible refine HP8.out.mono ?_); rintro e9 w9 ⟨v9, rfl, ho9, hb9⟩)
              go_roundw
              case rel => exact ⟨j + 1, by omega, by go_num, ho9.mono HB7.out.size, HLE8.out, HB7.out.trans (hb9.mono HB7.out.size)⟩
              case measure => simp [intOf]; omega
            | false =>
              obtain ⟨u3, hu3⟩ : ∃ z, u2 ++ numB 0 = z := ⟨_, rfl⟩
              have g3 : u3.length ≤ 1216 := by have := numB_length 0; rw [← hu3, List.length_append]; omega
              have hst2 := HSTEP.out
              rw [if_neg (by decide), hu3] at hst2
              have HP8 := Lib.hid (fun W (h : Below W7.heap.size W7 W) => show Calls _ _ _ _ (BytesPost u3 W) by rw [← hu3]; exact put_c ((own_bys O7.out).below h) (by omega) 0 (by omega) (by omega) (HT.out.below (HB7.out.trans (h.mono HB7.out.size))))
              have hT9 := fun (W : World) (a2 : Option Addr) (k2 : Nat) (hh : Bys W a2 u3.length k2 u3) (hT : TabW W) => puttext_c hh (text vx) (by omega) (by rw [text_size]; omega) hT
              simp only [text_back, ← hst2] at hT9
              have HT9 := Lib.hid hT9
              have HQW := Lib.hid (fun W (h : Below W7.heap.size W7 W) => wr_cells (heap_below HQ7.out h))
              have HBs := Lib.hid HB7.out.size
              have HTW := Lib.hid (fun W (h : Below W7.heap.size W7 W) => HT.out.below (HB7.out.trans (h.mono HB7.out.size)))
              clear hT9 hst2 hu3 HSTEP
              go_upto_region 10 with (fail)
              clear p0 p1 p2 p3
              refine wp_region_flow_tail 5 [none, none, none, none, none, none, none, none, none, none, none, none, none, none, none, none, none, none, none, none, none, none, none, none, none, none, none, none, none, none, none, none, none, none, none, none, none, none, none, none, none, none, some 0, some 1, some 2, some 3, some 4, none, none] (fun i => [u42, u43, u44, u45, u46].getD i undef) [(fun v _ => v = .slice a7 u2.length k7), (fun v W => OwnB W w.heap.size 5 v u3), (fun v _ => v = .pointer (some ⟨gq, 3, none⟩)), (fun v _ => v = .string (text vx)), (fun v W => OwnB W w.heap.size 5 v (wputN HE l (j + 1)))] (fun _ => False) (by kernel_rfl) (by kernel_rfl) (by kernel_rfl) rfl rfl rfl ?_ ?_ ?_
              · intro g hg v X Y hX hY hv
                simp only [List.mem_cons, List.not_mem_nil, or_false] at hg
                rcases hg with rfl | rfl | rfl | rfl | rfl
                all_goals first
                  | exact hv
                  | exact hv.kept hY
              · simp only [flowOpsF, List.take_succ_cons, List.take_zero, and_true]
                refine ⟨?_, ?_, ?_, ?_, ?_⟩
                · intro xs W hW hn
                  simp only [flowAct, List.zipWith_cons_cons, List.zipWith_nil_left]
                  go_wp2_with (fail)
                  exact ⟨rfl, _, rfl, Below.refl _ _, rfl, fun h => h.elim⟩
                · intro xs W hW hn
                  simp [flowNeeds, Region.binds] at hn
                  simp only [flowAct, List.zipWith_cons_cons, List.zipWith_nil_left]
                  simp only [hn]
                  go_wp2_with (go_at_call 87; (with_reducible refine (HP8.out _ hW).mono ?_); rintro e9 w9 ⟨v9, rfl, ho9, hb9⟩)
                  exact ⟨rfl, _, rfl, hb9, ho9.mono (Nat.le_trans HBs.out hW.size), fun h => h.elim⟩
                · intro xs W hW hn
                  simp only [flowAct, List.zipWith_cons_cons, List.zipWith_nil_left]
                  go_wp2_with (fail)
                  exact ⟨rfl, _, rfl, Below.refl _ _, rfl, fun h => h.elim⟩
                · intro xs W hW hn
                  obtain ⟨p0, p1, p2, p3⟩ := HQW.out W hW
                  simp [flowNeeds, Region.binds] at hn
                  simp only [flowAct, List.zipWith_cons_cons, List.zipWith_nil_left]
                  try simp only [hn]
                  go_wp2_with (fail)
                  exact ⟨rfl, _, rfl, Below.refl _ _, rfl, fun h => h.elim⟩
                · intro xs W hW hn
                  simp [flowNeeds, Region.binds] at hn
                  obtain ⟨ho3, e5⟩ := hn
                  obtain ⟨a2, k2, e3, hy3⟩ := ho3.bys
                  simp only [flowAct, List.zipWith_cons_cons, List.zipWith_nil_left]
                  simp only [e3, e5]
                  go_wp2_with (go_at_call 90; (with_reducible refine (HT9.out _ _ _ hy3 (HTW.out W hW)).mono ?_); rintro e9 w9 ⟨v9, rfl, ho9, hb9⟩)
                  exact ⟨rfl, _, rfl, hb9, ho9.mono (Nat.le_trans HBs.out hW.size), fun h => h.elim⟩
              · intro xs W hW hall hfr
                clear hfr
                simp only [flowAll, and_true, Nat.zero_add, Nat.reduceAdd] at hall
                obtain ⟨-, -, -, -, e4⟩ := hall
                simp only [flowAct, List.zipWith_cons_cons, List.zipWith_nil_left, List.drop_succ_cons, List.drop_zero]
                have HB8 := Lib.hid (HB7.out.trans (hW.mono HB7.out.size))
                have O8 := Lib.hid e4
                go_wp2
                go_roundw
                case rel => exact ⟨j + 1, by omega, by go_num, O8.out, HLE8.out, HB8.out⟩
                case measure => simp [intOf]; omega
        · obtain rfl : m = j := by omega
          obtain ⟨ax, kk, rfl, -⟩ := ho.bys
          have HO := Lib.hid ho
          have HB := Lib.hid hB
          clear ho hB
          go_wp2
          go_ret
          exact ⟨_, rfl, HO.out, HB.out⟩
set_option maxHeartbeats 3200000 in
theorem chput_c {w : World} {ad : Option Addr} {m9 cap9 : Nat} {by9 : List UInt8} (hy : Bys w ad m9 cap9 by9) (hm9 : m9 ≤ 5400) {x x2 : Option Addr} {n1 cap m cap2 : Nat} {gs : List Grp} {l : List Wr} (hg : Grs w x n1 cap gs) (hs : ∀ g ∈ gs, g.1.length ≤ 9223372036854775807) (hl : Wrs w x2 m cap2 l) (hx : WShort l) (hT : TabW w) (site seq n s a b : Int) :
    Calls Tryd.prog 23 #[.slice ad m9 cap9, .slice x n1 cap, .agg #[.int .i64 site, .int .i64 seq, .int .i64 n, .int .i64 s, .int .i64 a, .int .i64 b, .slice x2 m cap2]] w (BytesPost (chputS by9 gs site seq n s a b l) w) := by
  have hgl := hg.len
  have hll := hl.len
  have HGD := Lib.hid (fun W (h : Below w.heap.size w W) => chgood_c (hg.below h) hs (hl.below h) hx site seq n s a b)
  have HIV := Lib.hid (@ch_inv gs site seq n s a b l)
  have HP := Lib.hid (show chgoodS gs site seq n s a b l = 0 → chputS by9 gs site seq n s a b l = by9 ++ wputN (cheadB [] site seq n s a b m) l m from fun h => by
    unfold chputS
    rw [if_pos h, hll, wputN_nil, wputN_nil (cheadB [] site seq n s a b m)]
    unfold cheadB
    rw [← List.append_assoc]
    congr 1
    simp only [List.nil_append]
    rw [List.append_assoc by9, sput_app, vput_app, List.append_assoc])
  have HQ := Lib.hid (show ¬ chgoodS gs site seq n s a b l = 0 → chputS by9 gs site seq n s a b l = by9 from fun h => by unfold chputS; rw [if_neg h])
  have HLY := Lib.hid (show chgoodS gs site seq n s a b l = 0 → (wputN (cheadB [] site seq n s a b m) l m).length ≤ 1200 ∧ ∀ W, Below w.heap.size w W → Calls Tryd.prog 50 #[.agg #[.int .i64 site, .int .i64 seq, .int .i64 n, .int .i64 s, .int .i64 a, .int .i64 b, .slice x2 m cap2]] W (BytesPost (wputN (cheadB [] site seq n s a b m) l m) W) from fun h => by
    obtain ⟨hp0, hhd, hall⟩ := ch_inv h
    rw [hll] at hhd hall
    obtain ⟨hd1, hd2, hd3, -, -, -, -, hd4, hd5⟩ := head_ok hhd
    have hn4 := pgood_len hp0
    rw [hgl] at hn4 hall
    have hma : ∀ k, k < m → mayS n1 (l.getD k Wr.zero) = true := fun k hk => w_at (hall k hk)
    refine ⟨?_, fun W hW => chlay_c n1 (hl.below hW) hd5 hma (by omega) (hT.below hW) site seq n s a b (by omega) hd2 hd3⟩
    have h1 := chead_le [] site seq n s a b m
    have : ∀ k, k ≤ m → (wputN (cheadB [] site seq n s a b m) l k).length ≤ 48 + 128 * k := by
      intro k
      induction k with
      | zero => intro _; show (cheadB [] site seq n s a b m).length ≤ _; simpa using h1
      | succ k ih =>
        intro hk
        have h2 := ih (by omega)
        have h3 := wput_le (wputN (cheadB [] site seq n s a b m) l k) (hma k (by omega))
        show (wputS _ _).length ≤ _
        omega
    have := this m (Nat.le_refl _)
    omega)
  obtain ⟨RV, hRV⟩ : ∃ z, chputS by9 gs site seq n s a b l = z := ⟨_, rfl⟩
  rw [hRV] at HP HQ ⊢
  obtain ⟨R, hR⟩ : ∃ z, chgoodS gs site seq n s a b l = z := ⟨_, rfl⟩
  rw [hR] at HP HQ HLY
  simp only [hR] at HGD
  obtain ⟨o, ho⟩ : ∃ o, wputN (cheadB [] site seq n s a b m) l m = o := ⟨_, rfl⟩
  rw [ho] at HP
  simp only [ho] at HLY
  have HL := Lib.hid (fun W (h : Below w.heap.size w W) => hy.below h)
  have hr := heap_alloc_new w (.cells #[.int .i64 site, .int .i64 seq, .int .i64 n, .int .i64 s, .int .i64 a, .int .i64 b, .slice x2 m cap2] 29)
  have hb := alloc_below w (.cells #[.int .i64 site, .int .i64 seq, .int .i64 n, .int .i64 s, .int .i64 a, .int .i64 b, .slice x2 m cap2] 29)
  clear hRV hR ho hg hs hl hx hy hT HIV
  have HC := Lib.hid (fun W (h : Below (w.alloc (.cells #[.int .i64 site, .int .i64 seq, .int .i64 n, .int .i64 s, .int .i64 a, .int .i64 b, .slice x2 m cap2] 29)).heap.size (w.alloc (.cells #[.int .i64 site, .int .i64 seq, .int .i64 n, .int .i64 s, .int .i64 a, .int .i64 b, .slice x2 m cap2] 29)) W) => ch_cells (heap_below hr h))
  have HB := Lib.hid hb
  clear hr hb
  by_cases h0 : R = 0
  · subst h0
    have HRR := Lib.hid (HP.out (by first | rfl | trivial))
    obtain ⟨hol, hla⟩ := HLY.out (by first | rfl | trivial)
    have HLa := Lib.hid hla
    clear HP HQ HLY hla
    go_enter Tryd.func23, Tryd.ntmps23
    go_upto_region 1 with (fail)
    generalize w.alloc (.cells #[.int .i64 site, .int .i64 seq, .int .i64 n, .int .i64 s, .int .i64 a, .int .i64 b, .slice x2 m cap2] 29) = W1 at *
    obtain ⟨c0, c1, c2, c3, c4, c5, c6⟩ := HC.out _ (Below.refl _ _)
    go_upto_region 3 with (go_at_call 13; (with_reducible refine (HGD.out _ HB.out).mono ?_); rintro e9 w1 ⟨rfl, hb1⟩)
    obtain ⟨c0, c1, c2, c3, c4, c5, c6⟩ := HC.out _ hb1
    have HB1 := Lib.hid (HB.out.trans (hb1.mono HB.out.size))
    clear hb1 HB
    go_upto_region 4 with (go_at_call 50; (with_reducible refine (HLa.out _ HB1.out).mono ?_); rintro e9 w2 ⟨v2, rfl, ho2, hb2⟩)
    obtain ⟨a2, k2, rfl, hy2⟩ := ho2.bys
    have hal := alloc_below w2 (.cells #[.slice ad m9 cap9, .slice a2 o.length k2] 50)
    have HBw := HB1.out.trans (hb2.mono HB1.out.size)
    have hc := concat_c (w := w2.alloc (.cells #[.slice ad m9 cap9, .slice a2 o.length k2] 50)) (q := w2.heap.size) (by rw [cell_of_row _ w2.heap.size 0 _ _ (0, 0) (heap_alloc_new w2 _)]; rfl) (by rw [cell_of_row _ w2.heap.size 1 _ _ (0, 0) (heap_alloc_new w2 _)]; rfl) ((HL.out _ HBw).below hal) (hy2.below hal) (by omega) (by omega)
    have HCC := Lib.hid hc
    have HB2 := Lib.hid (HBw.alloc (Nat.le_trans HB1.out.size hb2.size) (.cells #[.slice ad m9 cap9, .slice a2 o.length k2] 50))
    clear hc hal hb2 ho2 hy2 HBw c0 c1 c2 c3 c4 c5 c6
    go_wp2_with (go_at_call 51; (with_reducible refine HCC.out.mono ?_); rintro e9 w9 ⟨v9, rfl, ho9, hb9⟩)
    go_ret
    exact ⟨_, rfl, by rw [HRR.out]; exact ho9.mono HB2.out.size, HB2.out.trans (hb9.mono HB2.out.size)⟩
  · have h0n : (R == 0) = false := by simpa using h0
    have HRR := Lib.hid (HQ.out h0)
    clear HP HQ HLY
    go_enter Tryd.func23, Tryd.ntmps23
    go_upto_region 1 with (fail)
    generalize w.alloc (.cells #[.int .i64 site, .int .i64 seq, .int .i64 n, .int .i64 s, .int .i64 a, .int .i64 b, .slice x2 m cap2] 29) = W1 at *
    obtain ⟨c0, c1, c2, c3, c4, c5, c6⟩ := HC.out _ (Below.refl _ _)
    go_upto_region 4 with (go_at_call 13; (with_reducible refine (HGD.out _ HB.out).mono ?_); rintro e9 w1 ⟨rfl, hb1⟩)
    have hal := alloc_below w1 (.cells #[.slice ad m9 cap9, .slice none 0 0] 50)
    have HBw := HB.out.trans (hb1.mono HB.out.size)
    have hc := concat_c (w := w1.alloc (.cells #[.slice ad m9 cap9, .slice none 0 0] 50)) (q := w1.heap.size) (l' := []) (m' := 0) (cap' := 0) (ad' := none) (by rw [cell_of_row _ w1.heap.size 0 _ _ (0, 0) (heap_alloc_new w1 _)]; rfl) (by rw [cell_of_row _ w1.heap.size 1 _ _ (0, 0) (heap_alloc_new w1 _)]; rfl) ((HL.out _ HBw).below hal) (bys_nil _) (by omega) (by omega)
    rw [List.append_nil] at hc
    have HCC := Lib.hid hc
    have HB2 := Lib.hid (HBw.alloc (Nat.le_trans HB.out.size hb1.size) (.cells #[.slice ad m9 cap9, .slice none 0 0] 50))
    clear hc hal hb1 HBw c0 c1 c2 c3 c4 c5 c6
    go_wp2_with (go_at_call 51; (with_reducible refine HCC.out.mono ?_); rintro e9 w9 ⟨v9, rfl, ho9, hb9⟩)
    go_ret
    exact ⟨_, rfl, by rw [HRR.out]; exact ho9.mono HB2.out.size, HB2.out.trans (hb9.mono HB2.out.size)⟩
end Go.Proofs.YtfkmfccdhmnllaaDoor
end

