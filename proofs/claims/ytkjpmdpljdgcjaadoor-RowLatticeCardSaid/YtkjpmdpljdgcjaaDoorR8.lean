/-
  Merged: DJ YP JO MV MW MX MY MZ N1 N3 N4 N5.
-/
import Derived.Test.YtkjpmdpljdgcjaaDoorDF
import Derived.Test.YtkjpmdpljdgcjaaDoorR0
import Derived.Test.YtkjpmdpljdgcjaaDoorQ0
import Derived.Test.YtkjpmdpljdgcjaaDoorBO
import Derived.WideShapes
import Derived.ChangeSame
import Derived.OpenShut
import Derived.Deep.Slices
import Derived.ChangeArms
import Derived.Test.YtkjpmdpljdgcjaaDoorR4
import Derived.Laws.CopyOwn

section
/-
  A REGION THAT DRAWS ITS ORDER, by an invariant over which operations have been: for regions whose stores and loads may come in any order. No program is named here.
-/
namespace Go.Proofs.YtkjpmdpljdgcjaaDoor
open Go Go.RowKit
set_option linter.unusedVariables false

section
variable {P : Program} {ops : Array Oper} {md : Region.Mode}

/-- How one operation ends: the invariant holds with it. -/
def InvEnd (Inv : (Nat → Bool) → (Nat → Value) → World → Prop) (a : Act) (o : Oper) (i : Nat) (L : Nat → Bool) (xs : Nat → Value) (e : Exit) (a' : Act) (w' : World) : Prop :=
  e = .normal ∧ ∃ v, a' = a.put o.dst v ∧ Inv (fun j => if j = i then true else L j) (fun j => if j = i then v else xs j) w'

theorem wpAny_inv {Q : Exit → Act → World → Prop} (act : (Nat → Value) → Act) (Inv : (Nat → Bool) → (Nat → Value) → World → Prop)
    (hwf : ∀ i o, ops[i]? = some o → ∀ e ∈ o.after, Region.binds md e = true → e.on < i)
    (hput : ∀ i o xs v, ops[i]? = some o → (act xs).put o.dst v = act (fun j => if j = i then v else xs j))
    (hop : ∀ i o, ops[i]? = some o → ∀ L xs w, Inv L xs w → L i = false → (∀ e ∈ o.after, Region.binds md e = true → L e.on = true) → wpList P ops (InvEnd Inv (act xs) o i L xs) [o] (act xs) w)
    (hend : ∀ L xs w, Inv L xs w → (∀ i, i < ops.size → L i = true) → Q .normal (act xs) w) :
    ∀ (f : Nat) (listed : Array Bool) (xs : Nat → Value) (w : World), Inv (fun i => listed.getD i true) xs w → listed.size = ops.size → listed.toList.count false ≤ f → wpAny P md ops Q f listed (act xs) w := by
  have hnone : ∀ (listed : Array Bool), listed.size = ops.size → Region.ready md ops listed = [] → ∀ i, i < ops.size → listed.getD i true = true := by
    intro listed hs hr i
    induction i using Nat.strongRecOn with
    | _ i ih =>
      intro hi
      cases hl : listed.getD i true with
      | true => rfl
      | false =>
        have : i ∈ Region.ready md ops listed := by
          refine mem_ready.2 ⟨hl, ops[i], by simp [hi], fun e he hb => ?_⟩
          have hlt := hwf i ops[i] (by simp [hi]) e he hb
          have h1 := ih e.on hlt (by omega)
          have h2 : e.on < listed.size := by omega
          simp only [Array.getD_eq_getD_getElem?, Array.getElem?_eq_getElem h2, Option.getD_some] at h1 ⊢
          exact h1
        rw [hr] at this
        cases this
  intro f
  induction f with
  | zero =>
    intro listed xs w hI hs hc
    have hall : ∀ i, i < ops.size → listed.getD i true = true := by
      intro i hi
      cases hl : listed.getD i true with
      | true => rfl
      | false =>
        have h2 : i < listed.size := by omega
        have h3 : listed[i] = false := by simpa [Array.getD_eq_getD_getElem?, Array.getElem?_eq_getElem h2] using hl
        have : false ∈ listed.toList := by rw [← h3]; simp
        have := List.count_pos_iff.2 this
        omega
    refine ⟨?_, hend _ xs w hI hall⟩
    cases hr : Region.ready md ops listed with
    | nil => rfl
    | cons i r =>
      have hm : i ∈ Region.ready md ops listed := by rw [hr]; simp
      obtain ⟨hun, o, ho, _⟩ := mem_ready.1 hm
      have := hall i (Array.getElem?_eq_some_iff.1 ho).1
      rw [hun] at this
      cases this
  | succ f ih =>
    intro listed xs w hI hs hc
    refine ⟨fun hr => hend _ xs w hI (hnone listed hs hr), fun i hi => ?_⟩
    obtain ⟨hun, o, ho, hall⟩ := mem_ready.1 hi
    have hilt := (Array.getElem?_eq_some_iff.1 ho).1
    have h2 : i < listed.size := by omega
    refine wpOp_of_one ho (fun a' w' h => ?_) (fun e a' w' h => h.1) (hop i o ho _ xs w hI hun fun e he hb => ?_)
    · obtain ⟨_, v, rfl, hI'⟩ := h
      rw [hput i o xs v ho]
      refine ih _ _ w' ?_ (by simpa using hs) ?_
      · have hfe : (fun j => (listed.setIfInBounds i true).getD j true) = (fun j => if j = i then true else listed.getD j true) := by
          funext j
          by_cases hji : j = i
          · subst hji
            simp [Array.getD_eq_getD_getElem?, h2]
          · rw [getD_set_ne true (Ne.symm hji), if_neg hji]
        rw [hfe]
        exact hI'
      · have h3 : listed[i] = false := by simpa [Array.getD_eq_getD_getElem?, Array.getElem?_eq_getElem h2] using hun
        have := count_set_lt listed.toList i (by simp [h2, h3])
        rw [Array.toList_setIfInBounds]
        omega
    · have h1 := hall e he hb
      have h3 : e.on < listed.size := by have := hwf i o ho e he hb; omega
      simp only [Array.getD_eq_getD_getElem?, Array.getElem?_eq_getElem h3, Option.getD_some] at h1 ⊢
      exact h1

def invNeeds (md : Region.Mode) (L : Nat → Bool) : List Edge → Prop
  | [] => True
  | e :: l => (Region.binds md e = true → L e.on = true) ∧ invNeeds md L l
theorem invNeeds_of {L : Nat → Bool} : ∀ (l : List Edge), (∀ e ∈ l, Region.binds md e = true → L e.on = true) → invNeeds md L l
  | [], _ => trivial
  | e :: l, h => ⟨h e (by simp), invNeeds_of l fun e' he => h e' (by simp [he])⟩
def invOps (P : Program) (md : Region.Mode) (ops : Array Oper) (a : Act) (srcs : List (Option Nat)) (Inv : (Nat → Bool) → (Nat → Value) → World → Prop) : List Oper → Nat → Prop
  | [], _ => True
  | o :: l, k => (∀ L xs w, Inv L xs w → L k = false → invNeeds md L o.after.toList → wpList P ops (InvEnd Inv (flowAct a srcs xs) o k L xs) [o] (flowAct a srcs xs) w) ∧ invOps P md ops a srcs Inv l (k + 1)
theorem invOps_get {a : Act} {srcs : List (Option Nat)} {Inv : (Nat → Bool) → (Nat → Value) → World → Prop} : ∀ (l : List Oper) (k : Nat), invOps P md ops a srcs Inv l k → ∀ i o, l[i]? = some o →
    ∀ L xs w, Inv L xs w → L (k + i) = false → invNeeds md L o.after.toList → wpList P ops (InvEnd Inv (flowAct a srcs xs) o (k + i) L xs) [o] (flowAct a srcs xs) w
  | [], _, _, i, o, h => by simp at h
  | o' :: l, k, hh, 0, o, h => by
    obtain rfl : o' = o := by simpa using h
    exact hh.1
  | o' :: l, k, hh, i + 1, o, h => by
    have := invOps_get l (k + 1) hh.2 i o (by simpa using h)
    rwa [show k + 1 + i = k + (i + 1) by omega] at this
theorem wp_region_inv {id : Nat} {Q : Exit → Act → World → Prop} {l : List Oper} {a : Act} {w : World} (srcs : List (Option Nat)) (xs0 : Nat → Value) (Inv : (Nat → Bool) → (Nat → Value) → World → Prop) (hm : P.follows .mixedOrders = true)
    (hB : flowB .any l.toArray srcs = true) (hl : a.tmps.size = srcs.length) (h0 : flowAct a srcs xs0 = a)
    (hI0 : ∀ L, (∀ i, i < l.length → L i = false) → Inv L xs0 { w with drawn := w.drawn + 1 })
    (hops : invOps P .any l.toArray a srcs Inv l 0)
    (hend : ∀ L xs w', Inv L xs w' → (∀ i, i < l.length → L i = true) → Q .normal (flowAct a srcs xs) w') : (Code.region id l.toArray true).wp P Q a w := by
  refine wp_region_any hm ?_
  have := wpAny_inv (P := P) (ops := l.toArray) (md := .any) (Q := Q) (flowAct a srcs) Inv
    (fun i o ho => (flowB_spec hB ho).1) (fun i o xs v ho => flowAct_put hB hl ho xs v)
    (fun i o ho L xs x hI hL hn => by
      have := invOps_get l 0 hops i o (by simpa using ho) L xs x hI (by rwa [Nat.zero_add]) (invNeeds_of _ fun e he hb => hn e (by simpa using he) hb)
      rwa [Nat.zero_add] at this)
    (fun L xs x hI hL => hend L xs x hI (fun i hi => hL i (by simpa using hi)))
    l.toArray.size (Array.replicate l.toArray.size false) xs0 { w with drawn := w.drawn + 1 } (hI0 _ fun i hi => by
      rw [Array.getD_eq_getD_getElem?, Array.getElem?_eq_getElem (by simpa using hi)]; simp) (by simp) (by simp)
  rwa [h0] at this
end
end Go.Proofs.YtkjpmdpljdgcjaaDoor
end

section
/-
  Lists of cells that came in.
-/
namespace Go.Proofs.YtkjpmdpljdgcjaaDoor
open Go.RowKit Go Go.Sort Go.Deep
set_option linter.unusedVariables false
set_option maxRecDepth 20000

theorem choose_at {α : Type} {n : Nat} {p : Nat → α → Prop} (h : ∀ i, i < n → ∃ q, p i q) : ∃ V : Nat → Option α, ∀ i, i < n → ∃ q, V i = some q ∧ p i q := by
  induction n with
  | zero => exact ⟨fun _ => none, fun i hi => by omega⟩
  | succ n ih =>
    obtain ⟨V, hV⟩ := ih fun i hi => h i (by omega)
    obtain ⟨q, hq⟩ := h n (by omega)
    refine ⟨fun i => if i = n then some q else V i, fun i hi => ?_⟩
    by_cases e : i = n
    · subst e; exact ⟨q, by simp, hq⟩
    · simp only [if_neg e]; exact hV i (by omega)
/-- A list of cells that came in. -/
theorem open_cls {H : Type} {enc : TypeId × Value → H} {W : World} {a : Option Addr} {len cap : Nat} {d : DataW H} {p : List MemPlace} (h : DataW.Trod enc Tryd.prog W 0 (fun _ => true) true 23 (.slice a len cap) d p) :
    ∃ l, Cls W a len cap l ∧ ∀ c ∈ l, c.t.length ≤ 9223372036854775807 := by
  have hc : Tryd.prog.cellsOf 50 = 8 := by kernel_rfl
  obtain ⟨fuel, hf⟩ := h
  rcases open_slice Tryd.underlying23 hf with ⟨hcs, hx⟩ | ⟨x, l, c, m, n, D, Pl, hcs, _, hl, hm, hmm, hx, hcell⟩
  · simp [Value.cells] at hcs
    obtain ⟨rfl, rfl, rfl⟩ := hcs
    exact ⟨[], ⟨rfl, Nat.le_refl _, by omega, .inl rfl⟩, by simp⟩
  · simp [Value.cells] at hcs
    obtain ⟨rfl, rfl, rfl⟩ := hcs
    simp only [if_true] at hmm
    subst hmm
    rw [hc] at hcell
    have key : ∀ i, i < m → ∃ q : Cl, (∀ j u, q.arr[j]? = some u → W.cell? ((x.add (i * 8)).add j) = some u) ∧ q.t.length ≤ 9223372036854775807 := by
      intro i hi
      obtain ⟨cs', h1, h2⟩ := hcell i hi
      obtain ⟨_, h3l, h3⟩ := World.cells?_some h1
      obtain ⟨n', s', a', b', g', t', d', e', rfl, _, _, _, _, ht, _, _⟩ := cell_cells (sp := true) h2
      refine ⟨⟨n', s', a', b', g', t', d', e'⟩, fun j u hj => ?_, by unfold maxLen at ht; exact ht⟩
      have hjl : j < 8 := by
        have := (Array.getElem?_eq_some_iff.1 hj).1
        simpa [Cl.arr] using this
      have h4 := h3 j hjl
      rw [h4]
      rw [← hj]
      simp [Cl.arr]
    obtain ⟨V0, hV0⟩ := choose_at key
    obtain ⟨V, hV⟩ : ∃ V : Nat → Cl, ∀ i, i < m → ((∀ j u, (V i).arr[j]? = some u → W.cell? ((x.add (i * 8)).add j) = some u) ∧ (V i).t.length ≤ 9223372036854775807) := by
      refine ⟨fun i => (V0 i).getD Cl.zero, fun i hi => ?_⟩
      obtain ⟨q, hq, hp⟩ := hV0 i hi
      simp only [hq, Option.getD_some]
      exact hp
    have hgd : ∀ i, i < len → ((List.range len).map V).getD i Cl.zero = V i := fun i hi => by simp [List.getD, hi]
    refine ⟨(List.range len).map V, ⟨by simp, hl, by unfold maxLen at hm; omega, ?_⟩, ?_⟩
    · by_cases hz : m = 0
      · exact .inl hz
      · right
        obtain ⟨b, off, spot⟩ := x
        have h0 := (hV 0 (by omega)).1 0 _ rfl
        have hspot : spot = none := by simpa [Addr.add] using World.cell?_spot h0
        subst hspot
        refine ⟨b, off, rfl, fun i hi => ?_⟩
        rw [hgd i hi]
        have hq := (hV i (by omega)).1
        have e1 : (⟨b, off, none⟩ : Addr).add (i * 8) = ⟨b, off + i * 8, none⟩ := by
          by_cases h0 : i * 8 = 0
          · rw [h0]; rfl
          · simp [Addr.add, h0]
        rw [e1] at hq
        exact ⟨hq 0 _ rfl, hq 1 _ rfl, hq 2 _ rfl, hq 3 _ rfl, hq 4 _ rfl, hq 5 _ rfl, hq 6 _ rfl, hq 7 _ rfl⟩
    · intro g hg
      obtain ⟨i, hi, rfl⟩ := List.mem_map.1 hg
      exact (hV i (by have := List.mem_range.1 hi; omega)).2
end Go.Proofs.YtkjpmdpljdgcjaaDoor
end

section
/-
  Groups that came in, in lists.
-/
namespace Go.Proofs.YtkjpmdpljdgcjaaDoor
open Go.RowKit Go Go.Sort Go.Deep
set_option linter.unusedVariables false
set_option maxRecDepth 20000

theorem text_of (s : ByteArray) : s = text s.data.toList := rfl
theorem grp_cells {H : Type} {enc : TypeId × Value → H} {W : World} {base : Nat} {sp held : Bool} {fuel : Nat} {cs : List Value} {x : DataW H × List MemPlace} (h : DataW.trod enc Tryd.prog W base (fun _ => sp) held fuel 87 cs = some x) :
    ∃ (s : List UInt8) (p : Int), cs = [.string (text s), .int .i64 p] ∧ s.length ≤ maxLen ∧ -9223372036854775808 ≤ p ∧ p ≤ 9223372036854775807 := by
  obtain ⟨xs, m, _, rfl, hl, hlen, hf⟩ := DataW.trod_struct Tryd.underlying87 h
  have h2 : Tryd.prog.cellsOf 87 = 2 := by kernel_rfl
  have h1 : Tryd.prog.cellsOf 3 = 1 := by kernel_rfl
  have h9 : Tryd.prog.cellsOf 9 = 1 := by kernel_rfl
  rw [h2] at hl
  match xs, hlen with
  | [y0, y1], _ =>
    have i0 := hf 0 _ rfl
    have i1 := hf 1 _ rfl
    match cs, hl with
    | [c0, c1], _ =>
      have j0 : DataW.trod enc Tryd.prog W base (fun _ => sp) held m 9 (([c0, c1].drop 0).take (Tryd.prog.cellsOf 9)) = some y0 := i0
      have j1 : DataW.trod enc Tryd.prog W base (fun _ => sp) held m 3 (([c0, c1].drop 1).take (Tryd.prog.cellsOf 3)) = some y1 := i1
      rw [h9] at j0
      rw [h1] at j1
      obtain ⟨s, hs, _, ws⟩ := DataW.trod_string Tryd.underlying9 j0
      obtain ⟨b, hb, _, wb⟩ := DataW.trod_int Tryd.underlying3 j1
      simp at hs hb
      subst hs
      subst hb
      exact ⟨s.data.toList, b, rfl, by simpa using ws, i64_of_wf wb⟩
/-- A list of groups that came in. -/
theorem open_grs {H : Type} {enc : TypeId × Value → H} {W : World} {a : Option Addr} {len cap : Nat} {d : DataW H} {p : List MemPlace} (h : DataW.Trod enc Tryd.prog W 0 (fun _ => true) true 22 (.slice a len cap) d p) :
    ∃ l, Grs W a len cap l ∧ ∀ g ∈ l, g.1.length ≤ 9223372036854775807 := by
  have hc : Tryd.prog.cellsOf 87 = 2 := by kernel_rfl
  obtain ⟨fuel, hf⟩ := h
  rcases open_slice Tryd.underlying22 hf with ⟨hcs, hx⟩ | ⟨x, l, c, m, n, D, Pl, hcs, _, hl, hm, hmm, hx, hcell⟩
  · simp [Value.cells] at hcs
    obtain ⟨rfl, rfl, rfl⟩ := hcs
    exact ⟨[], ⟨rfl, Nat.le_refl _, by omega, .inl rfl⟩, by simp⟩
  · simp [Value.cells] at hcs
    obtain ⟨rfl, rfl, rfl⟩ := hcs
    simp only [if_true] at hmm
    subst hmm
    rw [hc] at hcell
    have key : ∀ i, i < m → ∃ q : Grp, W.cell? (x.add (i * 2)) = some (.string (text q.1)) ∧ W.cell? ((x.add (i * 2)).add 1) = some (.int .i64 q.2) ∧ q.1.length ≤ 9223372036854775807 := by
      intro i hi
      obtain ⟨cs', h1, h2⟩ := hcell i hi
      obtain ⟨_, _, h3⟩ := World.cells?_some h1
      obtain ⟨u, v, rfl, hu, hv⟩ := grp_cells (sp := true) h2
      have k0 := h3 0 (by omega)
      have k1 := h3 1 (by omega)
      refine ⟨(u, v), ?_, ?_, by unfold maxLen at hu; exact hu⟩
      · simpa [Addr.add] using k0
      · simpa using k1
    obtain ⟨V, hV⟩ := choose_lt (α := Grp) (p := fun i q => W.cell? (x.add (i * 2)) = some (.string (text q.1)) ∧ W.cell? ((x.add (i * 2)).add 1) = some (.int .i64 q.2) ∧ q.1.length ≤ 9223372036854775807) key
    have hgd : ∀ i, i < len → ((List.range len).map V).getD i ([], 0) = V i := fun i hi => by simp [List.getD, hi]
    refine ⟨(List.range len).map V, ⟨by simp, hl, by unfold maxLen at hm; omega, ?_⟩, ?_⟩
    · by_cases hz : m = 0
      · exact .inl hz
      · right
        obtain ⟨b, off, spot⟩ := x
        have h0 := (hV 0 (by omega)).1
        have hspot : spot = none := by simpa [Addr.add] using World.cell?_spot h0
        subst hspot
        refine ⟨b, off, rfl, fun i hi => ?_⟩
        rw [hgd i hi]
        obtain ⟨q1, q2, _⟩ := hV i (by omega)
        have e1 : (⟨b, off, none⟩ : Addr).add (i * 2) = ⟨b, off + i * 2, none⟩ := by
          by_cases h0 : i * 2 = 0
          · rw [h0]; rfl
          · simp [Addr.add, h0]
        rw [e1] at q1 q2
        exact ⟨q1, q2⟩
    · intro g hg
      obtain ⟨i, hi, rfl⟩ := List.mem_map.1 hg
      exact (hV i (by have := List.mem_range.1 hi; omega)).2.2
end Go.Proofs.YtkjpmdpljdgcjaaDoor
end

section
/-
  Row: rows that came in.
-/
namespace Go.Proofs.YtkjpmdpljdgcjaaDoor
open Go.RowKit Go Go.Sort Go.Deep
set_option linter.unusedVariables false
set_option maxRecDepth 20000

theorem trod_row {H : Type} {enc : TypeId × Value → H} {W : World} {fuel : Nat} {cs : List Value} {x : DataW H × List MemPlace} (h : DataW.trod enc Tryd.prog W 0 (fun _ => true) true fuel 25 cs = some x) :
    ∃ (k : List UInt8) (a : Option Addr) (len cap : Nat) (l : List Cl), cs = [.string (text k), .slice a len cap] ∧ k.length ≤ maxLen ∧ Cls W a len cap l ∧ ∀ c ∈ l, c.t.length ≤ 9223372036854775807 := by
  obtain ⟨xs, m, _, rfl, hl, hlen, hf⟩ := DataW.trod_struct Tryd.underlying25 h
  have h2 : Tryd.prog.cellsOf 25 = 2 := by kernel_rfl
  have h9 : Tryd.prog.cellsOf 9 = 1 := by kernel_rfl
  have hc : Tryd.prog.cellsOf 23 = 1 := by kernel_rfl
  rw [h2] at hl
  match xs, hlen with
  | [y0, y1], _ =>
    have i0 := hf 0 _ rfl
    have i1 := hf 1 _ rfl
    match cs, hl with
    | [c0, c1], _ =>
      have j0 : DataW.trod enc Tryd.prog W 0 (fun _ => true) true m 9 (([c0, c1].drop 0).take (Tryd.prog.cellsOf 9)) = some y0 := i0
      have j1 : DataW.trod enc Tryd.prog W 0 (fun _ => true) true m 23 (([c0, c1].drop 1).take (Tryd.prog.cellsOf 23)) = some y1 := i1
      rw [h9] at j0
      rw [hc] at j1
      obtain ⟨s, hs, _, ws⟩ := DataW.trod_string Tryd.underlying9 j0
      simp at hs
      subst hs
      have hv : ∃ a len cap, c1 = .slice a len cap := by
        rcases open_slice Tryd.underlying23 j1 with ⟨hcs, hx⟩ | ⟨x, l, c, m, n, D, Pl, hcs, _⟩
        · simp at hcs; exact ⟨_, _, _, hcs⟩
        · simp at hcs; exact ⟨_, _, _, hcs⟩
      obtain ⟨a, len, cap, rfl⟩ := hv
      obtain ⟨l, h1, h2⟩ := open_cls (d := y1.1) (p := y1.2) (W := W) (enc := enc) (a := a) (len := len) (cap := cap) ⟨m, j1⟩
      exact ⟨s.data.toList, a, len, cap, l, rfl, by simpa using ws, h1, h2⟩
/-- A row that came in. -/
theorem open_row {H : Type} {enc : TypeId × Value → H} {W : World} {base : Nat} {v : Value} {x : DataW H} {p : List MemPlace} (hv : Value.okWide Tryd.prog W .any base 25 v)
    (h : DataW.Trod enc Tryd.prog W 0 (fun _ => true) true 25 v x p) : ∃ (k : List UInt8) (a : Option Addr) (len cap : Nat) (l : List Cl), v = .agg #[.string (text k), .slice a len cap] ∧ k.length ≤ 9223372036854775807 ∧ Cls W a len cap l ∧ ∀ c ∈ l, c.t.length ≤ 9223372036854775807 := by
  simp only [Value.okWide, Tryd.underlying25] at hv
  obtain ⟨cs, rfl, hs, _⟩ := hv
  obtain ⟨m, hm⟩ := h
  obtain ⟨k, a, len, cap, l, hc, h1, h2, h3⟩ := trod_row hm
  refine ⟨k, a, len, cap, l, ?_, by unfold maxLen at h1; exact h1, h2, h3⟩
  congr 1
  apply Array.toList_inj.1
  exact hc
theorem trod_two {H : Type} {enc : TypeId × Value → H} {W : World} {fuel : Nat} {cs : List Value} {x : DataW H × List MemPlace} (h : DataW.trod enc Tryd.prog W 0 (fun _ => true) true fuel 52 cs = some x) :
    ∃ (k : List UInt8) (ad : Option Addr) (len cap : Nat) (l : List Cl) (i : Int) (n s a b : Int) (g : Bool) (t : List UInt8) (d e : Int), cs = [.string (text k), .slice ad len cap, .int .i64 i, .int .i64 n, .int .i64 s, .int .i64 a, .int .i64 b, .bool g, .string (text t), .int .i64 d, .int .i64 e] ∧ k.length ≤ maxLen ∧ Cls W ad len cap l ∧ (∀ c ∈ l, c.t.length ≤ 9223372036854775807) ∧ t.length ≤ maxLen ∧ IsI64 i := by
  obtain ⟨xs, m, _, rfl, hl, hlen, hf⟩ := DataW.trod_struct Tryd.underlying52 h
  have h11 : Tryd.prog.cellsOf 52 = 11 := by kernel_rfl
  have h2 : Tryd.prog.cellsOf 25 = 2 := by kernel_rfl
  have h3 : Tryd.prog.cellsOf 3 = 1 := by kernel_rfl
  have h8 : Tryd.prog.cellsOf 50 = 8 := by kernel_rfl
  rw [h11] at hl
  match xs, hlen with
  | [y0, y1, y2], _ =>
    have i0 := hf 0 _ rfl
    have i1 := hf 1 _ rfl
    have i2 := hf 2 _ rfl
    match cs, hl with
    | [c0, c1, c2, c3, c4, c5, c6, c7, c8, c9, c10], _ =>
      have j0 : DataW.trod enc Tryd.prog W 0 (fun _ => true) true m 25 (([c0, c1, c2, c3, c4, c5, c6, c7, c8, c9, c10].drop 0).take (Tryd.prog.cellsOf 25)) = some y0 := i0
      have j1 : DataW.trod enc Tryd.prog W 0 (fun _ => true) true m 3 (([c0, c1, c2, c3, c4, c5, c6, c7, c8, c9, c10].drop 2).take (Tryd.prog.cellsOf 3)) = some y1 := i1
      have j2 : DataW.trod enc Tryd.prog W 0 (fun _ => true) true m 50 (([c0, c1, c2, c3, c4, c5, c6, c7, c8, c9, c10].drop 3).take (Tryd.prog.cellsOf 50)) = some y2 := i2
      rw [h2] at j0
      rw [h3] at j1
      rw [h8] at j2
      obtain ⟨k, ad, len, cap, l, e0, w1, w2, w3⟩ := trod_row j0
      obtain ⟨i, e1, _, wi⟩ := DataW.trod_int Tryd.underlying3 j1
      obtain ⟨n, s, a, b, g, t, d, e, e2, _, _, _, _, wt, _, _⟩ := cell_cells (sp := true) j2
      simp at e0 e1 e2
      obtain ⟨rfl, rfl⟩ := e0
      subst e1
      obtain ⟨rfl, rfl, rfl, rfl, rfl, rfl, rfl, rfl⟩ := e2
      exact ⟨k, ad, len, cap, l, i, n, s, a, b, g, t, d, e, rfl, w1, w2, w3, wt, i64_of_wf wi⟩
/-- A row with a cell that came in. -/
theorem open_two {H : Type} {enc : TypeId × Value → H} {W : World} {base : Nat} {v : Value} {x : DataW H} {p : List MemPlace} (hv : Value.okWide Tryd.prog W .any base 52 v)
    (h : DataW.Trod enc Tryd.prog W 0 (fun _ => true) true 52 v x p) : ∃ (k : List UInt8) (ad : Option Addr) (len cap : Nat) (l : List Cl) (i : Int) (n s a b : Int) (g : Bool) (t : List UInt8) (d e : Int), v = .agg #[.string (text k), .slice ad len cap, .int .i64 i, .int .i64 n, .int .i64 s, .int .i64 a, .int .i64 b, .bool g, .string (text t), .int .i64 d, .int .i64 e] ∧ k.length ≤ 9223372036854775807 ∧ Cls W ad len cap l ∧ (∀ c ∈ l, c.t.length ≤ 9223372036854775807) ∧ t.length ≤ 9223372036854775807 ∧ IsI64 i := by
  simp only [Value.okWide, Tryd.underlying52] at hv
  obtain ⟨cs, rfl, hs, _⟩ := hv
  obtain ⟨m, hm⟩ := h
  obtain ⟨k, ad, len, cap, l, i, n, s, a, b, g, t, d, e, hc, h1, h2, h3, h4, h5⟩ := trod_two hm
  refine ⟨k, ad, len, cap, l, i, n, s, a, b, g, t, d, e, ?_, by unfold maxLen at h1; exact h1, h2, h3, by unfold maxLen at h4; exact h4, h5⟩
  congr 1
  apply Array.toList_inj.1
  exact hc
end Go.Proofs.YtkjpmdpljdgcjaaDoor
end

section
/-
  Row: the program's copied.
-/
namespace Go.Proofs.YtkjpmdpljdgcjaaDoor
open Go.RowKit Go Go.Sort
set_option linter.unusedVariables false
set_option maxRecDepth 20000

theorem run_copy_wide (P : Program) (w : World) (dT sT ty elem : TypeId) (g dLen dCap : Nat) (sp : Option Addr) (sLen sCap sz : Nat) (cur : Array Value) (t : TypeId) (cs : List Value)
    (hu : P.underlying dT = some (.slice elem)) (hs : (P.info? elem).map (·.size) = some sz)
    (hg : w.heap[g]? = some (.cells cur t (0, 0))) (hn : cs.length = Nat.min sLen dLen * sz)
    (hsrc : cs = [] ∧ sLen = 0 ∨ ∃ a, sp = some a ∧ ∀ j v, cs[j]? = some v → w.cell? (a.add j) = some v) (hfit : cs.length ≤ cur.size) (h1 : ∀ v ∈ cs, v.oneCell' = true) :
    (Builtin.copy_ #[dT, sT] ty #[.slice (some ⟨g, 0, none⟩) dLen dCap, .slice sp sLen sCap]).run P w =
      .ok (goInt (Nat.min sLen dLen)) (w.setRow g (cs ++ cur.toList.drop cs.length).toArray) := by
  have hst := run_storeCells_at P g 0 t cs 0 cur w hg (by simpa using hfit) h1
  simp only [Nat.zero_add, List.take_zero, List.nil_append] at hst
  cases hq : P.info? elem with
  | none => simp [hq] at hs
  | some i =>
    have hi : i.size = sz := by simpa [hq] using hs
    rcases hsrc with ⟨rfl, rfl⟩ | ⟨a, rfl, hsrc⟩
    · have e0 : Nat.min 0 dLen = 0 := Nat.zero_min _
      cases sp with
      | none => simp [Builtin.copy_, run_underlying hu, Builtin.lenOf, Builtin.firstCells, sizeOf, typeInfo, hq, e0, hst]
      | some a =>
        have hl := run_loadCells_list (P := P) w a [] (by simp)
        simp only [List.length_nil] at hl
        simp [Builtin.copy_, run_underlying hu, Builtin.lenOf, Builtin.firstCells, sizeOf, typeInfo, hq, e0, hl, hst]
    · have hl := run_loadCells_list (P := P) w a cs hsrc
      rw [hn] at hl
      simp [Builtin.copy_, run_underlying hu, Builtin.lenOf, Builtin.firstCells, sizeOf, typeInfo, hq, hi, hl, hst]

theorem wpList_copy_wide {P : Program} {w : World} {ops : Array Oper} {rest : List Oper} {o : Oper} {a : Act} {Q : Exit → Act → World → Prop} (hgd : o.guard = none) (d s : Operand) (dT sT : TypeId)
    (ho : o.op = .call { callee := .builtin .copy, args := #[d, s], argTypes := #[dT, sT] }) (elem : TypeId) (hu : P.underlying dT = some (.slice elem)) (sz : Nat) (hsz : (P.info? elem).map (·.size) = some sz)
    (g dLen dCap : Nat) (sp : Option Addr) (sLen sCap : Nat) (hd : a.eval d = .slice (some ⟨g, 0, none⟩) dLen dCap) (hs : a.eval s = .slice sp sLen sCap)
    (cur : Array Value) (t : TypeId) (hg : w.heap[g]? = some (.cells cur t (0, 0))) (cs : List Value) (hn : cs.length = Nat.min sLen dLen * sz)
    (hsrc : cs = [] ∧ sLen = 0 ∨ ∃ a, sp = some a ∧ ∀ j v, cs[j]? = some v → w.cell? (a.add j) = some v) (hfit : cs.length ≤ cur.size) (h1 : ∀ v ∈ cs, v.oneCell' = true)
    (h : wpList P ops Q rest (a.put o.dst (goInt (Nat.min sLen dLen))) (w.setRow g (cs ++ cur.toList.drop cs.length).toArray)) : wpList P ops Q (o :: rest) a w := by
  refine wpList_plain hgd fun K hK => ?_
  have hrun := run_copy_wide P w dT sT o.type elem g dLen dCap sp sLen sCap sz cur t cs hu hsz hg hn hsrc hfit h1
  unfold Oper.wp
  simp [execOp, ho, resolve, invoke, builtin, hd, hs, hrun, Result.andThen]
  exact hK _ _ h
theorem Cls.src {w : World} {x : Option Addr} {m cap : Nat} {cs : List Cl} (h : Cls w x m cap cs) : cCells cs = [] ∧ m = 0 ∨ ∃ a, x = some a ∧ ∀ j v, (cCells cs)[j]? = some v → w.cell? (a.add j) = some v := by
  have hl := h.len
  by_cases h0 : m = 0
  · left
    obtain rfl : cs = [] := List.eq_nil_of_length_eq_zero (by omega)
    exact ⟨rfl, h0⟩
  · right
    obtain ⟨b, off, rfl, _⟩ := h.at (k := 0) (by omega)
    refine ⟨_, rfl, fun j v hj => ?_⟩
    have hjl := (List.getElem?_eq_some_iff.1 hj).1
    rw [cCells_length] at hjl
    have hk : j / 8 < m := by omega
    obtain ⟨b', off', e, hat⟩ := h.at hk
    obtain ⟨rfl, rfl⟩ : b = b' ∧ off = off' := by
      have := Option.some.inj e
      injection this with e1 e2
      exact ⟨e1, e2⟩
    have hc := hat w (Below.refl _ _)
    have hg := cCells_get cs (j / 8) (j % 8) (by omega) (Nat.mod_lt _ (by omega))
    have e8 : j / 8 * 8 + j % 8 = j := by omega
    rw [e8, hj] at hg
    rw [addr_add]
    obtain ⟨c0, c1, c2, c3, c4, c5, c6, c7⟩ := hc
    have hm : j % 8 < 8 := Nat.mod_lt _ (by omega)
    obtain ⟨r, hr⟩ : ∃ r, j % 8 = r := ⟨_, rfl⟩
    rw [hr] at hg hm e8
    rw [show off + j = off + j / 8 * 8 + r by omega]
    generalize cs.getD (j / 8) Cl.zero = c at *
    generalize off + j / 8 * 8 = z at *
    rcases (by omega : r = 0 ∨ r = 1 ∨ r = 2 ∨ r = 3 ∨ r = 4 ∨ r = 5 ∨ r = 6 ∨ r = 7) with rfl | rfl | rfl | rfl | rfl | rfl | rfl | rfl
    · rw [Nat.add_zero, c0, hg]; rfl
    · rw [c1, hg]; rfl
    · rw [c2, hg]; rfl
    · rw [c3, hg]; rfl
    · rw [c4, hg]; rfl
    · rw [c5, hg]; rfl
    · rw [c6, hg]; rfl
    · rw [c7, hg]; rfl
theorem cCells_one (cs : List Cl) : ∀ v ∈ cCells cs, v.oneCell' = true := by
  intro v hv
  obtain ⟨c, _, h⟩ := List.mem_flatMap.1 hv
  simp [Cl.arr] at h
  rcases h with rfl | rfl | rfl | rfl | rfl | rfl | rfl | rfl <;> rfl

set_option maxRecDepth 100000 in
set_option maxHeartbeats 3200000 in
theorem copied_c {w : World} {x : Option Addr} {m cap : Nat} {cs : List Cl} (hl : Cls w x m cap cs) (hm : m ≤ 1000000) (key : ByteArray) :
    Calls Tryd.prog 49 #[.agg #[.string key, .slice x m cap]] w (fun e w' => ∃ g, e = .returned (.agg #[.string key, .slice (some ⟨g, 0, none⟩) m m]) ∧ w.heap.size ≤ g ∧ w'.heap[g]? = some (.cells (cCells cs).toArray 50 (0, 0)) ∧ Below w.heap.size w w') := by
  have hll := hl.len
  have hle := hl.le
  have hmax := hl.max
  obtain ⟨i0, hi, hz0, hz1, hz2⟩ := info_parts Tryd.infoC
  have hb := (alloc_below w (.cells #[.string key, .slice x m cap] 25)).alloc (by simp) (.cells #[.string ⟨#[]⟩, .slice none 0 0] 25)
  have hr0 : ((w.alloc (.cells #[.string key, .slice x m cap] 25)).alloc (.cells #[.string ⟨#[]⟩, .slice none 0 0] 25)).heap[w.heap.size]? = some (.cells #[.string key, .slice x m cap] 25 (0, 0)) := (Below.heap_alloc _ _ _ (by simp)).trans (heap_alloc_new w _)
  have hr1 := heap_alloc_new (w.alloc (.cells #[.string key, .slice x m cap] 25)) (.cells #[.string ⟨#[]⟩, .slice none 0 0] 25)
  rw [World.size_alloc] at hr1
  have HL := Lib.hid hl
  clear hl
  go_enter Tryd.func49, Tryd.ntmps49
  go_upto_region 1 with (fail)
  obtain ⟨B, hB⟩ : ∃ q, w.heap.size = q := ⟨_, rfl⟩
  have HBe := Lib.hid hB
  rw [hB] at hr0 hr1 ⊢
  clear hB
  generalize (w.alloc (.cells #[.string key, .slice x m cap] 25)).alloc (.cells #[.string ⟨#[]⟩, .slice none 0 0] 25) = W1 at *
  obtain ⟨r0, r1, -⟩ := row_cells hr0
  have HR0 := Lib.hid hr0
  have HR1 := Lib.hid hr1
  have HB1 := Lib.hid hb
  clear hr0 hr1 hb
  go_upto_region 2 with (refine wpList_make_full _ rfl _ _ _ rfl w.heap.size 50 i0 _ 8 Tryd.underlying23 hi hz0 hz1 .i64 .i64 _ _ m rfl rfl rfl rfl (by rw [hz2]; omega) (by unfold maxLen; omega) HB1.out.size ?_; intro w2 ho2 hg2)
  obtain ⟨-, ⟨ev, -⟩ | ⟨g, c, cur, ev, hBg, hgc, -, -, hcs, -⟩⟩ := ho2
  · cases ev
  · injection ev with e1 e2 e3
    injection e1 with e1
    injection e1 with e1
    subst e3
    rw [e1]
    have hlt := (Array.getElem?_eq_some_iff.1 hgc).1
    have hb2 := HB1.out.grown hg2 HB1.out.size (fun k e => by cases e)
    have hr2 := heap_grown HR0.out hg2 (by simp)
    have he2 := heap_grown HR1.out hg2 (by simp)
    have hgB : g ≠ B := fun e => by rw [e, hr2] at hgc; cases hgc
    have hgB1 : g ≠ B + 1 := fun e => by rw [e, he2] at hgc; cases hgc
    have hsrc := (HL.out.below hb2).src
    have hccl := cCells_length cs
    rw [hll] at hccl
    have h1c := cCells_one cs
    obtain ⟨r0, r1, -⟩ := row_cells hr2
    obtain ⟨X, hX⟩ : ∃ X, cCells cs = X := ⟨_, rfl⟩
    rw [hX] at hsrc hccl h1c
    have HX := Lib.hid hX
    clear hX
    have hdr : (X ++ cur.toList.drop X.length).toArray = X.toArray := by rw [List.drop_of_length_le (by simp; omega), List.append_nil]
    have HB3 := Lib.hid (below_setRow hb2 hBg X.toArray)
    have hr3 := (setRow_other w2 g B X.toArray (fun e => hgB e.symm)).trans hr2
    have he3 := (setRow_other w2 g (B + 1) X.toArray (fun e => hgB1 e.symm)).trans he2
    have HG3 := Lib.hid (setRow_heap w2 g cur X.toArray _ _ hgc)
    have hbg := hBg
    go_upto_region 3 with (refine wpList_copy_wide rfl _ _ 23 23 rfl 50 Tryd.underlying23 8 (by kernel_rfl) g m m x m cap rfl rfl cur 50 hgc X (by rw [hccl]; congr 1; exact (Nat.min_self m).symm) hsrc (by omega) h1c ?_; rw [hdr])
    obtain ⟨s0, s1, -⟩ := row_cells hr3
    obtain ⟨z0, z1, zf⟩ := row_cells he3
    have HS := Lib.hid (row_set he3 key (.slice (some ⟨g, 0, none⟩) m m))
    have HW := Lib.hid ((HB3.out.setCell (p := ⟨B + 1, 0, none⟩) (by have := HBe.out; simp; omega) (.string key)).setCell (p := ⟨B + 1, 1, none⟩) (by have := HBe.out; simp; omega) (.slice (some ⟨g, 0, none⟩) m m))
    have HGW := Lib.hid ((Below.heap_setCell ((w2.setRow g X.toArray).setCell ⟨B + 1, 0, none⟩ (.string key)) ⟨B + 1, 1, none⟩ (.slice (some ⟨g, 0, none⟩) m m) g (by simp; omega)).trans ((Below.heap_setCell (w2.setRow g X.toArray) ⟨B + 1, 0, none⟩ (.string key) g (by simp; omega)).trans HG3.out))
    clear hr3 he3 hr2 he2 hgc hsrc h1c hdr hb2 hg2 r0 r1
    go_wp2
    exact bodyPost_ret (results_cell_row rfl _ _ (B + 1) 25 _ (0, 0) _ rfl HS.out Tryd.underlying25 rfl (by kernel_rfl)) rfl ⟨g, rfl, hbg, by rw [HX.out]; exact HGW.out, HW.out⟩
end Go.Proofs.YtkjpmdpljdgcjaaDoor
end

section
/-
  Row: the program's Write.
-/
namespace Go.Proofs.YtkjpmdpljdgcjaaDoor
open Go.RowKit Go Go.Sort
set_option linter.unusedVariables false
set_option maxRecDepth 20000

theorem cells_put {W : World} {g k : Nat} {cs : List Cl} (hg : W.heap[g]? = some (.cells (cCells cs).toArray 50 (0, 0))) (hk : k < cs.length) (n9 s9 a9 b9 : Int) (g9 : Bool) (t9 : List UInt8) (d9 e9 : Int) :
    (((((((((W.setCell ⟨g, k * 8, none⟩ (.int .i64 n9)).setCell ⟨g, k * 8 + 1, none⟩ (.int .i64 s9)).setCell ⟨g, k * 8 + 2, none⟩ (.int .i64 a9)).setCell ⟨g, k * 8 + 3, none⟩ (.int .i64 b9)).setCell ⟨g, k * 8 + 4, none⟩ (.bool g9)).setCell ⟨g, k * 8 + 5, none⟩ (.string (text t9))).setCell ⟨g, k * 8 + 6, none⟩ (.int .i64 d9)).setCell ⟨g, k * 8 + 7, none⟩ (.int .i64 e9))).heap[g]? = some (.cells (cCells (cs.set k ⟨n9, s9, a9, b9, g9, t9, d9, e9⟩)).toArray 50 (0, 0)) := by
  have h0 := heap_setCell_same W g (k * 8) _ _ (.int .i64 n9) hg
  have h1 := heap_setCell_same _ g (k * 8 + 1) _ _ (.int .i64 s9) h0
  have h2 := heap_setCell_same _ g (k * 8 + 2) _ _ (.int .i64 a9) h1
  have h3 := heap_setCell_same _ g (k * 8 + 3) _ _ (.int .i64 b9) h2
  have h4 := heap_setCell_same _ g (k * 8 + 4) _ _ (.bool g9) h3
  have h5 := heap_setCell_same _ g (k * 8 + 5) _ _ (.string (text t9)) h4
  have h6 := heap_setCell_same _ g (k * 8 + 6) _ _ (.int .i64 d9) h5
  have h7 := heap_setCell_same _ g (k * 8 + 7) _ _ (.int .i64 e9) h6
  rw [h7]
  refine congrArg (fun z => some (Obj.cells z 50 (0, 0))) ?_
  apply Array.ext_getElem?
  intro j
  have hl := cCells_length cs
  have hl2 := cCells_length (cs.set k ⟨n9, s9, a9, b9, g9, t9, d9, e9⟩)
  rw [List.length_set] at hl2
  simp only [Array.getElem?_setIfInBounds, List.getElem?_toArray, Array.size_setIfInBounds, List.size_toArray, hl]
  by_cases hj : j < cs.length * 8
  · have hd : j / 8 < cs.length := by omega
    have hm : j % 8 < 8 := Nat.mod_lt _ (by omega)
    have e8 : j / 8 * 8 + j % 8 = j := by omega
    have g1 := cCells_get cs (j / 8) (j % 8) hd hm
    have g2 := cCells_get (cs.set k ⟨n9, s9, a9, b9, g9, t9, d9, e9⟩) (j / 8) (j % 8) (by rw [List.length_set]; exact hd) hm
    rw [e8] at g1 g2
    rw [g2, g1]
    obtain ⟨r, hr⟩ : ∃ r, j % 8 = r := ⟨_, rfl⟩
    rw [hr] at hm e8 ⊢
    by_cases hq : j / 8 = k
    · rw [hq] at e8 ⊢
      have e9 : (cs.set k ⟨n9, s9, a9, b9, g9, t9, d9, e9⟩).getD k Cl.zero = ⟨n9, s9, a9, b9, g9, t9, d9, e9⟩ := by simp [hk]
      rw [e9]
      subst e8
      have hk8 : k * 8 + 7 < cs.length * 8 := by omega
      rcases (by omega : r = 0 ∨ r = 1 ∨ r = 2 ∨ r = 3 ∨ r = 4 ∨ r = 5 ∨ r = 6 ∨ r = 7) with rfl | rfl | rfl | rfl | rfl | rfl | rfl | rfl
      all_goals
        repeat rw [if_neg (by omega)]
        rw [if_pos (by omega), if_pos (by omega)]
        rfl
    · have e9 : (cs.set k ⟨n9, s9, a9, b9, g9, t9, d9, e9⟩).getD (j / 8) Cl.zero = cs.getD (j / 8) Cl.zero := by
        simp only [List.getD_eq_getElem?_getD, List.getElem?_set]
        rw [if_neg (fun e => hq e.symm)]
      rw [e9]
      repeat rw [if_neg (by omega)]
  · rw [List.getElem?_eq_none (by omega), List.getElem?_eq_none (by omega)]
    repeat rw [if_neg (by omega)]
theorem cells_put_other {W : World} {g k q : Nat} (hq : q ≠ g) (n9 s9 a9 b9 : Int) (g9 : Bool) (t9 : List UInt8) (d9 e9 : Int) : (((((((((W.setCell ⟨g, k * 8, none⟩ (.int .i64 n9)).setCell ⟨g, k * 8 + 1, none⟩ (.int .i64 s9)).setCell ⟨g, k * 8 + 2, none⟩ (.int .i64 a9)).setCell ⟨g, k * 8 + 3, none⟩ (.int .i64 b9)).setCell ⟨g, k * 8 + 4, none⟩ (.bool g9)).setCell ⟨g, k * 8 + 5, none⟩ (.string (text t9))).setCell ⟨g, k * 8 + 6, none⟩ (.int .i64 d9)).setCell ⟨g, k * 8 + 7, none⟩ (.int .i64 e9))).heap[q]? = W.heap[q]? :=
  (Below.heap_setCell _ ⟨g, k * 8 + 7, none⟩ _ q hq).trans ((Below.heap_setCell _ ⟨g, k * 8 + 6, none⟩ _ q hq).trans ((Below.heap_setCell _ ⟨g, k * 8 + 5, none⟩ _ q hq).trans ((Below.heap_setCell _ ⟨g, k * 8 + 4, none⟩ _ q hq).trans ((Below.heap_setCell _ ⟨g, k * 8 + 3, none⟩ _ q hq).trans ((Below.heap_setCell _ ⟨g, k * 8 + 2, none⟩ _ q hq).trans ((Below.heap_setCell _ ⟨g, k * 8 + 1, none⟩ _ q hq).trans (Below.heap_setCell _ ⟨g, k * 8, none⟩ _ q hq)))))))
theorem cells_put_below {w W : World} {B g k : Nat} (hb : Below B w W) (hg : B ≤ g) (n9 s9 a9 b9 : Int) (g9 : Bool) (t9 : List UInt8) (d9 e9 : Int) : Below B w (((((((((W.setCell ⟨g, k * 8, none⟩ (.int .i64 n9)).setCell ⟨g, k * 8 + 1, none⟩ (.int .i64 s9)).setCell ⟨g, k * 8 + 2, none⟩ (.int .i64 a9)).setCell ⟨g, k * 8 + 3, none⟩ (.int .i64 b9)).setCell ⟨g, k * 8 + 4, none⟩ (.bool g9)).setCell ⟨g, k * 8 + 5, none⟩ (.string (text t9))).setCell ⟨g, k * 8 + 6, none⟩ (.int .i64 d9)).setCell ⟨g, k * 8 + 7, none⟩ (.int .i64 e9))) :=
  (((((((hb.setCell (p := ⟨g, k * 8, none⟩) hg _).setCell (p := ⟨g, k * 8 + 1, none⟩) hg _).setCell (p := ⟨g, k * 8 + 2, none⟩) hg _).setCell (p := ⟨g, k * 8 + 3, none⟩) hg _).setCell (p := ⟨g, k * 8 + 4, none⟩) hg _).setCell (p := ⟨g, k * 8 + 5, none⟩) hg _).setCell (p := ⟨g, k * 8 + 6, none⟩) hg _).setCell (p := ⟨g, k * 8 + 7, none⟩) hg _
def ClsV (l : List Cl) (v : Value) (W : World) : Prop := ∃ a n c, v = .slice a n c ∧ Cls W a n c l
theorem ClsV.kept {l : List Cl} {v : Value} {X Y : World} (h : ClsV l v X) (hb : Below X.heap.size X Y) : ClsV l v Y := by
  obtain ⟨a, n, c, rfl, h⟩ := h
  exact ⟨a, n, c, rfl, h.below hb⟩
/-- A cell written into a row, or why not. -/
def rwriteS (gs : List Grp) (key : List UInt8) (cs : List Cl) (k : Int) (c : Cl) : List UInt8 × List Cl × Int :=
  if ¬ rgoodS gs key cs = 0 then ([], [], rgoodS gs key cs) else if ¬ (pofS gs k).2 = 0 then ([], [], (pofS gs k).2) else if c.good (pofS gs k).1 = false then ([], [], 80) else (key, cs.set k.toNat (joinC [cs.getD k.toNat Cl.zero, c]), 0)
theorem write_bad {gs : List Grp} {key : List UInt8} {cs : List Cl} {k : Int} {c : Cl} (h : ¬ rgoodS gs key cs = 0) : rwriteS gs key cs k c = ([], [], rgoodS gs key cs) := by unfold rwriteS; rw [if_pos h]
theorem write_grp {gs : List Grp} {key : List UInt8} {cs : List Cl} {k : Int} {c : Cl} (h : rgoodS gs key cs = 0) (h2 : ¬ (pofS gs k).2 = 0) : rwriteS gs key cs k c = ([], [], (pofS gs k).2) := by unfold rwriteS; rw [if_neg (by simp [h]), if_pos h2]
theorem write_cell {gs : List Grp} {key : List UInt8} {cs : List Cl} {k : Int} {c : Cl} (h : rgoodS gs key cs = 0) (h2 : (pofS gs k).2 = 0) (h3 : c.good (pofS gs k).1 = false) : rwriteS gs key cs k c = ([], [], 80) := by unfold rwriteS; rw [if_neg (by simp [h]), if_neg (by simp [h2]), if_pos h3]
theorem write_ok {gs : List Grp} {key : List UInt8} {cs : List Cl} {k : Int} {c : Cl} (h : rgoodS gs key cs = 0) (h2 : (pofS gs k).2 = 0) (h3 : c.good (pofS gs k).1 = true) : rwriteS gs key cs k c = (key, cs.set k.toNat (joinC [cs.getD k.toNat Cl.zero, c]), 0) := by unfold rwriteS; rw [if_neg (by simp [h]), if_neg (by simp [h2]), if_neg (by simp [h3])]
theorem of_in {gs : List Grp} {k : Int} (h0 : pgoodS gs = 0) (h : (pofS gs k).2 = 0) : 0 ≤ k ∧ k < (gs.length : Int) := by
  unfold pofS at h
  rw [if_pos h0] at h
  split at h
  · cases h
  · rename_i hh; omega
theorem own_lit {W : World} {g B m : Nat} {cs : List Cl} (hg : W.heap[g]? = some (.cells (cCells cs).toArray 50 (0, 0))) (hB : B ≤ g) (hm : cs.length = m) (h : m ≤ 1000000) : OwnC W B (.slice (some ⟨g, 0, none⟩) m m) cs := by
  subst hm
  refine ⟨by simp [cCells_length], .inr ⟨g, cs.length, (cCells cs).toArray, rfl, hB, hg, Nat.le_refl _, by unfold maxLen; omega, by simp [cCells_length], ?_⟩⟩
  rw [List.take_of_length_le (by simp [cCells_length])]

set_option maxRecDepth 100000 in
set_option maxHeartbeats 12800000 in
theorem rowwrite_c {w : World} {x x2 : Option Addr} {n1 cap m cap2 : Nat} {gs : List Grp} {cs : List Cl} (hg : Grs w x n1 cap gs) (hs : ∀ g ∈ gs, g.1.length ≤ 9223372036854775807)
    (hl : Cls w x2 m cap2 cs) (hx : ∀ c ∈ cs, c.t.length ≤ 9223372036854775807) (key : List UInt8) (hk : key.length ≤ 9223372036854775807) (k : Int) (n s a b : Int) (g : Bool) (t : List UInt8) (d e : Int) (ht : t.length ≤ 9223372036854775807) :
    Calls Tryd.prog 23 #[.slice x n1 cap, .agg #[.string (text key), .slice x2 m cap2], .int .i64 k, .agg #[.int .i64 n, .int .i64 s, .int .i64 a, .int .i64 b, .bool g, .string (text t), .int .i64 d, .int .i64 e]] w (RowPost (rwriteS gs key cs k ⟨n, s, a, b, g, t, d, e⟩) w) := by
  have hgl := hg.len
  have hll := hl.len
  have hle2 := hl.le
  have hmax2 := hl.max
  have hGD := fun W (h : Below w.heap.size w W) => rowgood_c (hg.below h) hs (hl.below h) hx key hk
  have hOF := fun W (h : Below w.heap.size w W) => pof_c (hg.below h) hs k
  have hCG := fun p W => cgood_c p n s a b g t d e ht W
  have hCP := fun (hm : m ≤ 1000000) W (h : Below w.heap.size w W) => copied_c (hl.below h) hm (text key)
  have H0 := Lib.hid (@write_bad gs key cs k ⟨n, s, a, b, g, t, d, e⟩)
  have H1 := Lib.hid (@write_grp gs key cs k ⟨n, s, a, b, g, t, d, e⟩)
  have H2 := Lib.hid (@write_cell gs key cs k ⟨n, s, a, b, g, t, d, e⟩)
  have H3 := Lib.hid (@write_ok gs key cs k ⟨n, s, a, b, g, t, d, e⟩)
  have HIN := Lib.hid (@rgood_inv gs key cs)
  have HOI := Lib.hid (@of_in gs k)
  have HL := Lib.hid hl
  obtain ⟨RV, hRV⟩ : ∃ z, rwriteS gs key cs k ⟨n, s, a, b, g, t, d, e⟩ = z := ⟨_, rfl⟩
  obtain ⟨R, hR⟩ : ∃ z, rgoodS gs key cs = z := ⟨_, rfl⟩
  obtain ⟨⟨po, pe⟩, hpo⟩ : ∃ z, pofS gs k = z := ⟨_, rfl⟩
  obtain ⟨C, hC⟩ : ∃ z, (⟨n, s, a, b, g, t, d, e⟩ : Cl).good po = z := ⟨_, rfl⟩
  have hCG := fun W => hCG po W
  rw [hR, hRV] at H0
  rw [hR, hRV, hpo] at H1 H2 H3
  simp only at H1 H2 H3
  rw [hC] at H2 H3
  rw [hR] at HIN
  rw [hpo] at HOI
  simp only [hR] at hGD
  simp only [hpo] at hOF
  rw [show cgoodS po n s a b g t d e = C from hC] at hCG
  rw [hRV]
  obtain ⟨tk, htk⟩ : ∃ z, text key = z := ⟨_, rfl⟩
  rw [htk] at hGD hCP ⊢
  have HTK := Lib.hid htk
  have hb := ((alloc_below w (.cells #[.string tk, .slice x2 m cap2] 25)).alloc (by simp) (.cells #[.int .i64 n, .int .i64 s, .int .i64 a, .int .i64 b, .bool g, .string (text t), .int .i64 d, .int .i64 e] 50)).alloc (by simp; omega) (.cells #[.string ⟨#[]⟩, .slice none 0 0] 25)
  have hr : (((w.alloc (.cells #[.string tk, .slice x2 m cap2] 25)).alloc (.cells #[.int .i64 n, .int .i64 s, .int .i64 a, .int .i64 b, .bool g, .string (text t), .int .i64 d, .int .i64 e] 50)).alloc (.cells #[.string ⟨#[]⟩, .slice none 0 0] 25)).heap[w.heap.size]? = some (.cells #[.string tk, .slice x2 m cap2] 25 (0, 0)) := (Below.heap_alloc _ _ _ (by simp; omega)).trans ((Below.heap_alloc _ _ _ (by simp)).trans (heap_alloc_new w _))
  have hc : Cel (((w.alloc (.cells #[.string tk, .slice x2 m cap2] 25)).alloc (.cells #[.int .i64 n, .int .i64 s, .int .i64 a, .int .i64 b, .bool g, .string (text t), .int .i64 d, .int .i64 e] 50)).alloc (.cells #[.string ⟨#[]⟩, .slice none 0 0] 25)) (w.heap.size + 1) n s a b g t d e := by
    have := (Cel.new (w.alloc (.cells #[.string tk, .slice x2 m cap2] 25)) n s a b g t d e).kept (alloc_below _ (.cells #[.string ⟨#[]⟩, .slice none 0 0] 25))
    rwa [World.size_alloc] at this
  have hz := heap_alloc_new ((w.alloc (.cells #[.string tk, .slice x2 m cap2] 25)).alloc (.cells #[.int .i64 n, .int .i64 s, .int .i64 a, .int .i64 b, .bool g, .string (text t), .int .i64 d, .int .i64 e] 50)) (.cells #[.string ⟨#[]⟩, .slice none 0 0] 25)
  simp only [World.size_alloc] at hz
  have HGD := Lib.hid hGD
  have HOF := Lib.hid hOF
  have HCG := Lib.hid hCG
  have HCP := Lib.hid hCP
  clear hGD hOF hCG hCP hRV hR hpo hC htk hg hs hl hx hk ht
  go_enter Tryd.func23, Tryd.ntmps23
  go_upto_region 1 with (fail)
  obtain ⟨B, hB⟩ : ∃ q, w.heap.size = q := ⟨_, rfl⟩
  have HBe := Lib.hid hB
  rw [hB] at hr hc hz ⊢
  clear hB
  generalize ((w.alloc (.cells #[.string tk, .slice x2 m cap2] 25)).alloc (.cells #[.int .i64 n, .int .i64 s, .int .i64 a, .int .i64 b, .bool g, .string (text t), .int .i64 d, .int .i64 e] 50)).alloc (.cells #[.string ⟨#[]⟩, .slice none 0 0] 25) = W1 at *
  obtain ⟨r0, r1, -⟩ := row_cells hr
  have HR1 := Lib.hid hr
  have HC1 := Lib.hid hc
  have HZ1 := Lib.hid hz
  have HB1 := Lib.hid hb
  clear hr hc hz hb
  have hbad : ∀ (f : Int), RV = ([], [], f) → ∀ (W : World), Below W1.heap.size W1 W → RowPost RV w (.returned (.tuple #[.agg #[.string ⟨#[]⟩, .slice none 0 0], .int .i64 f])) ((W.setCell ⟨B + 1 + 1, 0, none⟩ (.string ⟨#[]⟩)).setCell ⟨B + 1 + 1, 1, none⟩ (.slice none 0 0)) := fun f h W hW => by
    rw [h]
    exact ⟨_, rfl, OwnC.nil _ _, ((HB1.out.trans (hW.mono HB1.out.size)).setCell (p := ⟨B + 1 + 1, 0, none⟩) (by have := HBe.out; simp; omega) _).setCell (p := ⟨B + 1 + 1, 1, none⟩) (by have := HBe.out; simp; omega) _⟩
  have HBAD := Lib.hid hbad
  clear hbad
  by_cases h0 : R = 0
  · subst h0
    have hpg := (HIN.out rfl).1
    have hlen := (HIN.out rfl).2.2.1
    have h4 := pgood_len hpg
    by_cases h1 : pe = 0
    · subst h1
      obtain ⟨hk0, hk1⟩ := HOI.out hpg (by first | rfl | trivial)
      obtain ⟨i, rfl⟩ : ∃ i : Nat, k = (i : Int) := ⟨k.toNat, by omega⟩
      cases C with
      | true =>
        have HRR := Lib.hid (H3.out (by first | rfl | trivial) (by first | rfl | trivial) (by first | rfl | trivial))
        simp only [Int.toNat_natCast] at HRR
        have hlk : i < cs.length := by omega
        have hlm : i < m := by omega
        have hm4 : m ≤ 4 := by omega
        have hkim : (i : Int) < (m : Int) := by omega
        have hkic : (i : Int) < (cap2 : Int) := by omega
        clear H0 H1 H2 H3 HIN HOI hpg hlen
        go_upto_region 9 with (first
          | (go_at_call 14; (with_reducible refine (HGD.out _ HB1.out).mono ?_); rintro e9 w2 ⟨rfl, hb2⟩; have HX2 := Lib.hid hb2; have HBx := Lib.hid (HB1.out.trans (hb2.mono HB1.out.size)); clear hb2)
          | (go_at_call 48; (with_reducible refine (HOF.out _ HBx.out).mono ?_); rintro e9 w3 ⟨rfl, hb3⟩; have HX3 := Lib.hid (HX2.out.trans (hb3.mono HX2.out.size)); clear hb3; obtain ⟨c0, c1, c2, c3, c4, c5, c6, c7⟩ := (HC1.out.kept HX3.out).cs)
          | (go_at_call 42; (with_reducible refine (HCG.out _).mono ?_); rintro e9 w4 ⟨rfl, hb4⟩; have HX4 := Lib.hid (HX3.out.trans (hb4.mono HX3.out.size)); clear hb4))
        have HB4 := Lib.hid (HB1.out.trans (HX4.out.mono HB1.out.size))
        have hr4 := heap_below HR1.out HX4.out
        have hc4 := HC1.out.kept HX4.out
        have hz4 := heap_below HZ1.out HX4.out
        clear r0 r1 c0 c1 c2 c3 c4 c5 c6 c7 HX2 HX3 HX4 HBx HR1 HC1 HZ1 HB1 HGD HOF HCG HBAD
        obtain ⟨r0, r1, -⟩ := row_cells hr4
        have HR4 := Lib.hid hr4
        have HC4 := Lib.hid hc4
        have HZ4 := Lib.hid hz4
        clear hr4 hc4 hz4
        go_upto_region 10 with (go_at_call 49; (with_reducible refine (HCP.out (by omega) _ HB4.out).mono ?_); rintro e9 w5 ⟨gg, rfl, hgg, hgc, hb5⟩)
        have hal := alloc_below w5 (.cells #[.string tk, .slice (some ⟨gg, 0, none⟩) m m] 25)
        have HS := Lib.hid (heap_alloc_new w5 (.cells #[.string tk, .slice (some ⟨gg, 0, none⟩) m m] 25))
        have HG := Lib.hid (heap_below hgc hal)
        have HO := Lib.hid (heap_below (heap_below HR4.out hb5) hal)
        have HC5 := Lib.hid ((HC4.out.kept hb5).kept hal)
        have HZ5 := Lib.hid (heap_below (heap_below HZ4.out hb5) hal)
        have HB3 := Lib.hid ((HB4.out.trans (hb5.mono HB4.out.size)).trans (hal.mono (Nat.le_trans HB4.out.size hb5.size)))
        have HGB := Lib.hid (Nat.le_trans HB4.out.size hgg)
        have HGS := Lib.hid (show gg < w5.heap.size from (Array.getElem?_eq_some_iff.1 hgc).1)
        have HZS := Lib.hid (show B + 1 + 1 < gg from Nat.lt_of_lt_of_le (Array.getElem?_eq_some_iff.1 HZ4.out).1 hgg)
        obtain ⟨S, hS⟩ : ∃ q, w5.heap.size = q := ⟨_, rfl⟩
        rw [hS] at HS HGS ⊢
        generalize w5.alloc (.cells #[.string tk, .slice (some ⟨gg, 0, none⟩) m m] 25) = W5 at *
        clear hal hb5 hgc hgg hS r0 r1 HR4 HC4 HZ4 HCP
        obtain ⟨bk, off, rfl, hat⟩ := HL.out.at hlm
        obtain ⟨y, hck⟩ : ∃ y, cs.getD i Cl.zero = y := ⟨_, rfl⟩
        rw [hck] at hat HRR
        obtain ⟨n', s', a', b', g', t', d', e'⟩ := y
        obtain ⟨y, hj⟩ : ∃ y, joinC [⟨n', s', a', b', g', t', d', e'⟩, ⟨n, s, a, b, g, t, d, e⟩] = y := ⟨_, rfl⟩
        rw [hj] at HRR
        obtain ⟨n9, s9, a9, b9, g9, t9, d9, e9⟩ := y
        have HJ9 := Lib.hid hj
        have HCK := Lib.hid hck
        have HPW := Lib.hid (fun W (h : Below W5.heap.size W5 W) => hat W (HB3.out.trans (h.mono HB3.out.size)))
        have HSW := Lib.hid (fun W (h : Below W5.heap.size W5 W) => row_cells (heap_below HS.out h))
        have HRW := Lib.hid (fun W (h : Below W5.heap.size W5 W) => row_cells (heap_below HO.out h))
        have HCW := Lib.hid (fun W (h : Below W5.heap.size W5 W) => (HC5.out.kept h).cs)
        clear hat hj hck
        refine wp_region_flow_tail 12 [none, none, none, none, none, none, none, none, none, none, none, none, none, none, none, none, none, none, none, none, none, none, none, none, none, none, none, none, none, none, none, none, none, none, none, none, none, none, none, none, some 0, some 1, some 2, some 3, some 4, some 5, some 6, some 7, some 8, some 9, some 10, some 11, none] (fun i => [undef, undef, undef, undef, undef, undef, undef, undef, undef, undef, undef, undef].getD i undef) [(fun v _ => v = .pointer (some ⟨S, 1, none⟩)), (fun v _ => v = .slice (some ⟨gg, 0, none⟩) m m), (fun v _ => v = .int .i64 (i : Int)), (fun v _ => v = .pointer (some ⟨B, 1, none⟩)), (fun v _ => v = .slice (some ⟨bk, off, none⟩) m cap2), (fun v _ => v = .int .i64 (i : Int)), (fun v _ => v = .pointer (some ⟨bk, off + i * 8, none⟩)), (fun v _ => v = .agg #[.int .i64 n', .int .i64 s', .int .i64 a', .int .i64 b', .bool g', .string (text t'), .int .i64 d', .int .i64 e']), (fun v _ => v = .agg #[.int .i64 n, .int .i64 s, .int .i64 a, .int .i64 b, .bool g, .string (text t), .int .i64 d, .int .i64 e]), (ClsV [⟨n', s', a', b', g', t', d', e'⟩, ⟨n, s, a, b, g, t, d, e⟩]), (fun v _ => v = .agg #[.int .i64 n9, .int .i64 s9, .int .i64 a9, .int .i64 b9, .bool g9, .string (text t9), .int .i64 d9, .int .i64 e9]), (fun v _ => v = .pointer (some ⟨gg, i * 8, none⟩))] (fun _ => False) (by kernel_rfl) (by kernel_rfl) (by kernel_rfl) rfl rfl rfl ?_ ?_ ?_
        · intro g hg v X Y hX hY hv
          simp only [List.mem_cons, List.not_mem_nil, or_false] at hg
          rcases hg with rfl | rfl | rfl | rfl | rfl | rfl | rfl | rfl | rfl | rfl | rfl | rfl
          all_goals first
            | exact hv
            | exact hv.kept hY
        · simp only [flowOpsF, List.take_succ_cons, List.take_zero, and_true]
          refine ⟨?_, ?_, ?_, ?_, ?_, ?_, ?_, ?_, ?_, ?_, ?_, ?_⟩
          · intro xs W hW hn
            simp only [flowAct, List.zipWith_cons_cons, List.zipWith_nil_left]
            go_wp2_with (fail)
            exact ⟨rfl, _, rfl, Below.refl _ _, rfl, fun h => h.elim⟩
          · intro xs W hW hn
            obtain ⟨-, f1, -⟩ := HSW.out W hW
            simp [flowNeeds, Region.binds] at hn
            simp only [flowAct, List.zipWith_cons_cons, List.zipWith_nil_left]
            try simp only [hn]
            go_wp2_with (fail)
            exact ⟨rfl, _, rfl, Below.refl _ _, rfl, fun h => h.elim⟩
          · intro xs W hW hn
            simp only [flowAct, List.zipWith_cons_cons, List.zipWith_nil_left]
            go_wp2_with (fail)
            exact ⟨rfl, _, rfl, Below.refl _ _, rfl, fun h => h.elim⟩
          · intro xs W hW hn
            simp only [flowAct, List.zipWith_cons_cons, List.zipWith_nil_left]
            go_wp2_with (fail)
            exact ⟨rfl, _, rfl, Below.refl _ _, rfl, fun h => h.elim⟩
          · intro xs W hW hn
            obtain ⟨-, f2, -⟩ := HRW.out W hW
            simp [flowNeeds, Region.binds] at hn
            simp only [flowAct, List.zipWith_cons_cons, List.zipWith_nil_left]
            try simp only [hn]
            go_wp2_with (fail)
            exact ⟨rfl, _, rfl, Below.refl _ _, rfl, fun h => h.elim⟩
          · intro xs W hW hn
            simp only [flowAct, List.zipWith_cons_cons, List.zipWith_nil_left]
            go_wp2_with (fail)
            exact ⟨rfl, _, rfl, Below.refl _ _, rfl, fun h => h.elim⟩
          · intro xs W hW hn
            simp [flowNeeds, Region.binds] at hn
            simp only [flowAct, List.zipWith_cons_cons, List.zipWith_nil_left]
            try simp only [hn]
            go_wp2_with (fail)
            exact ⟨rfl, _, rfl, Below.refl _ _, rfl, fun h => h.elim⟩
          · intro xs W hW hn
            obtain ⟨p0, p1, p2, p3, p4, p5, p6, p7⟩ := HPW.out W hW
            simp only at p0 p1 p2 p3 p4 p5 p6 p7
            simp [flowNeeds, Region.binds] at hn
            simp only [flowAct, List.zipWith_cons_cons, List.zipWith_nil_left]
            try simp only [hn]
            go_wp2_with (fail)
            exact ⟨rfl, _, rfl, Below.refl _ _, rfl, fun h => h.elim⟩
          · intro xs W hW hn
            obtain ⟨c0, c1, c2, c3, c4, c5, c6, c7⟩ := HCW.out W hW
            simp only [flowAct, List.zipWith_cons_cons, List.zipWith_nil_left]
            go_wp2_with (fail)
            exact ⟨rfl, _, rfl, Below.refl _ _, rfl, fun h => h.elim⟩
          · intro xs W hW hn
            simp [flowNeeds, Region.binds] at hn
            simp only [flowAct, List.zipWith_cons_cons, List.zipWith_nil_left]
            simp only [hn]
            go_wp2_with (fail)
            exact ⟨rfl, _, rfl, alloc_below _ _, ⟨_, _, _, rfl, cls2 _ _ _ _ _ _ _ _ _ _ _ _ _ _ _ _ _⟩, fun h => h.elim⟩
          · intro xs W hW hn
            simp [flowNeeds, Region.binds] at hn
            obtain ⟨a8, n8, k8, hv8, hc8⟩ := hn
            have HJJ := Lib.hid (join_c hc8)
            rw [HJ9.out] at HJJ
            clear hc8
            simp only [flowAct, List.zipWith_cons_cons, List.zipWith_nil_left]
            simp only [hv8]
            go_wp2_with (go_at_call 31; (with_reducible refine HJJ.out.mono ?_); rintro e9 w9 ⟨rfl, hb9⟩)
            exact ⟨rfl, _, rfl, hb9, rfl, fun h => h.elim⟩
          · intro xs W hW hn
            simp [flowNeeds, Region.binds] at hn
            simp only [flowAct, List.zipWith_cons_cons, List.zipWith_nil_left]
            try simp only [hn]
            go_wp2_with (fail)
            exact ⟨rfl, _, rfl, Below.refl _ _, rfl, fun h => h.elim⟩
        · intro xs W hW hall hfr
          clear hfr
          simp only [flowAll, and_true, Nat.zero_add, Nat.reduceAdd] at hall
          obtain ⟨-, -, -, -, -, -, -, -, -, -, y10, y11⟩ := hall
          simp only [flowAct, List.zipWith_cons_cons, List.zipWith_nil_left, List.drop_succ_cons, List.drop_zero]
          simp only [y10, y11]
          have hgW := heap_below HG.out hW
          have hrW := heap_below HO.out hW
          have hsW := heap_below HS.out hW
          have hbW := HB3.out.trans (hW.mono HB3.out.size)
          have hput := cells_put hgW hlk n9 s9 a9 b9 g9 t9 d9 e9
          have hq : ∀ j, j < 8 → W.cell? ⟨gg, i * 8 + j, none⟩ = (cs.getD i Cl.zero).arr[j]? := fun j hj => by
            rw [cell_of_row W gg _ _ _ (0, 0) hgW, List.getElem?_toArray, cCells_get cs i j hlk hj]
          rw [HCK.out] at hq
          have q0 : W.cell? ⟨gg, i * 8, none⟩ = some (.int .i64 n') := hq 0 (by omega)
          have q1 : W.cell? ⟨gg, i * 8 + 1, none⟩ = some (.int .i64 s') := hq 1 (by omega)
          have q2 : W.cell? ⟨gg, i * 8 + 2, none⟩ = some (.int .i64 a') := hq 2 (by omega)
          have q3 : W.cell? ⟨gg, i * 8 + 3, none⟩ = some (.int .i64 b') := hq 3 (by omega)
          have q4 : W.cell? ⟨gg, i * 8 + 4, none⟩ = some (.bool g') := hq 4 (by omega)
          have q5 : W.cell? ⟨gg, i * 8 + 5, none⟩ = some (.string (text t')) := hq 5 (by omega)
          have q6 : W.cell? ⟨gg, i * 8 + 6, none⟩ = some (.int .i64 d') := hq 6 (by omega)
          have q7 : W.cell? ⟨gg, i * 8 + 7, none⟩ = some (.int .i64 e') := hq 7 (by omega)
          have hqf : ∀ j, W.frozen? ⟨gg, j, none⟩ = false := fun j => frozen_of_row _ gg j _ _ hgW
          have hgs := HGS.out
          have hzs := HZS.out
          have hsP := (cells_put_other (W := W) (g := gg) (k := i) (q := S) (by omega) n9 s9 a9 b9 g9 t9 d9 e9).trans hsW
          have hzP := (cells_put_other (W := W) (g := gg) (k := i) (q := B + 1 + 1) (by omega) n9 s9 a9 b9 g9 t9 d9 e9).trans (heap_below HZ5.out hW)
          have hbP := cells_put_below (k := i) hbW HGB.out n9 s9 a9 b9 g9 t9 d9 e9
          have HPUT := Lib.hid hput
          have HSP := Lib.hid hsP
          have HZP := Lib.hid hzP
          have HBP := Lib.hid hbP
          clear hq hput hsP hzP hbP hgW hrW hsW hbW hgs hzs
          go_upto_region 11 with (fail)
          obtain ⟨Wp, hWp⟩ : ∃ X, ((((((((W.setCell ⟨gg, i * 8, none⟩ (.int .i64 n9)).setCell ⟨gg, i * 8 + 1, none⟩ (.int .i64 s9)).setCell ⟨gg, i * 8 + 2, none⟩ (.int .i64 a9)).setCell ⟨gg, i * 8 + 3, none⟩ (.int .i64 b9)).setCell ⟨gg, i * 8 + 4, none⟩ (.bool g9)).setCell ⟨gg, i * 8 + 5, none⟩ (.string (text t9))).setCell ⟨gg, i * 8 + 6, none⟩ (.int .i64 d9)).setCell ⟨gg, i * 8 + 7, none⟩ (.int .i64 e9)) = X := ⟨_, rfl⟩
          rw [hWp] at HPUT HSP HZP HBP ⊢
          clear hWp q0 q1 q2 q3 q4 q5 q6 q7 hqf
          obtain ⟨s0, s1, -⟩ := row_cells HSP.out
          obtain ⟨z0, z1, zf⟩ := row_cells HZP.out
          have hzs := HZS.out
          have HFIN := Lib.hid (row_set HZP.out tk (.slice (some ⟨gg, 0, none⟩) m m))
          have HFB := Lib.hid ((HBP.out.setCell (p := ⟨B + 1 + 1, 0, none⟩) (by have := HBe.out; simp; omega) (.string tk)).setCell (p := ⟨B + 1 + 1, 1, none⟩) (by have := HBe.out; simp; omega) (.slice (some ⟨gg, 0, none⟩) m m))
          have HFG := Lib.hid ((Below.heap_setCell (Wp.setCell ⟨B + 1 + 1, 0, none⟩ (.string tk)) ⟨B + 1 + 1, 1, none⟩ (.slice (some ⟨gg, 0, none⟩) m m) gg (by simp; omega)).trans ((Below.heap_setCell Wp ⟨B + 1 + 1, 0, none⟩ (.string tk) gg (by simp; omega)).trans HPUT.out))
          go_wp2
          refine bodyPost_ret (res_cell_tmp rfl _ _ (B + 1 + 1) 25 _ (0, 0) _ (.int .i64 0) rfl rfl HFIN.out Tryd.underlying25 rfl (by kernel_rfl)) rfl ?_
          rw [HRR.out]
          exact ⟨_, by rw [HTK.out], own_lit HFG.out HGB.out (by rw [List.length_set]; exact hll) (by omega), HFB.out⟩
      | false =>
        have HRR := Lib.hid (H2.out (by first | rfl | trivial) (by first | rfl | trivial) (by first | rfl | trivial))
        clear H0 H1 H2 H3 HIN HOI hpg hlen
        go_wp2_with (first
          | (go_at_call 14; (with_reducible refine (HGD.out _ HB1.out).mono ?_); rintro e9 w2 ⟨rfl, hb2⟩; have HX2 := Lib.hid hb2; have HBx := Lib.hid (HB1.out.trans (hb2.mono HB1.out.size)); clear hb2)
          | (go_at_call 48; (with_reducible refine (HOF.out _ HBx.out).mono ?_); rintro e9 w3 ⟨rfl, hb3⟩; have HX3 := Lib.hid (HX2.out.trans (hb3.mono HX2.out.size)); clear hb3; obtain ⟨c0, c1, c2, c3, c4, c5, c6, c7⟩ := (HC1.out.kept HX3.out).cs)
          | (go_at_call 42; (with_reducible refine (HCG.out _).mono ?_); rintro e9 w4 ⟨rfl, hb4⟩; have HX4 := Lib.hid (HX3.out.trans (hb4.mono HX3.out.size)); clear hb4; obtain ⟨z0, z1, zf⟩ := row_cells (heap_below HZ1.out HX4.out)))
        exact bodyPost_ret (res_cell_tmp rfl _ _ (B + 1 + 1) 25 _ (0, 0) _ (.int .i64 80) rfl rfl (row_set (heap_below HZ1.out HX4.out) ⟨#[]⟩ (.slice none 0 0)) Tryd.underlying25 rfl (by kernel_rfl)) rfl (HBAD.out _ HRR.out _ HX4.out)
    · have h1n : (pe != 0) = true := by simpa using h1
      have HRR := Lib.hid (H1.out (by first | rfl | trivial) h1)
      clear H0 H1 H2 H3 HIN HOI hpg hlen h1
      go_wp2_with (first
        | (go_at_call 14; (with_reducible refine (HGD.out _ HB1.out).mono ?_); rintro e9 w2 ⟨rfl, hb2⟩; have HX2 := Lib.hid hb2; have HBx := Lib.hid (HB1.out.trans (hb2.mono HB1.out.size)); clear hb2)
        | (go_at_call 48; (with_reducible refine (HOF.out _ HBx.out).mono ?_); rintro e9 w3 ⟨rfl, hb3⟩; have HX3 := Lib.hid (HX2.out.trans (hb3.mono HX2.out.size)); clear hb3; obtain ⟨z0, z1, zf⟩ := row_cells (heap_below HZ1.out HX3.out)))
      exact bodyPost_ret (res_cell_tmp rfl _ _ (B + 1 + 1) 25 _ (0, 0) _ (.int .i64 pe) rfl rfl (row_set (heap_below HZ1.out HX3.out) ⟨#[]⟩ (.slice none 0 0)) Tryd.underlying25 rfl (by kernel_rfl)) rfl (HBAD.out _ HRR.out _ HX3.out)
  · have h0n : (R != 0) = true := by simpa using h0
    have HRR := Lib.hid (H0.out h0)
    clear H0 H1 H2 H3 HIN HOI h0
    go_wp2_with (go_at_call 14; (with_reducible refine (HGD.out _ HB1.out).mono ?_); rintro e9 w2 ⟨rfl, hb2⟩; have HX2 := Lib.hid hb2; clear hb2; obtain ⟨z0, z1, zf⟩ := row_cells (heap_below HZ1.out HX2.out))
    exact bodyPost_ret (res_cell_tmp rfl _ _ (B + 1 + 1) 25 _ (0, 0) _ (.int .i64 R) rfl rfl (row_set (heap_below HZ1.out HX2.out) ⟨#[]⟩ (.slice none 0 0)) Tryd.underlying25 rfl (by kernel_rfl)) rfl (HBAD.out _ HRR.out _ HX2.out)
end Go.Proofs.YtkjpmdpljdgcjaaDoor
end

section
/-
  Row: the program's Join.
-/
namespace Go.Proofs.YtkjpmdpljdgcjaaDoor
open Go.RowKit Go Go.Sort
set_option linter.unusedVariables false
set_option maxRecDepth 20000

attribute [local go_sem] Oper.semAt_some
/-- The cells of a join, up to a place. -/
def zipN (ca cb : List Cl) : Nat → List Cl
  | 0 => ca
  | k + 1 => (zipN ca cb k).set k (joinC [ca.getD k Cl.zero, cb.getD k Cl.zero])
theorem zipN_len (ca cb : List Cl) : ∀ k, (zipN ca cb k).length = ca.length
  | 0 => rfl
  | k + 1 => by show ((zipN ca cb k).set k _).length = _; rw [List.length_set]; exact zipN_len ca cb k
theorem zipN_get (ca cb : List Cl) (i : Nat) (hi : i < ca.length) : ∀ k, (zipN ca cb k).getD i Cl.zero = if i < k then joinC [ca.getD i Cl.zero, cb.getD i Cl.zero] else ca.getD i Cl.zero
  | 0 => by simp [zipN]
  | k + 1 => by
    have ih := zipN_get ca cb i hi k
    have hl := zipN_len ca cb k
    show ((zipN ca cb k).set k _).getD i Cl.zero = _
    rw [List.getD_eq_getElem?_getD, List.getElem?_set]
    by_cases e : k = i
    · subst e; simp [hl, hi]
    · rw [if_neg e, ← List.getD_eq_getElem?_getD, ih]
      by_cases h : i < k
      · rw [if_pos h, if_pos (by omega)]
      · rw [if_neg h, if_neg (by omega)]
theorem rowidx0 (a b : ByteArray) (xa xb : Option Addr) (m n c e : Nat) (W : World) : (Instr.index 96 (.agg #[.string a, .slice xa m c, .string b, .slice xb n e]) (.int .i64 0)).run Tryd.prog W = .ok (.agg #[.string a, .slice xa m c]) W := by kernel_rfl
theorem rowidx1 (a b : ByteArray) (xa xb : Option Addr) (m n c e : Nat) (W : World) : (Instr.index 96 (.agg #[.string a, .slice xa m c, .string b, .slice xb n e]) (.int .i64 1)).run Tryd.prog W = .ok (.agg #[.string b, .slice xb n e]) W := by kernel_rfl
/-- Two rows of one key, put together, or why not. -/
def rjoinS (gs : List Grp) (ka : List UInt8) (ca : List Cl) (kb : List UInt8) (cb : List Cl) : List UInt8 × List Cl × Int :=
  if ¬ rgoodS gs ka ca = 0 then ([], [], rgoodS gs ka ca) else if ¬ rgoodS gs kb cb = 0 then ([], [], rgoodS gs kb cb) else if ¬ ka = kb then ([], [], 100) else (ka, zipN ca cb ca.length, 0)

/-- Between two rounds. -/
def JoinI (ca cb : List Cl) (oS oA oZ : Obj) (n₀ gg S B Z base : Nat) (w : World) (xs : List Nat) (W : World) : Prop :=
  W.heap[gg]? = some (.cells (cCells (zipN ca cb xs.length)).toArray 50 (0, 0)) ∧ W.heap[S]? = some oS ∧ W.heap[B]? = some oA ∧ W.heap[Z]? = some oZ ∧ Below n₀ w W ∧ base ≤ W.heap.size
theorem JoinI.own {ca cb : List Cl} {c1 c2 c3 : Array Value} {n₀ gg S B Z base B9 : Nat} {w : World} (h1 : n₀ ≤ B9) (h2 : n₀ ≤ base) : OwnT B9 87 (JoinI ca cb (.cells c1 25 (0, 0)) (.cells c2 25 (0, 0)) (.cells c3 25 (0, 0)) n₀ gg S B Z base w) := by
  rintro xs X Y row ⟨hg, hS, hB, hZ, hw, hs⟩ hgr hr
  exact ⟨turn_keep hgr hr hg (by decide), turn_keep hgr hr hS (by decide), turn_keep hgr hr hB (by decide), turn_keep hgr hr hZ (by decide), turn_below hgr hr h1 (Nat.le_trans h2 hs) hw, Nat.le_trans hs hgr.size⟩
theorem leaves_put {T : TypeId} {base : Nat} (W : World) (g k : Nat) (n9 s9 a9 b9 : Int) (g9 : Bool) (t9 : List UInt8) (d9 e9 : Int) : LeavesT T (fun j => j = g) base W (((((((((W.setCell ⟨g, k * 8, none⟩ (.int .i64 n9)).setCell ⟨g, k * 8 + 1, none⟩ (.int .i64 s9)).setCell ⟨g, k * 8 + 2, none⟩ (.int .i64 a9)).setCell ⟨g, k * 8 + 3, none⟩ (.int .i64 b9)).setCell ⟨g, k * 8 + 4, none⟩ (.bool g9)).setCell ⟨g, k * 8 + 5, none⟩ (.string (text t9))).setCell ⟨g, k * 8 + 6, none⟩ (.int .i64 d9)).setCell ⟨g, k * 8 + 7, none⟩ (.int .i64 e9))) :=
  ⟨(cells_put_below (w := W) (k := k) (Below.refl 0 W) (Nat.zero_le g) n9 s9 a9 b9 g9 t9 d9 e9).size, fun j o hj hb _ => (cells_put_other hb n9 s9 a9 b9 g9 t9 d9 e9).trans hj⟩

set_option maxRecDepth 100000 in
set_option maxHeartbeats 12800000 in
theorem rowjoin_c {w : World} {x xa xb : Option Addr} {n1 cap ma capa mb capb : Nat} {gs : List Grp} {ca cb : List Cl} (hg : Grs w x n1 cap gs) (hs : ∀ g ∈ gs, g.1.length ≤ 9223372036854775807)
    (hla : Cls w xa ma capa ca) (hxa : ∀ c ∈ ca, c.t.length ≤ 9223372036854775807) (ka : List UInt8) (hka : ka.length ≤ 9223372036854775807)
    (hlb : Cls w xb mb capb cb) (hxb : ∀ c ∈ cb, c.t.length ≤ 9223372036854775807) (kb : List UInt8) (hkb : kb.length ≤ 9223372036854775807) :
    Calls Tryd.prog 25 #[.slice x n1 cap, .agg #[.string (text ka), .slice xa ma capa], .agg #[.string (text kb), .slice xb mb capb]] w (RowPost (rjoinS gs ka ca kb cb) w) := by
  have hgl := hg.len
  have hal := hla.len
  have hbl := hlb.len
  have hlea := hla.le
  have hmaxa := hla.max
  have hleb := hlb.le
  have hmaxb := hlb.max
  have hGA := fun W (h : Below w.heap.size w W) => rowgood_c (hg.below h) hs (hla.below h) hxa ka hka
  have hGB := fun W (h : Below w.heap.size w W) => rowgood_c (hg.below h) hs (hlb.below h) hxb kb hkb
  have hCP := fun (hm : ma ≤ 1000000) W (h : Below w.heap.size w W) => copied_c (hla.below h) hm (text ka)
  have HIA := Lib.hid (@rgood_inv gs ka ca)
  have HIB := Lib.hid (@rgood_inv gs kb cb)
  have hts := text_same ka kb
  obtain ⟨RA, hRA⟩ : ∃ z, rgoodS gs ka ca = z := ⟨_, rfl⟩
  obtain ⟨RB, hRB⟩ : ∃ z, rgoodS gs kb cb = z := ⟨_, rfl⟩
  have hRV : rjoinS gs ka ca kb cb = if ¬ RA = 0 then ([], [], RA) else if ¬ RB = 0 then ([], [], RB) else if ¬ ka = kb then ([], [], 100) else (ka, zipN ca cb ca.length, 0) := by unfold rjoinS; rw [hRA, hRB]
  simp only [hRA] at hGA
  simp only [hRB] at hGB
  rw [hRA] at HIA
  rw [hRB] at HIB
  obtain ⟨RV, hRVe⟩ : ∃ z, rjoinS gs ka ca kb cb = z := ⟨_, rfl⟩
  rw [hRVe] at hRV ⊢
  obtain ⟨tka, htka⟩ : ∃ z, text ka = z := ⟨_, rfl⟩
  obtain ⟨tkb, htkb⟩ : ∃ z, text kb = z := ⟨_, rfl⟩
  rw [htka] at hGA hCP ⊢
  rw [htkb] at hGB ⊢
  rw [htka, htkb] at hts
  obtain ⟨KE, hKE⟩ : ∃ z, decide (ka = kb) = z := ⟨_, rfl⟩
  rw [hKE] at hts
  have HTK := Lib.hid htka
  have HRV := Lib.hid hRV
  have HKE := Lib.hid hKE
  have HGA := Lib.hid hGA
  have HGB := Lib.hid hGB
  have HCP := Lib.hid hCP
  have hb := ((alloc_below w (.cells #[.string tka, .slice xa ma capa] 25)).alloc (by simp) (.cells #[.string tkb, .slice xb mb capb] 25)).alloc (by simp; omega) (.cells #[.string ⟨#[]⟩, .slice none 0 0] 25)
  have hra : (((w.alloc (.cells #[.string tka, .slice xa ma capa] 25)).alloc (.cells #[.string tkb, .slice xb mb capb] 25)).alloc (.cells #[.string ⟨#[]⟩, .slice none 0 0] 25)).heap[w.heap.size]? = some (.cells #[.string tka, .slice xa ma capa] 25 (0, 0)) := (Below.heap_alloc _ _ _ (by simp; omega)).trans ((Below.heap_alloc _ _ _ (by simp)).trans (heap_alloc_new w _))
  have hrb := heap_below (heap_alloc_new (w.alloc (.cells #[.string tka, .slice xa ma capa] 25)) (.cells #[.string tkb, .slice xb mb capb] 25)) (alloc_below _ (.cells #[.string ⟨#[]⟩, .slice none 0 0] 25))
  have hz := heap_alloc_new ((w.alloc (.cells #[.string tka, .slice xa ma capa] 25)).alloc (.cells #[.string tkb, .slice xb mb capb] 25)) (.cells #[.string ⟨#[]⟩, .slice none 0 0] 25)
  simp only [World.size_alloc] at hrb hz
  clear hGA hGB hCP hRA hRB hRV hRVe htka htkb hKE
  have hi0 := rowidx0 tka tkb xa xb ma mb capa capb
  have hi1 := rowidx1 tka tkb xa xb ma mb capa capb
  refine (callsIn_wide (n := 3)).1 ?_
  refine callsIn_of_wp_marks Tryd.func25 rfl trivial ?_ rfl
  simp only [Tryd.ntmps25, List.size_toArray, List.length_cons, List.length_nil, Nat.reduceAdd, Nat.reduceSub, Array.replicate_succ, Array.replicate_zero, List.push_toArray, List.append_toArray, List.nil_append, List.cons_append]
  refine wpIn_wide.2 ?_
  go_upto_region 1 with (fail)
  obtain ⟨B, hB⟩ : ∃ q, w.heap.size = q := ⟨_, rfl⟩
  have HBe := Lib.hid hB
  rw [hB] at hra hrb hz ⊢
  clear hB
  generalize ((w.alloc (.cells #[.string tka, .slice xa ma capa] 25)).alloc (.cells #[.string tkb, .slice xb mb capb] 25)).alloc (.cells #[.string ⟨#[]⟩, .slice none 0 0] 25) = W1 at *
  obtain ⟨r0, r1, -⟩ := row_cells hra
  obtain ⟨s0, s1, -⟩ := row_cells hrb
  have HA1 := Lib.hid hra
  have HR1 := Lib.hid hrb
  have HZ1 := Lib.hid hz
  have HB1 := Lib.hid hb
  clear hra hrb hz hb
  go_wp2
  refine wp_loop_rounds 3 ?_
  rw [rounds_succ]
  obtain ⟨u0, u1, -⟩ := row_cells (heap_alloc_new W1 (.cells #[.string tka, .slice xa ma capa] 25))
  have HBa := Lib.hid (HB1.out.alloc HB1.out.size (.cells #[.string tka, .slice xa ma capa] 25))
  have hal1 := alloc_below W1 (.cells #[.string tka, .slice xa ma capa] 25)
  have HA2 := Lib.hid (heap_below HA1.out hal1)
  have HR2 := Lib.hid (heap_below HR1.out hal1)
  have HZ2 := Lib.hid (heap_below HZ1.out hal1)
  have hbad : ∀ (f : Int), RV = ([], [], f) → ∀ (W : World), Below w.heap.size w W → RowPost RV w (.returned (.tuple #[.agg #[.string ⟨#[]⟩, .slice none 0 0], .int .i64 f])) ((W.setCell ⟨B + 1 + 1, 0, none⟩ (.string ⟨#[]⟩)).setCell ⟨B + 1 + 1, 1, none⟩ (.slice none 0 0)) := fun f h W hW => by
    rw [h]
    exact ⟨_, rfl, OwnC.nil _ _, (hW.setCell (p := ⟨B + 1 + 1, 0, none⟩) (by have := HBe.out; simp; omega) _).setCell (p := ⟨B + 1 + 1, 1, none⟩) (by have := HBe.out; simp; omega) _⟩
  have HBAD := Lib.hid hbad
  clear hbad hal1 r0 r1 s0 s1
  by_cases h0 : RA = 0
  · subst h0
    go_wp2_with (go_at_call 14; (with_reducible refine (HGA.out _ HBa.out).mono ?_); rintro e9 w2 ⟨rfl, hb2⟩; have HB2 := Lib.hid (HBa.out.trans (hb2.mono HBa.out.size)); have HA3 := Lib.hid (heap_below HA2.out hb2); have HR3 := Lib.hid (heap_below HR2.out hb2); have HZ3 := Lib.hid (heap_below HZ2.out hb2); clear hb2 u0 u1)
    rw [rounds_succ]
    clear HA1 HA2 HR1 HR2 HZ1 HZ2 HB1 HBa HGA
    obtain ⟨u0, u1, -⟩ := row_cells (heap_alloc_new w2 (.cells #[.string tkb, .slice xb mb capb] 25))
    have HBb := Lib.hid (HB2.out.alloc HB2.out.size (.cells #[.string tkb, .slice xb mb capb] 25))
    have hal2 := alloc_below w2 (.cells #[.string tkb, .slice xb mb capb] 25)
    have HA4 := Lib.hid (heap_below HA3.out hal2)
    have HR4 := Lib.hid (heap_below HR3.out hal2)
    have HZ4 := Lib.hid (heap_below HZ3.out hal2)
    clear hal2 HA3 HR3 HZ3
    by_cases h1 : RB = 0
    · subst h1
      go_wp2_with (go_at_call 14; (with_reducible refine (HGB.out _ HBb.out).mono ?_); rintro e9 w3 ⟨rfl, hb3⟩; have HB3 := Lib.hid (HBb.out.trans (hb3.mono HBb.out.size)); have HA5 := Lib.hid (heap_below HA4.out hb3); have HR5 := Lib.hid (heap_below HR4.out hb3); have HZ5 := Lib.hid (heap_below HZ4.out hb3); clear hb3 u0 u1)
      rw [rounds_succ]
      clear HA4 HR4 HZ4 HBb HGB HB2
      obtain ⟨r0, r1, -⟩ := row_cells HA5.out
      obtain ⟨s0, s1, -⟩ := row_cells HR5.out
      cases KE with
      | false =>
        have HRR := Lib.hid (show RV = ([], [], 100) by rw [HRV.out, if_neg (by simp), if_neg (by simp), if_pos (of_decide_eq_false HKE.out)])
        obtain ⟨z0, z1, zf⟩ := row_cells HZ5.out
        go_wp2
        exact ⟨_, res_cell_tmp rfl _ _ (B + 1 + 1) 25 _ (0, 0) _ (.int .i64 100) rfl rfl (row_set HZ5.out ⟨#[]⟩ (.slice none 0 0)) Tryd.underlying25 rfl (by kernel_rfl), HBAD.out _ HRR.out _ HB3.out⟩
      | true =>
        have hkk : ka = kb := of_decide_eq_true HKE.out
        have HRR := Lib.hid (show RV = (ka, zipN ca cb ca.length, 0) by rw [HRV.out, if_neg (by simp), if_neg (by simp), if_neg (by simp [hkk])])
        have hpg := (HIA.out (by first | rfl | trivial)).1
        have hla2 := (HIA.out (by first | rfl | trivial)).2.2.1
        have hlb2 := (HIB.out (by first | rfl | trivial)).2.2.1
        have h4 := pgood_len hpg
        have hma : ma = n1 := by omega
        have hmb : mb = n1 := by omega
        subst hma
        subst hmb
        have hm4 : mb ≤ 4 := by omega
        clear HIA HIB hpg hla2 hlb2 hkk HRV HKE HBAD
        go_upto_region 11 with (go_at_call 49; (with_reducible refine (HCP.out (by omega) _ HB3.out).mono ?_); rintro e9 w5 ⟨gg, rfl, hgg, hgc, hb5⟩)
        have hal := alloc_below w5 (.cells #[.string tka, .slice (some ⟨gg, 0, none⟩) mb mb] 25)
        have HS6 := Lib.hid (heap_alloc_new w5 (.cells #[.string tka, .slice (some ⟨gg, 0, none⟩) mb mb] 25))
        have HG6 := Lib.hid (heap_below hgc hal)
        have HA6 := Lib.hid (heap_below (heap_below HA5.out hb5) hal)
        have HR6 := Lib.hid (heap_below (heap_below HR5.out hb5) hal)
        have HZ6 := Lib.hid (heap_below (heap_below HZ5.out hb5) hal)
        have HB6 := Lib.hid ((HB3.out.trans (hb5.mono HB3.out.size)).trans (hal.mono (Nat.le_trans HB3.out.size hb5.size)))
        have HGB := Lib.hid (Nat.le_trans HB3.out.size hgg)
        have HGS := Lib.hid (show gg < w5.heap.size from (Array.getElem?_eq_some_iff.1 hgc).1)
        have HZS := Lib.hid (show B + 1 + 1 < gg from Nat.lt_of_lt_of_le (Array.getElem?_eq_some_iff.1 HZ5.out).1 hgg)
        obtain ⟨S, hS⟩ : ∃ q, w5.heap.size = q := ⟨_, rfl⟩
        rw [hS] at HS6 HGS ⊢
        generalize w5.alloc (.cells #[.string tka, .slice (some ⟨gg, 0, none⟩) mb mb] 25) = W6 at *
        clear hal hb5 hgc hgg hS r0 r1 s0 s1 HA5 HR5 HZ5 HB3 HCP hi0 hi1 hts
        obtain ⟨s0, s1, -⟩ := row_cells HR6.out
        go_wp2_with (go_at_call 38; (with_reducible refine places_c.mono ?_); rintro e9 w7 ⟨rfl, rfl⟩)
        have bL := heap_alloc_new W6 (.cells #[.slice x mb cap] 22)
        have bR := heap_alloc_new (W6.alloc (.cells #[.slice x mb cap] 22)) (.cells #[.string tkb, .slice xb mb capb] 25)
        replace bL := (Below.heap_alloc (W6.alloc (.cells #[.slice x mb cap] 22)) (.cells #[.string tkb, .slice xb mb capb] 25) W6.heap.size (by simp)).trans bL
        simp only [World.size_alloc] at bR
        have hbW := (alloc_below W6 (.cells #[.slice x mb cap] 22)).alloc (by simp) (.cells #[.string tkb, .slice xb mb capb] 25)
        have hsz : ((W6.alloc (.cells #[.slice x mb cap] 22)).alloc (.cells #[.string tkb, .slice xb mb capb] 25)).heap.size = W6.heap.size + 1 + 1 := by simp
        have hSlt : S < W6.heap.size := (Array.getElem?_eq_some_iff.1 HS6.out).1
        obtain ⟨W0, hW0⟩ : ∃ W0, (W6.alloc (.cells #[.slice x mb cap] 22)).alloc (.cells #[.string tkb, .slice xb mb capb] 25) = W0 := ⟨_, rfl⟩
        rw [hW0] at bL bR hbW hsz ⊢
        clear hW0
        have hB0 := HB6.out.trans (hbW.mono HB6.out.size)
        have hS0 := heap_below HS6.out hbW
        have hA0 := heap_below HA6.out hbW
        have hZ0 := heap_below HZ6.out hbW
        have hG0' := heap_below HG6.out hbW
        obtain ⟨G0, hG⟩ : ∃ q, W6.heap.size = q := ⟨_, rfl⟩
        rw [hG] at bL bR hsz hSlt ⊢
        have HSZ := Lib.hid hsz
        have HSL := Lib.hid hSlt
        obtain ⟨Q9, hQ9⟩ : ∃ q, w2.heap.size = q := ⟨_, rfl⟩
        rw [hQ9]
        have hgs0 := HGS.out
        have hzs0 := HZS.out
        clear hG hbW hQ9 s0 s1 HS6 HG6 HA6 HR6 HZ6 HB6
        refine (wpIn_wide (n := 3)).1 ?_
        refine wpIn_range_tells (F := Fence.wide) rfl (by omega) (gf := 62) (lb := #[.pointer (some ⟨G0, 0, none⟩), .pointer (some ⟨G0 + 1, 0, none⟩)]) rfl trivial (enters_of Tryd.func62 (by kernel_rfl) rfl)
          (places_tells hg hlb hB0 2 G0 (G0 + 1) (by omega) (by omega) bL bR) KP.trans (fun W l o o' hl h ho _ => KP.putObj W l o o' (by have := hB0.size; omega) (by rintro k (rfl | rfl) <;> omega) h)
          (fun xs X Y row hs hg hr => hs) (fun xs X Y row hs hg hr => hs) (fun _ => rfl)
          (JoinI ca cb (.cells #[.string tka, .slice (some ⟨gg, 0, none⟩) mb mb] 25 (0, 0)) (.cells #[.string tka, .slice xa mb capa] 25 (0, 0)) (.cells #[.string ⟨#[]⟩, .slice none 0 0] 25 (0, 0)) w.heap.size gg S B (B + 1 + 1) W0.heap.size w) (fun _ _ _ => False) (JoinI.own hB0.size hB0.size) (fun c xs X Y row hs hg hr => hs)
          ⟨hG0', hS0, hA0, hZ0, hB0, Nat.le_refl _⟩
          (PlaceA gs cb (fun q k => #[.slice x mb cap, .agg #[.string tka, .slice xa mb capa], .agg #[.string tkb, .slice xb mb capb], undef, .pointer (some ⟨B, 0, none⟩), .pointer (some ⟨B + 1, 0, none⟩), .pointer (some ⟨B + 1 + 1, 0, none⟩), .int .i64 0, undef, .pointer (some ⟨Q9, 0, none⟩), .int .i64 0, .pointer (some ⟨S, 0, none⟩), .pointer (some ⟨q, 0, none⟩), .agg #[.string tka, .slice xa mb capa], .agg #[.string tkb, .slice xb mb capb], .agg #[.string tka, .slice xa mb capa, .string tkb, .slice xb mb capb], .int .i64 2, .bool false, .agg #[.string tkb, .slice xb mb capb], .slice x mb cap, .agg #[.string tkb, .slice xb mb capb], .int .i64 0, .int .i64 0, .bool false, undef, undef, .int .i64 2, .pointer (some ⟨B, 0, none⟩), .string tka, .pointer (some ⟨B + 1, 0, none⟩), .string tkb, .bool false, undef, .agg #[.string tka, .slice xa mb capa], .agg #[.string tka, .slice (some ⟨gg, 0, none⟩) mb mb], .slice x mb cap, .agg #[.string tkb, .slice xb mb capb], .func (.func 62) #[] #[.pointer (some ⟨G0, 0, none⟩), .pointer (some ⟨G0 + 1, 0, none⟩)], .agg (placeA gs cb k), undef, undef, undef, undef, undef, undef, undef, undef, undef, undef, undef, undef, undef, undef, undef, undef])) (fun k a' => PlaceA.own k a') ?assign ?body ?done ?stop
        case assign =>
          rintro q pre k W K hI - hK
          obtain ⟨y, hck⟩ : ∃ y, cb.getD k Cl.zero = y := ⟨_, rfl⟩
          dsimp only [penc]
          rw [hck]
          obtain ⟨n, s, a, b, g, t, d, e⟩ := y
          dsimp only
          gi_wp2
          have h3 := HSZ.out
          have h5 := hI.2.2.2.2.2
          have h6 := hB0.size
          refine hK _ _ ((KeepsOthers.alloc _ _).from _) (KP.of_below (by omega) ((Below.refl _ W).alloc (Nat.le_refl _) _)) ((JoinI.own (B9 := W0.heap.size) hB0.size hB0.size).from.alloc _ hI) ⟨W.heap.size, ?_, ?_⟩
          · unfold placeA; rw [hck]; exact heap_alloc_new W _
          · dsimp only; unfold placeA; rw [hck]; rfl
        case body =>
          rintro q pre k a' W ⟨hgW, hSW, hAW, hZW, hw, hs2⟩ ⟨g9, hpq, rfl⟩ ⟨rfl, hlt⟩
          obtain ⟨k, hkp⟩ : ∃ k, pre.length = k := ⟨_, rfl⟩
          rw [hkp] at hlt hpq hgW ⊢
          unfold placeA at hpq
          dsimp only [placeA]
          have hlk : k < (zipN ca cb k).length := by rw [zipN_len]; omega
          have hkm : (k : Int) < (mb : Int) := by omega
          have hkc : (k : Int) < (capa : Int) := by omega
          obtain ⟨bk, off, rfl, hat⟩ := hla.at hlt
          have hzg := zipN_get ca cb k (by omega) k
          rw [if_neg (by omega)] at hzg
          have hzs : zipN ca cb (k + 1) = (zipN ca cb k).set k (joinC [ca.getD k Cl.zero, cb.getD k Cl.zero]) := rfl
          obtain ⟨⟨nm, pk⟩, hgk⟩ : ∃ y, gs.getD k ([], 0) = y := ⟨_, rfl⟩
          obtain ⟨y, hck⟩ : ∃ y, cb.getD k Cl.zero = y := ⟨_, rfl⟩
          obtain ⟨z, hdk⟩ : ∃ y, ca.getD k Cl.zero = y := ⟨_, rfl⟩
          rw [hgk, hck] at hpq ⊢
          rw [hdk] at hat hzg
          rw [hdk, hck] at hzs
          obtain ⟨n, s, a, b, g, t, d, e⟩ := y
          obtain ⟨n', s', a', b', g', t', d', e'⟩ := z
          obtain ⟨y, hj⟩ : ∃ y, joinC [⟨n', s', a', b', g', t', d', e'⟩, ⟨n, s, a, b, g, t, d, e⟩] = y := ⟨_, rfl⟩
          rw [hj] at hzs
          obtain ⟨n9, s9, a9, b9, g9b, t9, d9, e9⟩ := y
          dsimp only at hpq ⊢
          have HJ9 := Lib.hid hj
          have HZG := Lib.hid hzg
          have HZN := Lib.hid hzs
          have HPW := Lib.hid (fun W1 (h : Below W.heap.size W W1) => hat W1 (hw.trans (h.mono hw.size)))
          have HSW := Lib.hid (fun W1 (h : Below W.heap.size W W1) => row_cells (heap_below hSW h))
          have HAW := Lib.hid (fun W1 (h : Below W.heap.size W W1) => row_cells (heap_below hAW h))
          have HQW := Lib.hid (fun W1 (h : Below W.heap.size W W1) => And.intro (show W1.cell? ⟨g9, 0, none⟩ = some (.int .i64 (k : Int)) by rw [cell_of_row _ g9 0 _ _ (0, 0) (heap_below hpq h)]; rfl) (place_cells (heap_below hpq h)))
          have HH := Lib.hid (And.intro hgW (And.intro hSW (And.intro hAW (And.intro hZW (And.intro hw hs2)))))
          clear hat hj hgk hck hdk hzg hzs hgW hSW hAW hZW hw hs2 hpq
          gi_wp2_with fail
          refine wpIn_region_flow (fun x y => Below x.heap.size x y) 15 [none, none, none, none, none, none, none, none, none, none, none, none, none, none, none, none, none, none, none, none, none, none, none, none, none, none, none, none, none, none, none, none, none, none, none, none, none, none, none, some 0, some 1, some 2, some 3, some 4, some 5, some 6, some 7, some 8, some 9, some 10, some 11, some 12, some 13, some 14, none] (fun i => [undef, undef, undef, undef, undef, undef, undef, undef, undef, undef, undef, undef, undef, undef, undef].getD i undef) [(fun v _ => v = .pointer (some ⟨S, 1, none⟩)), (fun v _ => v = .slice (some ⟨gg, 0, none⟩) mb mb), (fun v _ => v = .pointer (some ⟨g9, 0, none⟩)), (fun v _ => v = .int .i64 (k : Int)), (fun v _ => v = .pointer (some ⟨B, 1, none⟩)), (fun v _ => v = .slice (some ⟨bk, off, none⟩) mb capa), (fun v _ => v = .pointer (some ⟨g9, 0, none⟩)), (fun v _ => v = .int .i64 (k : Int)), (fun v _ => v = .pointer (some ⟨bk, off + k * 8, none⟩)), (fun v _ => v = .agg #[.int .i64 n', .int .i64 s', .int .i64 a', .int .i64 b', .bool g', .string (text t'), .int .i64 d', .int .i64 e']), (fun v _ => v = .pointer (some ⟨g9, 2, none⟩)), (fun v _ => v = .agg #[.int .i64 n, .int .i64 s, .int .i64 a, .int .i64 b, .bool g, .string (text t), .int .i64 d, .int .i64 e]), (ClsV [⟨n', s', a', b', g', t', d', e'⟩, ⟨n, s, a, b, g, t, d, e⟩]), (fun v _ => v = .agg #[.int .i64 n9, .int .i64 s9, .int .i64 a9, .int .i64 b9, .bool g9b, .string (text t9), .int .i64 d9, .int .i64 e9]), (fun v _ => v = .pointer (some ⟨gg, k * 8, none⟩))] (fun _ => False) (by kernel_rfl) (by kernel_rfl) (by kernel_rfl) rfl rfl rfl (fun a b c h1 h2 => h1.trans (h2.mono h1.size)) ⟨rfl, rfl, rfl, Nat.le_refl _, fun _ _ => rfl⟩ ?_ ?_ ?_
          · intro g hg v X Y hX hY hv
            simp only [List.mem_cons, List.not_mem_nil, or_false] at hg
            rcases hg with rfl | rfl | rfl | rfl | rfl | rfl | rfl | rfl | rfl | rfl | rfl | rfl | rfl | rfl | rfl
            all_goals first
              | exact hv
              | exact hv.kept hY
          · simp only [flowOpsI, List.take_succ_cons, List.take_zero, and_true]
            refine ⟨?_, ?_, ?_, ?_, ?_, ?_, ?_, ?_, ?_, ?_, ?_, ?_, ?_, ?_, ?_⟩
            · intro xs W1 hW hn
              simp only [flowAct, List.zipWith_cons_cons, List.zipWith_nil_left]
              gi_wp2_with (fail)
              exact ⟨rfl, _, rfl, Below.refl _ _, rfl, fun h => h.elim⟩
            · intro xs W1 hW hn
              obtain ⟨-, f1, -⟩ := HSW.out W1 hW
              simp [flowNeeds, Region.binds] at hn
              simp only [flowAct, List.zipWith_cons_cons, List.zipWith_nil_left]
              try simp only [hn]
              gi_wp2_with (fail)
              exact ⟨rfl, _, rfl, Below.refl _ _, rfl, fun h => h.elim⟩
            · intro xs W1 hW hn
              simp only [flowAct, List.zipWith_cons_cons, List.zipWith_nil_left]
              gi_wp2_with (fail)
              exact ⟨rfl, _, rfl, Below.refl _ _, rfl, fun h => h.elim⟩
            · intro xs W1 hW hn
              obtain ⟨c, c0, c1, c2, c3, c4, c5, c6, c7⟩ := HQW.out W1 hW
              simp [flowNeeds, Region.binds] at hn
              simp only [flowAct, List.zipWith_cons_cons, List.zipWith_nil_left]
              try simp only [hn]
              gi_wp2_with (fail)
              exact ⟨rfl, _, rfl, Below.refl _ _, rfl, fun h => h.elim⟩
            · intro xs W1 hW hn
              simp only [flowAct, List.zipWith_cons_cons, List.zipWith_nil_left]
              gi_wp2_with (fail)
              exact ⟨rfl, _, rfl, Below.refl _ _, rfl, fun h => h.elim⟩
            · intro xs W1 hW hn
              obtain ⟨-, f2, -⟩ := HAW.out W1 hW
              simp [flowNeeds, Region.binds] at hn
              simp only [flowAct, List.zipWith_cons_cons, List.zipWith_nil_left]
              try simp only [hn]
              gi_wp2_with (fail)
              exact ⟨rfl, _, rfl, Below.refl _ _, rfl, fun h => h.elim⟩
            · intro xs W1 hW hn
              simp only [flowAct, List.zipWith_cons_cons, List.zipWith_nil_left]
              gi_wp2_with (fail)
              exact ⟨rfl, _, rfl, Below.refl _ _, rfl, fun h => h.elim⟩
            · intro xs W1 hW hn
              obtain ⟨c, c0, c1, c2, c3, c4, c5, c6, c7⟩ := HQW.out W1 hW
              simp [flowNeeds, Region.binds] at hn
              simp only [flowAct, List.zipWith_cons_cons, List.zipWith_nil_left]
              try simp only [hn]
              gi_wp2_with (fail)
              exact ⟨rfl, _, rfl, Below.refl _ _, rfl, fun h => h.elim⟩
            · intro xs W1 hW hn
              simp [flowNeeds, Region.binds] at hn
              simp only [flowAct, List.zipWith_cons_cons, List.zipWith_nil_left]
              try simp only [hn]
              gi_wp2_with (fail)
              exact ⟨rfl, _, rfl, Below.refl _ _, rfl, fun h => h.elim⟩
            · intro xs W1 hW hn
              obtain ⟨p0, p1, p2, p3, p4, p5, p6, p7⟩ := HPW.out W1 hW
              simp only at p0 p1 p2 p3 p4 p5 p6 p7
              simp [flowNeeds, Region.binds] at hn
              simp only [flowAct, List.zipWith_cons_cons, List.zipWith_nil_left]
              try simp only [hn]
              gi_wp2_with (fail)
              exact ⟨rfl, _, rfl, Below.refl _ _, rfl, fun h => h.elim⟩
            · intro xs W1 hW hn
              simp only [flowAct, List.zipWith_cons_cons, List.zipWith_nil_left]
              gi_wp2_with (fail)
              exact ⟨rfl, _, rfl, Below.refl _ _, rfl, fun h => h.elim⟩
            · intro xs W1 hW hn
              obtain ⟨c, c0, c1, c2, c3, c4, c5, c6, c7⟩ := HQW.out W1 hW
              simp [flowNeeds, Region.binds] at hn
              simp only [flowAct, List.zipWith_cons_cons, List.zipWith_nil_left]
              try simp only [hn]
              gi_wp2_with (fail)
              exact ⟨rfl, _, rfl, Below.refl _ _, rfl, fun h => h.elim⟩
            · intro xs W1 hW hn
              simp [flowNeeds, Region.binds] at hn
              simp only [flowAct, List.zipWith_cons_cons, List.zipWith_nil_left]
              simp only [hn]
              gi_wp2_with (fail)
              exact ⟨rfl, _, rfl, alloc_below _ _, ⟨_, _, _, rfl, cls2 _ _ _ _ _ _ _ _ _ _ _ _ _ _ _ _ _⟩, fun h => h.elim⟩
            · intro xs W1 hW hn
              simp [flowNeeds, Region.binds] at hn
              obtain ⟨a8, n8, k8, hv8, hc8⟩ := hn
              have HJJ := Lib.hid (join_c hc8)
              rw [HJ9.out] at HJJ
              clear hc8
              simp only [flowAct, List.zipWith_cons_cons, List.zipWith_nil_left]
              simp only [hv8]
              gi_wp2_with (fail)
              refine ⟨trivial, (CallsIn.inRound q (callsIn_wide.2 HJJ.out)).mono ?_⟩
              rintro e8 w9 ⟨rfl, hb9⟩
              try gi_wp2_with (fail)
              exact ⟨rfl, _, rfl, hb9, rfl, fun h => h.elim⟩
            · intro xs W1 hW hn
              simp [flowNeeds, Region.binds] at hn
              simp only [flowAct, List.zipWith_cons_cons, List.zipWith_nil_left]
              try simp only [hn]
              gi_wp2_with (fail)
              exact ⟨rfl, _, rfl, Below.refl _ _, rfl, fun h => h.elim⟩
          · intro xs W1 hW hall hfr
            clear hfr
            simp only [flowAll, and_true, Nat.zero_add, Nat.reduceAdd] at hall
            obtain ⟨-, -, -, -, -, -, -, -, -, -, -, -, -, y13, y14⟩ := hall
            simp only [flowAct, List.zipWith_cons_cons, List.zipWith_nil_left, List.drop_succ_cons, List.drop_zero]
            simp only [y13, y14]
            obtain ⟨hgW0, hSW0, hAW0, hZW0, hw0, hs0⟩ := HH.out
            have hgW := heap_below hgW0 hW
            have hq : ∀ j, j < 8 → W1.cell? ⟨gg, k * 8 + j, none⟩ = ((zipN ca cb k).getD k Cl.zero).arr[j]? := fun j hj => by
              rw [cell_of_row W1 gg _ _ _ (0, 0) hgW, List.getElem?_toArray, cCells_get (zipN ca cb k) k j hlk hj]
            rw [HZG.out] at hq
            have q0 : W1.cell? ⟨gg, k * 8, none⟩ = some (.int .i64 n') := hq 0 (by omega)
            have q1 : W1.cell? ⟨gg, k * 8 + 1, none⟩ = some (.int .i64 s') := hq 1 (by omega)
            have q2 : W1.cell? ⟨gg, k * 8 + 2, none⟩ = some (.int .i64 a') := hq 2 (by omega)
            have q3 : W1.cell? ⟨gg, k * 8 + 3, none⟩ = some (.int .i64 b') := hq 3 (by omega)
            have q4 : W1.cell? ⟨gg, k * 8 + 4, none⟩ = some (.bool g') := hq 4 (by omega)
            have q5 : W1.cell? ⟨gg, k * 8 + 5, none⟩ = some (.string (text t')) := hq 5 (by omega)
            have q6 : W1.cell? ⟨gg, k * 8 + 6, none⟩ = some (.int .i64 d') := hq 6 (by omega)
            have q7 : W1.cell? ⟨gg, k * 8 + 7, none⟩ = some (.int .i64 e') := hq 7 (by omega)
            have hqf : ∀ j, W1.frozen? ⟨gg, j, none⟩ = false := fun j => frozen_of_row _ gg j _ _ hgW
            have hgs := HGS.out
            have hzs := HZS.out
            have hsl := HSL.out
            have h3 := HSZ.out
            have h6 := hB0.size
            have hbe := HBe.out
            have hgb := HGB.out
            have hput := cells_put hgW hlk n9 s9 a9 b9 g9b t9 d9 e9
            have hL : LeavesT 87 (fun j => j = gg) W0.heap.size W ((((((((W1.setCell ⟨gg, k * 8, none⟩ (.int .i64 n9)).setCell ⟨gg, k * 8 + 1, none⟩ (.int .i64 s9)).setCell ⟨gg, k * 8 + 2, none⟩ (.int .i64 a9)).setCell ⟨gg, k * 8 + 3, none⟩ (.int .i64 b9)).setCell ⟨gg, k * 8 + 4, none⟩ (.bool g9b)).setCell ⟨gg, k * 8 + 5, none⟩ (.string (text t9))).setCell ⟨gg, k * 8 + 6, none⟩ (.int .i64 d9)).setCell ⟨gg, k * 8 + 7, none⟩ (.int .i64 e9)) := (LeavesT.below hW).trans (leaves_put W1 gg k n9 s9 a9 b9 g9b t9 d9 e9)
            have hbP : Below w.heap.size W ((((((((W1.setCell ⟨gg, k * 8, none⟩ (.int .i64 n9)).setCell ⟨gg, k * 8 + 1, none⟩ (.int .i64 s9)).setCell ⟨gg, k * 8 + 2, none⟩ (.int .i64 a9)).setCell ⟨gg, k * 8 + 3, none⟩ (.int .i64 b9)).setCell ⟨gg, k * 8 + 4, none⟩ (.bool g9b)).setCell ⟨gg, k * 8 + 5, none⟩ (.string (text t9))).setCell ⟨gg, k * 8 + 6, none⟩ (.int .i64 d9)).setCell ⟨gg, k * 8 + 7, none⟩ (.int .i64 e9)) := cells_put_below (k := k) (hW.mono (show w.heap.size ≤ W.heap.size by omega)) hgb n9 s9 a9 b9 g9b t9 d9 e9
            have HR := Lib.hid (show RoundPost W0.heap.size (KP w.heap.size (two9 G0 (G0 + 1))) (fun _ => True) (JoinI ca cb (.cells #[.string tka, .slice (some ⟨gg, 0, none⟩) mb mb] 25 (0, 0)) (.cells #[.string tka, .slice (some ⟨bk, off, none⟩) mb capa] 25 (0, 0)) (.cells #[.string ⟨#[]⟩, .slice none 0 0] 25 (0, 0)) w.heap.size gg S B (B + 1 + 1) W0.heap.size w) (fun _ _ _ => False) pre k W .normal { tmps := #[], defers := [] } ((((((((W1.setCell ⟨gg, k * 8, none⟩ (.int .i64 n9)).setCell ⟨gg, k * 8 + 1, none⟩ (.int .i64 s9)).setCell ⟨gg, k * 8 + 2, none⟩ (.int .i64 a9)).setCell ⟨gg, k * 8 + 3, none⟩ (.int .i64 b9)).setCell ⟨gg, k * 8 + 4, none⟩ (.bool g9b)).setCell ⟨gg, k * 8 + 5, none⟩ (.string (text t9))).setCell ⟨gg, k * 8 + 6, none⟩ (.int .i64 d9)).setCell ⟨gg, k * 8 + 7, none⟩ (.int .i64 e9)) from
              ⟨hL.keeps (by rintro j rfl; omega), ⟨hbP, fun j o hj ho => hL.same j o ho (by rcases hj with rfl | rfl <;> omega) (.inl (by rcases hj with rfl | rfl <;> omega))⟩, trivial, ⟨by rw [List.length_append, List.length_singleton, hkp, HZN.out]; exact hput, hL.same _ _ hSW0 (by omega) (.inl (by omega)), hL.same _ _ hAW0 (by omega) (.inl (by omega)), hL.same _ _ hZW0 (by omega) (.inl (by omega)), hw0.trans hbP, Nat.le_trans hs0 hL.size⟩⟩)
            clear hq hput hL hbP hgW hgW0 hSW0 hAW0 hZW0 hw0 hs0 hgs hzs hsl h3 h6 hbe hgb
            gi_wp2
            exact HR.out

        case done =>
          rintro D xs W hD hxs ⟨hgW, hSW, hAW, hZW, hw, hs2⟩ hK
          rw [show xs.length = mb from hxs] at hgW
          obtain ⟨s0, s1, -⟩ := row_cells hSW
          obtain ⟨z0, z1, zf⟩ := row_cells hZW
          have HDB := Lib.hid (show S < D by have := HSZ.out; have := HSL.out; omega)
          have HGS2 := Lib.hid HGS.out
          have hDz : D ≠ B + 1 + 1 := by have := HDB.out; omega
          have hDg : D ≠ gg := by have := HDB.out; omega
          have hgz : gg ≠ B + 1 + 1 := by omega
          have hkX : ((W.setCell ⟨B + 1 + 1, 0, none⟩ (.string tka)).setCell ⟨B + 1 + 1, 1, none⟩ (.slice (some ⟨gg, 0, none⟩) mb mb)).heap[D]? = some (.deferred (some [])) :=
            (Below.heap_setCell _ ⟨B + 1 + 1, 1, none⟩ _ D hDz).trans ((Below.heap_setCell _ ⟨B + 1 + 1, 0, none⟩ (.string tka) D hDz).trans hK)
          have hgX := (Below.heap_setCell (W.setCell ⟨B + 1 + 1, 0, none⟩ (.string tka)) ⟨B + 1 + 1, 1, none⟩ (.slice (some ⟨gg, 0, none⟩) mb mb) gg hgz).trans ((Below.heap_setCell W ⟨B + 1 + 1, 0, none⟩ (.string tka) gg hgz).trans hgW)
          have hwX := (hw.setCell (p := ⟨B + 1 + 1, 0, none⟩) (by have := HBe.out; simp; omega) (.string tka)).setCell (p := ⟨B + 1 + 1, 1, none⟩) (by have := HBe.out; simp; omega) (.slice (some ⟨gg, 0, none⟩) mb mb)
          have HKX := Lib.hid hkX
          have HFB := Lib.hid (hwX.trans (belowK_b (w := w) (Nat.le_refl _) _ D _ (.deferred none) (by have := HDB.out; have := HBe.out; omega) hkX rfl rfl))
          have HFG := Lib.hid ((World.putObj_heap_other (o := .deferred none) (show gg ≠ D from hDg.symm)).trans hgX)
          have HFZ := Lib.hid ((World.putObj_heap_other (o := .deferred none) (show B + 1 + 1 ≠ D from hDz.symm)).trans (row_set hZW tka (.slice (some ⟨gg, 0, none⟩) mb mb)))
          clear hgW hSW hAW hZW hw hs2 hK hkX hgX hwX hxs hDz hDg hgz
          go_wp2
          refine ⟨by simp, .inl ⟨_, _, rfl, run_takeDeferred HKX.out, ?_⟩⟩
          refine ⟨_, res_cell_tmp rfl _ _ (B + 1 + 1) 25 _ (0, 0) _ (.int .i64 0) rfl rfl HFZ.out Tryd.underlying25 rfl (by kernel_rfl), ?_⟩
          rw [HRR.out]
          exact ⟨_, by rw [HTK.out], by rw [hal]; exact own_lit HFG.out HGB.out (by rw [zipN_len]; exact hal) (by omega), HFB.out⟩
        case stop => exact fun D c pre W hD _ hf => hf.elim
    · have h1n : (RB != 0) = true := by simpa using h1
      have HRR := Lib.hid (show RV = ([], [], RB) by rw [HRV.out, if_neg (by simp), if_pos h1])
      clear h1
      go_wp2_with (go_at_call 14; (with_reducible refine (HGB.out _ HBb.out).mono ?_); rintro e9 w3 ⟨rfl, hb3⟩; have HB3 := Lib.hid (HBb.out.trans (hb3.mono HBb.out.size)); have HZ5 := Lib.hid (heap_below HZ4.out hb3); clear hb3 u0 u1; obtain ⟨z0, z1, zf⟩ := row_cells HZ5.out)
      exact ⟨_, res_cell_tmp rfl _ _ (B + 1 + 1) 25 _ (0, 0) _ (.int .i64 RB) rfl rfl (row_set HZ5.out ⟨#[]⟩ (.slice none 0 0)) Tryd.underlying25 rfl (by kernel_rfl), HBAD.out _ HRR.out _ HB3.out⟩
  · have h0n : (RA != 0) = true := by simpa using h0
    have HRR := Lib.hid (show RV = ([], [], RA) by rw [HRV.out, if_pos h0])
    clear h0
    go_wp2_with (go_at_call 14; (with_reducible refine (HGA.out _ HBa.out).mono ?_); rintro e9 w2 ⟨rfl, hb2⟩; have HB2 := Lib.hid (HBa.out.trans (hb2.mono HBa.out.size)); have HZ3 := Lib.hid (heap_below HZ2.out hb2); clear hb2 u0 u1; obtain ⟨z0, z1, zf⟩ := row_cells HZ3.out)
    exact ⟨_, res_cell_tmp rfl _ _ (B + 1 + 1) 25 _ (0, 0) _ (.int .i64 RA) rfl rfl (row_set HZ3.out ⟨#[]⟩ (.slice none 0 0)) Tryd.underlying25 rfl (by kernel_rfl), HBAD.out _ HRR.out _ HB2.out⟩
end Go.Proofs.YtkjpmdpljdgcjaaDoor
end

section
/-
  Row: rows put together.
-/
namespace Go.Proofs.YtkjpmdpljdgcjaaDoor
open Go.RowKit Go Go.Sort
set_option linter.unusedVariables false
set_option maxRecDepth 20000

theorem list_getD {l m : List Cl} (h : l.length = m.length) (hg : ∀ i, i < l.length → l.getD i Cl.zero = m.getD i Cl.zero) : l = m := by
  apply List.ext_getElem h
  intro i h1 h2
  have := hg i h1
  simpa [List.getD_eq_getElem?_getD, List.getElem?_eq_getElem h1, List.getElem?_eq_getElem h2] using this
theorem zip_at (ca cb : List Cl) {i : Nat} (hi : i < ca.length) : (zipN ca cb ca.length).getD i Cl.zero = joinC [ca.getD i Cl.zero, cb.getD i Cl.zero] := by
  rw [zipN_get ca cb i hi, if_pos hi]
/-- What is asked of each cell of a good row. -/
theorem good_at {gs : List Grp} {k : List UInt8} {cs : List Cl} (h : rgoodS gs k cs = 0) {i : Nat} (hi : i < cs.length) : (cs.getD i Cl.zero).good (gs.getD i ([], 0)).2 = true := by
  obtain ⟨_, _, h3, h4⟩ := rgood_inv h
  exact h4 i (by omega)
theorem zip_good {gs : List Grp} {k : List UInt8} {ca cb : List Cl} (ha : rgoodS gs k ca = 0) (hb : rgoodS gs k cb = 0) : rgoodS gs k (zipN ca cb ca.length) = 0 := by
  obtain ⟨h1, h2, h3, h4⟩ := rgood_inv ha
  obtain ⟨_, _, h5, h6⟩ := rgood_inv hb
  refine rgood_yes h1 h2 (by rw [zipN_len]; exact h3) fun j hj => ?_
  show ((zipN ca cb ca.length).getD j Cl.zero).good _ = true
  rw [zip_at ca cb (by omega)]
  refine good_join (pgood_pol h1 j hj) fun c hc => ?_
  simp only [List.mem_cons, List.not_mem_nil, or_false] at hc
  rcases hc with rfl | rfl
  · exact h4 j hj
  · exact h6 j hj
theorem set_getD (cs : List Cl) (i j : Nat) (x : Cl) : (cs.set i x).getD j Cl.zero = if i = j ∧ i < cs.length then x else cs.getD j Cl.zero := by
  simp only [List.getD_eq_getElem?_getD, List.getElem?_set]
  by_cases e : i = j
  · subst e
    by_cases h : i < cs.length
    · simp [h]
    · simp [h]
  · simp [e]
theorem set_good {gs : List Grp} {k : List UInt8} {cs : List Cl} {i : Nat} {c : Cl} (h : rgoodS gs k cs = 0) (hi : i < cs.length) (hc : c.good (gs.getD i ([], 0)).2 = true) : rgoodS gs k (cs.set i (joinC [cs.getD i Cl.zero, c])) = 0 := by
  obtain ⟨h1, h2, h3, h4⟩ := rgood_inv h
  refine rgood_yes h1 h2 (by rw [List.length_set]; exact h3) fun j hj => ?_
  show ((cs.set i (joinC [cs.getD i Cl.zero, c])).getD j Cl.zero).good _ = true
  rw [set_getD]
  by_cases e : i = j
  · subst e
    rw [if_pos ⟨rfl, hi⟩]
    refine good_join (pgood_pol h1 i hj) fun x hx => ?_
    simp only [List.mem_cons, List.not_mem_nil, or_false] at hx
    rcases hx with rfl | rfl
    · exact h4 i hj
    · exact hc
  · rw [if_neg (fun h => e h.1)]
    exact h4 j hj
theorem zip_comm {gs : List Grp} {k : List UInt8} {ca cb : List Cl} (ha : rgoodS gs k ca = 0) (hb : rgoodS gs k cb = 0) : zipN ca cb ca.length = zipN cb ca cb.length := by
  have h3 := (rgood_inv ha).2.2.1
  have h5 := (rgood_inv hb).2.2.1
  refine list_getD (by rw [zipN_len, zipN_len]; omega) fun i hi => ?_
  rw [zipN_len] at hi
  rw [zip_at ca cb hi, zip_at cb ca (by omega)]
  have x1 := good_at ha hi
  have x2 := good_at hb (show i < cb.length by omega)
  exact (lattice x1 x2 x1).1
theorem zip_self {gs : List Grp} {k : List UInt8} {ca : List Cl} (ha : rgoodS gs k ca = 0) : zipN ca ca ca.length = ca := by
  refine list_getD (zipN_len ca ca ca.length) fun i hi => ?_
  rw [zipN_len] at hi
  rw [zip_at ca ca hi]
  have x1 := good_at ha hi
  exact (lattice x1 x1 x1).2.2.2.1
theorem zip_assoc {gs : List Grp} {k : List UInt8} {ca cb cc : List Cl} (ha : rgoodS gs k ca = 0) (hb : rgoodS gs k cb = 0) (hc : rgoodS gs k cc = 0) :
    zipN (zipN ca cb ca.length) cc (zipN ca cb ca.length).length = zipN ca (zipN cb cc cb.length) ca.length := by
  have h3 := (rgood_inv ha).2.2.1
  have h5 := (rgood_inv hb).2.2.1
  have h7 := (rgood_inv hc).2.2.1
  refine list_getD (by rw [zipN_len, zipN_len, zipN_len]) fun i hi => ?_
  rw [zipN_len, zipN_len] at hi
  rw [zip_at _ cc (by rw [zipN_len]; exact hi), zip_at ca cb hi, zip_at ca (zipN cb cc cb.length) hi, zip_at cb cc (by omega)]
  have x1 := good_at ha hi
  have x2 := good_at hb (show i < cb.length by omega)
  have x3 := good_at hc (show i < cc.length by omega)
  exact (lattice x1 x2 x3).2.1
/-- P10.6: a row that adds nothing changes nothing. -/
theorem zip_back {gs : List Grp} {k : List UInt8} {cs : List Cl} {i : Nat} {c : Cl} (h : rgoodS gs k cs = 0) (hi : i < cs.length) (hc : c.good (gs.getD i ([], 0)).2 = true) :
    zipN (cs.set i (joinC [cs.getD i Cl.zero, c])) cs (cs.set i (joinC [cs.getD i Cl.zero, c])).length = cs.set i (joinC [cs.getD i Cl.zero, c]) := by
  refine list_getD (zipN_len _ _ _) fun j hj => ?_
  rw [zipN_len] at hj
  rw [zip_at _ cs hj, set_getD]
  rw [List.length_set] at hj
  have x1 := good_at h hj
  by_cases e : i = j
  · subst e
    rw [if_pos ⟨rfl, hi⟩]
    have l1 := lattice x1 hc x1
    have l2 := lattice (lattice x1 hc x1).2.2.2.2.2.1 x1 x1
    rw [l2.1]
    have l3 := lattice x1 x1 hc
    rw [← l3.2.1, l3.2.2.2.1]
  · rw [if_neg (fun h => e h.1)]
    exact (lattice x1 x1 x1).2.2.2.1
theorem set_back {gs : List Grp} {k : List UInt8} {cs : List Cl} {i : Nat} {c : Cl} (h : rgoodS gs k cs = 0) (hi : i < cs.length) (hc : c.good (gs.getD i ([], 0)).2 = true) :
    (cs.set i (joinC [cs.getD i Cl.zero, c])).set i (joinC [(cs.set i (joinC [cs.getD i Cl.zero, c])).getD i Cl.zero, c]) = cs.set i (joinC [cs.getD i Cl.zero, c]) := by
  rw [List.set_set, set_getD, if_pos ⟨rfl, hi⟩]
  have x1 := good_at h hi
  have l1 := lattice x1 hc hc
  rw [l1.2.1, (lattice hc hc hc).2.2.2.1]
end Go.Proofs.YtkjpmdpljdgcjaaDoor
end

section
/-
  Row: what RowApart wants of writes.
-/
namespace Go.Proofs.YtkjpmdpljdgcjaaDoor
open Go.RowKit Go Go.Sort
set_option linter.unusedVariables false
set_option maxRecDepth 20000

theorem good_short {p : Int} {c : Cl} (h : c.good p = true) : c.t.length ≤ 9223372036854775807 := by
  rw [jgood_parts] at h
  unfold Cl.gw Cl.wrote wroteS at h
  obtain ⟨n, s, a, b, g, t, d, e⟩ := c
  simp at h
  show t.length ≤ _
  rcases h.2.2 with h2 | h2
  · rcases h2 with ⟨_, _, _, _, _, rfl⟩; simp
  · omega
theorem write_cases {gs : List Grp} {key : List UInt8} {cs : List Cl} {k : Int} {c : Cl} :
    (∃ f, rwriteS gs key cs k c = ([], [], f) ∧ f ≠ 0) ∨ (rgoodS gs key cs = 0 ∧ ∃ i : Nat, k = (i : Int) ∧ i < cs.length ∧ c.good (gs.getD i ([], 0)).2 = true ∧ rwriteS gs key cs k c = (key, cs.set i (joinC [cs.getD i Cl.zero, c]), 0)) := by
  by_cases h0 : rgoodS gs key cs = 0
  · obtain ⟨g1, _, g3, _⟩ := rgood_inv h0
    by_cases h1 : (pofS gs k).2 = 0
    · obtain ⟨k0, k1⟩ := of_in g1 h1
      obtain ⟨i, rfl⟩ : ∃ i : Nat, k = (i : Int) := ⟨k.toNat, by omega⟩
      have hp : pofS gs (i : Int) = ((gs.getD i ([], 0)).2, 0) := by
        unfold pofS
        rw [if_pos g1, if_neg (by omega), Int.toNat_natCast]
      cases h2 : c.good (pofS gs (i : Int)).1 with
      | false => exact .inl ⟨80, write_cell h0 h1 h2, by decide⟩
      | true =>
        refine .inr ⟨h0, i, rfl, by omega, ?_, ?_⟩
        · rw [hp] at h2; exact h2
        · rw [write_ok h0 h1 h2, Int.toNat_natCast]
    · exact .inl ⟨_, write_grp h0 h1, h1⟩
  · exact .inl ⟨_, write_bad h0, h0⟩
theorem write_in {gs : List Grp} {key : List UInt8} {cs : List Cl} {i : Nat} {c : Cl} (h0 : rgoodS gs key cs = 0) (hi : i < cs.length) (hc : c.good (gs.getD i ([], 0)).2 = true) :
    rwriteS gs key cs (i : Int) c = (key, cs.set i (joinC [cs.getD i Cl.zero, c]), 0) := by
  obtain ⟨g1, _, g3, _⟩ := rgood_inv h0
  have hp : pofS gs (i : Int) = ((gs.getD i ([], 0)).2, 0) := by
    unfold pofS
    rw [if_pos g1, if_neg (by omega), Int.toNat_natCast]
  rw [write_ok h0 (by rw [hp]) (by rw [hp]; exact hc), Int.toNat_natCast]
theorem row_short {gs : List Grp} {k : List UInt8} {cs : List Cl} (h : rgoodS gs k cs = 0) : ∀ c ∈ cs, c.t.length ≤ 9223372036854775807 := by
  intro c hc
  obtain ⟨i, hi, rfl⟩ := List.getElem_of_mem hc
  have e : cs.getD i Cl.zero = cs[i] := by simp [hi]
  rw [← e]
  exact good_short (good_at h hi)
theorem rowtwo_cells {W : World} {q : Nat} {tk : ByteArray} {x2 : Option Addr} {m cap2 : Nat} {k : Int} (n s a b : Int) (g : Bool) (t : List UInt8) (d e : Int) (h : W.heap[q]? = some (.cells #[.string tk, .slice x2 m cap2, .int .i64 k, .int .i64 n, .int .i64 s, .int .i64 a, .int .i64 b, .bool g, .string (text t), .int .i64 d, .int .i64 e] 52 (0, 0))) :
    (W.cell? ⟨q, 0, none⟩ = some (.string tk) ∧ W.cell? ⟨q, 1, none⟩ = some (.slice x2 m cap2) ∧ W.cell? ⟨q, 2, none⟩ = some (.int .i64 k)) ∧ W.cell? ⟨q, 3, none⟩ = some (.int .i64 n) ∧ W.cell? ⟨q, 4, none⟩ = some (.int .i64 s) ∧ W.cell? ⟨q, 5, none⟩ = some (.int .i64 a) ∧ W.cell? ⟨q, 6, none⟩ = some (.int .i64 b) ∧
    W.cell? ⟨q, 7, none⟩ = some (.bool g) ∧ W.cell? ⟨q, 8, none⟩ = some (.string (text t)) ∧ W.cell? ⟨q, 9, none⟩ = some (.int .i64 d) ∧ W.cell? ⟨q, 10, none⟩ = some (.int .i64 e) := by
  refine ⟨⟨?_, ?_, ?_⟩, ?_, ?_, ?_, ?_, ?_, ?_, ?_, ?_⟩ <;> (rw [cell_of_row _ q _ _ _ (0, 0) h]; rfl)
end Go.Proofs.YtkjpmdpljdgcjaaDoor
end

section
/-
  Boxes of a call's own that a region lays and fills, in whatever order.
-/
namespace Go.Proofs.YtkjpmdpljdgcjaaDoor
open Go.RowKit Go Go.Sort
set_option linter.unusedVariables false
set_option maxRecDepth 20000

/-- A block of a call's own behind a pointer, with its cells. -/
def HeldB (B0 : Nat) (ty : TypeId) (w : World) (v : Value) (cs : Array Value) : Prop := ∃ g, v = .pointer (some ⟨g, 0, none⟩) ∧ B0 ≤ g ∧ w.heap[g]? = some (.cells cs ty (0, 0))
theorem HeldB.kept {B0 : Nat} {ty : TypeId} {w w' : World} {v : Value} {cs : Array Value} (h : HeldB B0 ty w v cs) (hb : Below w.heap.size w w') : HeldB B0 ty w' v cs := by
  obtain ⟨g, h1, h2, h3⟩ := h
  exact ⟨g, h1, h2, heap_below h3 hb⟩
theorem HeldB.other {B0 q : Nat} {ty t : TypeId} {w w' : World} {v : Value} {cs ds : Array Value} (h : HeldB B0 ty w v cs) (hw : Wrote q ds t w w') (hne : v ≠ .pointer (some ⟨q, 0, none⟩)) : HeldB B0 ty w' v cs := by
  obtain ⟨g, rfl, h2, h3⟩ := h
  exact ⟨g, rfl, h2, (hw.rest g (Array.getElem?_eq_some_iff.1 h3).1 (by rintro rfl; exact hne rfl)).trans h3⟩
theorem HeldB.ne {B0 : Nat} {ty : TypeId} {w : World} {v : Value} {cs : Array Value} (h : HeldB B0 ty w v cs) : v ≠ .pointer (some ⟨w.heap.size, 0, none⟩) := by
  obtain ⟨g, rfl, _, h3⟩ := h
  have := (Array.getElem?_eq_some_iff.1 h3).1
  intro e
  simp at e
  try omega
/-- Where the laying of n boxes stands: m operations (and those behind) that tell V, n that make boxes, n that fill them with R. -/
def LayN (m n : Nat) (ty : TypeId) (z : Array Value) (V : Nat → Value) (R : Nat → Array Value) (w0 : World) (L : Nat → Bool) (xs : Nat → Value) (w : World) : Prop :=
  Below w0.heap.size w0 w ∧ (∀ i, (i < m ∨ m + n + n ≤ i) → L i = true → xs i = V i) ∧
  (∀ j, j < n → L (m + j) = true → HeldB w0.heap.size ty w (xs (m + j)) (if L (m + n + j) = true then R j else z)) ∧
  (∀ j k, j < n → k < n → j ≠ k → L (m + j) = true → L (m + k) = true → xs (m + j) ≠ xs (m + k)) ∧
  (∀ j, j < n → L (m + n + j) = true → L (m + j) = true)
section
variable {m n : Nat} {ty : TypeId} {z : Array Value} {V : Nat → Value} {R : Nat → Array Value} {w0 w : World} {L : Nat → Bool} {xs : Nat → Value}
theorem LayN.start (N : Nat) (hN : m + n + n ≤ N) (h : ∀ i, i < N → L i = false) (hz : ∀ i, N ≤ i → xs i = V i) : LayN m n ty z V R w0 L xs { w0 with drawn := w0.drawn + 1 } := by
  have f : ∀ i, i < m + n + n → L i = true → False := fun i hi ht => by rw [h i (by omega)] at ht; cases ht
  refine ⟨⟨rfl, rfl, rfl, Nat.le_refl _, fun _ _ => rfl⟩, fun i hi ht => ?_, fun j hj ht => (f _ (by omega) ht).elim, fun j k hj hk _ ht _ => (f _ (by omega) ht).elim, fun j hj ht => (f _ (by omega) ht).elim⟩
  by_cases hiN : i < N
  · rw [h i hiN] at ht; cases ht
  · exact hz i (by omega)
theorem LayN.set (h : LayN m n ty z V R w0 L xs w) (i : Nat) (hi : i < m ∨ m + n + n ≤ i) {w' : World} (hb : Below w.heap.size w w') : LayN m n ty z V R w0 (fun j => if j = i then true else L j) (fun j => if j = i then V i else xs j) w' := by
  obtain ⟨h0, h1, h2, h3, h4⟩ := h
  refine ⟨h0.trans (hb.mono h0.size), fun j hj ht => ?_, fun j hj ht => ?_, fun j k hj hk => ?_, fun j hj => ?_⟩
  · by_cases e : j = i
    · subst e; simp
    · simp only [if_neg e] at ht ⊢
      exact h1 j hj ht
  · simp only [if_neg (show ¬ m + j = i by omega), if_neg (show ¬ m + n + j = i by omega)] at ht ⊢
    exact (h2 j hj ht).kept hb
  · simp only [if_neg (show ¬ m + j = i by omega), if_neg (show ¬ m + k = i by omega)]
    exact h3 j k hj hk
  · simp only [if_neg (show ¬ m + j = i by omega), if_neg (show ¬ m + n + j = i by omega)]
    exact h4 j hj
theorem LayN.alloc (h : LayN m n ty z V R w0 L xs w) (j : Nat) (hj : j < n) {k : Nat} (hk : k = m + j) (hn : L k = false) : LayN m n ty z V R w0 (fun i => if i = k then true else L i) (fun i => if i = k then .pointer (some ⟨w.heap.size, 0, none⟩) else xs i) (w.alloc (.cells z ty)) := by
  subst hk
  obtain ⟨h0, h1, h2, h3, h4⟩ := h
  have kb := alloc_below w (.cells z ty)
  have hf : L (m + n + j) = false := by
    cases hx : L (m + n + j) with
    | false => rfl
    | true => rw [h4 j hj hx] at hn; cases hn
  refine ⟨h0.trans (kb.mono h0.size), fun i hi ht => ?_, fun i hi ht => ?_, fun i k hi hk hne hti htk => ?_, fun i hi ht => ?_⟩
  · simp only [if_neg (show ¬ i = m + j by omega)] at ht ⊢
    exact h1 i hi ht
  · by_cases e : i = j
    · subst e
      simp only [if_neg (show ¬ m + n + i = m + i by omega), hf, if_pos]
      exact ⟨_, rfl, h0.size, heap_alloc_new w _⟩
    · simp only [if_neg (show ¬ m + i = m + j by omega), if_neg (show ¬ m + n + i = m + j by omega)] at ht ⊢
      exact (h2 i hi ht).kept kb
  · by_cases e1 : i = j
    · subst e1
      simp only [if_neg (show ¬ m + k = m + i by omega), if_pos] at htk ⊢
      exact ((h2 k hk htk).ne).symm
    · by_cases e2 : k = j
      · subst e2
        simp only [if_neg (show ¬ m + i = m + k by omega), if_pos] at hti ⊢
        exact (h2 i hi hti).ne
      · simp only [if_neg (show ¬ m + i = m + j by omega), if_neg (show ¬ m + k = m + j by omega)] at hti htk ⊢
        exact h3 i k hi hk hne hti htk
  · by_cases e : i = j
    · subst e; simp
    · simp only [if_neg (show ¬ m + i = m + j by omega), if_neg (show ¬ m + n + i = m + j by omega)] at ht ⊢
      exact h4 i hi ht
theorem LayN.store (h : LayN m n ty z V R w0 L xs w) (j : Nat) (hj : j < n) {k s : Nat} (hk : k = m + j) (hs : s = m + n + j) (hL : L k = true) {g : Nat} (hg : xs k = .pointer (some ⟨g, 0, none⟩)) (hB : w0.heap.size ≤ g) {w2 : World} (hw : Wrote g (R j) ty w w2) (hl : g ≤ w.heap.size) (v : Value) :
    LayN m n ty z V R w0 (fun i => if i = s then true else L i) (fun i => if i = s then v else xs i) w2 := by
  subst hk hs
  obtain ⟨h0, h1, h2, h3, h4⟩ := h
  refine ⟨h0.trans (hw.below hB hl), fun i hi ht => ?_, fun i hi ht => ?_, fun i k hi hk hne hti htk => ?_, fun i hi ht => ?_⟩
  · simp only [if_neg (show ¬ i = m + n + j by omega)] at ht ⊢
    exact h1 i hi ht
  · simp only [if_neg (show ¬ m + i = m + n + j by omega)] at ht ⊢
    by_cases e : i = j
    · subst e
      simp only [if_pos]
      exact ⟨g, hg, hB, hw.cell⟩
    · simp only [if_neg (show ¬ m + n + i = m + n + j by omega)]
      exact (h2 i hi ht).other hw (hg ▸ h3 i j hi hj e ht hL)
  · simp only [if_neg (show ¬ m + i = m + n + j by omega), if_neg (show ¬ m + k = m + n + j by omega)] at hti htk ⊢
    exact h3 i k hi hk hne hti htk
  · by_cases e : i = j
    · subst e
      simp only [if_neg (show ¬ m + i = m + n + i by omega)]
      exact hL
    · simp only [if_neg (show ¬ m + i = m + n + j by omega), if_neg (show ¬ m + n + i = m + n + j by omega)] at ht ⊢
      exact h4 i hi ht
end
theorem getD_none (l : List Value) {i : Nat} (h : l.length ≤ i) : l.getD i undef = undef := by
  rw [List.getD_eq_getElem?_getD, List.getElem?_eq_none h]; rfl
/-- A row in a block, with its cells. -/
def RowBox (W : World) (g : Nat) (tk : ByteArray) (a : Option Addr) (m c : Nat) (cs : List Cl) : Prop := W.heap[g]? = some (.cells #[.string tk, .slice a m c] 25 (0, 0)) ∧ Cls W a m c cs
theorem RowBox.kept {W W' : World} {g : Nat} {tk : ByteArray} {a : Option Addr} {m c : Nat} {cs : List Cl} (h : RowBox W g tk a m c cs) (hb : Below W.heap.size W W') : RowBox W' g tk a m c cs := ⟨heap_below h.1 hb, h.2.below hb⟩
theorem RowBox.cls {W : World} {g : Nat} {tk : ByteArray} {a : Option Addr} {m c : Nat} {cs : List Cl} (h : RowBox W g tk a m c cs) : Cls W a m c cs := h.2
theorem RowBox.cs {W : World} {g : Nat} {tk : ByteArray} {a : Option Addr} {m c : Nat} {cs : List Cl} (h : RowBox W g tk a m c cs) : W.cell? ⟨g, 0, none⟩ = some (.string tk) ∧ W.cell? ⟨g, 1, none⟩ = some (.slice a m c) ∧ ∀ i, W.frozen? ⟨g, i, none⟩ = false := row_cells h.1
theorem Wrote.row {W : World} {g : Nat} {k0 : ByteArray} {v0 : Value} (h : W.heap[g]? = some (.cells #[.string k0, v0] 25 (0, 0))) (k : ByteArray) (v : Value) :
    Wrote g #[.string k, v] 25 W ((W.setCell ⟨g, 0, none⟩ (.string k)).setCell ⟨g, 1, none⟩ v) := by
  have h1 := Wrote.of_set (Below.refl _ W) h 0 (.string k)
  have h2 := Wrote.of_set (Below.refl _ _) h1.cell 1 v
  exact (h1.trans h2 : Wrote g _ _ _ _)
theorem rowsAt_three {W : World} {q : Nat} {k1 k2 k3 : List UInt8} {t1 t2 t3 : ByteArray} {a1 a2 a3 : Option Addr} {m1 m2 m3 c1 c2 c3 : Nat} {l1 l2 l3 : List Cl} {t : TypeId} (h : W.heap[q]? = some (.cells #[.string t1, .slice a1 m1 c1, .string t2, .slice a2 m2 c2, .string t3, .slice a3 m3 c3] t (0, 0)))
    (e1 : text k1 = t1) (e2 : text k2 = t2) (e3 : text k3 = t3) (h1 : Cls W a1 m1 c1 l1) (h2 : Cls W a2 m2 c2 l2) (h3 : Cls W a3 m3 c3 l3) : RowsAt W q [(k1, l1), (k2, l2), (k3, l3)] := by
  intro i hi
  subst e1 e2 e3
  have : i = 0 ∨ i = 1 ∨ i = 2 := by simp at hi; omega
  rcases this with rfl | rfl | rfl
  · exact ⟨a1, m1, c1, (cell_of_row W q 0 _ _ (0, 0) h).trans rfl, (cell_of_row W q 1 _ _ (0, 0) h).trans rfl, h1⟩
  · exact ⟨a2, m2, c2, (cell_of_row W q 2 _ _ (0, 0) h).trans rfl, (cell_of_row W q 3 _ _ (0, 0) h).trans rfl, h2⟩
  · exact ⟨a3, m3, c3, (cell_of_row W q 4 _ _ (0, 0) h).trans rfl, (cell_of_row W q 5 _ _ (0, 0) h).trans rfl, h3⟩
theorem rowsAt_two {W : World} {q : Nat} {k1 k2 : List UInt8} {t1 t2 : ByteArray} {a1 a2 : Option Addr} {m1 m2 c1 c2 : Nat} {l1 l2 : List Cl} {t : TypeId} (h : W.heap[q]? = some (.cells #[.string t1, .slice a1 m1 c1, .string t2, .slice a2 m2 c2] t (0, 0)))
    (e1 : text k1 = t1) (e2 : text k2 = t2) (h1 : Cls W a1 m1 c1 l1) (h2 : Cls W a2 m2 c2 l2) : RowsAt W q [(k1, l1), (k2, l2)] := by
  intro i hi
  subst e1 e2
  have : i = 0 ∨ i = 1 := by simp at hi; omega
  rcases this with rfl | rfl
  · exact ⟨a1, m1, c1, (cell_of_row W q 0 _ _ (0, 0) h).trans rfl, (cell_of_row W q 1 _ _ (0, 0) h).trans rfl, h1⟩
  · exact ⟨a2, m2, c2, (cell_of_row W q 2 _ _ (0, 0) h).trans rfl, (cell_of_row W q 3 _ _ (0, 0) h).trans rfl, h2⟩
end Go.Proofs.YtkjpmdpljdgcjaaDoor
end

section
/-
  Row: the walk of RowLattice.
-/
namespace Go.Proofs.YtkjpmdpljdgcjaaDoor
open Go.RowKit Go Go.Sort
set_option linter.unusedVariables false
set_option maxRecDepth 20000

theorem join_ok {gs : List Grp} {ka : List UInt8} {ca cb : List Cl} (ha : rgoodS gs ka ca = 0) (hb : rgoodS gs ka cb = 0) : rjoinS gs ka ca ka cb = (ka, zipN ca cb ca.length, 0) := by
  unfold rjoinS
  rw [if_neg (not_not_intro ha), if_neg (not_not_intro hb), if_neg (not_not_intro rfl)]

set_option maxRecDepth 100000 in
set_option maxHeartbeats 12800000 in
theorem rlattice_walk {w : World} {x xa xb xc : Option Addr} {n1 cap ma mb mc pa pb pc : Nat} {gs : List Grp} {ca cb cc : List Cl} (hg : Grs w x n1 cap gs) (hs : ∀ g ∈ gs, g.1.length ≤ 9223372036854775807) (key : List UInt8) (hk : key.length ≤ 9223372036854775807)
    (hla : Cls w xa ma pa ca) (hxa : ∀ c ∈ ca, c.t.length ≤ 9223372036854775807) (hlb : Cls w xb mb pb cb) (hxb : ∀ c ∈ cb, c.t.length ≤ 9223372036854775807) (hlc : Cls w xc mc pc cc) (hxc : ∀ c ∈ cc, c.t.length ≤ 9223372036854775807) (hT : TabW w) :
    Calls Tryd.prog 6 #[.slice x n1 cap, .string (text key), .agg #[.slice xa ma pa, .slice xb mb pb, .slice xc mc pc]] w (Tells (.bool true) w) := by
  have hal := hla.len
  have hbl := hlb.len
  have hcl := hlc.len
  have HLv := Lib.hid (fun W (h : Below w.heap.size w W) => rlives_c (hT.below h))
  have hLT := fun W (h : Below w.heap.size w W) (q : Nat) (hr : RowsAt W q [(key, ca), (key, cb), (key, cc)]) => light_c (hg.below h) hr (rfl : _ = 3) (by omega)
    (fun r hr => by simp only [List.mem_cons, List.not_mem_nil, or_false] at hr; rcases hr with rfl | rfl | rfl <;> exact hk) (fun r hr => by simp only [List.mem_cons, List.not_mem_nil, or_false] at hr; rcases hr with rfl | rfl | rfl <;> assumption)
  have hGA := fun W (h : Below w.heap.size w W) => rowgood_c (hg.below h) hs (hla.below h) hxa key hk
  have hGB := fun W (h : Below w.heap.size w W) => rowgood_c (hg.below h) hs (hlb.below h) hxb key hk
  have hGC := fun W (h : Below w.heap.size w W) => rowgood_c (hg.below h) hs (hlc.below h) hxc key hk
  have hJ : ∀ (c1 c2 : List Cl), rgoodS gs key c1 = 0 → rgoodS gs key c2 = 0 → ∀ (W : World) (h : Below w.heap.size w W) (a1 a2 : Option Addr) (m1 p1 m2 p2 : Nat), Cls W a1 m1 p1 c1 → Cls W a2 m2 p2 c2 →
      Calls Tryd.prog 25 #[.slice x n1 cap, .agg #[.string (text key), .slice a1 m1 p1], .agg #[.string (text key), .slice a2 m2 p2]] W (fun e w' => ∃ a c, e = .returned (.tuple #[.agg #[.string (text key), .slice a (zipN c1 c2 c1.length).length c], .int .i64 0]) ∧ Cls w' a (zipN c1 c2 c1.length).length c (zipN c1 c2 c1.length) ∧ Below W.heap.size W w') := by
    intro c1 c2 h1 h2 W h a1 a2 m1 p1 m2 p2 l1 l2
    have hj := rowjoin_c (hg.below h) hs l1 (row_short h1) key hk l2 (row_short h2) key hk
    rw [join_ok h1 h2] at hj
    exact hj.mono fun _ _ h => h.cells
  have hGX := fun (c1 : List Cl) (h1 : rgoodS gs key c1 = 0) (W : World) (h : Below w.heap.size w W) (a1 : Option Addr) (m1 p1 : Nat) (l1 : Cls W a1 m1 p1 c1) => rowgood_c (hg.below h) hs l1 (row_short h1) key hk
  have HJ := Lib.hid hJ
  have HGX := Lib.hid hGX
  have HIV := Lib.hid (fun c1 => @rgood_inv gs key c1)
  have HMA := Lib.hid (fun (ha : rgoodS gs key ca = 0) (hb : rgoodS gs key cb = 0) => And.intro (zip_comm ha hb) (zip_good ha hb))
  have HMB := Lib.hid (fun (hb : rgoodS gs key cb = 0) (hc : rgoodS gs key cc = 0) => zip_good hb hc)
  have HMC := Lib.hid (fun (ha : rgoodS gs key ca = 0) (hb : rgoodS gs key cb = 0) (hc : rgoodS gs key cc = 0) => And.intro (zip_assoc ha hb hc) (zip_good (zip_good ha hb) hc))
  have HMS := Lib.hid (fun (ha : rgoodS gs key ca = 0) => zip_self ha)
  obtain ⟨LB, hL⟩ : ∃ q, decide (lightN gs.length [(key, ca), (key, cb), (key, cc)] 3 ≤ 5000) = q := ⟨_, rfl⟩
  simp only [hL] at hLT
  obtain ⟨RA, hRA⟩ : ∃ q, rgoodS gs key ca = q := ⟨_, rfl⟩
  obtain ⟨RB, hRB⟩ : ∃ q, rgoodS gs key cb = q := ⟨_, rfl⟩
  obtain ⟨RC, hRC⟩ : ∃ q, rgoodS gs key cc = q := ⟨_, rfl⟩
  rw [hRA] at hGA
  rw [hRB] at hGB
  rw [hRC] at hGC
  have HRA := Lib.hid hRA
  have HRB := Lib.hid hRB
  have HRC := Lib.hid hRC
  obtain ⟨tk, htk⟩ : ∃ q, text key = q := ⟨_, rfl⟩
  rw [htk] at hGA hGB hGC ⊢
  have HTK := Lib.hid htk
  have HA := Lib.hid hla
  have HB := Lib.hid hlb
  have HC := Lib.hid hlc
  have HLT := Lib.hid hLT
  have HGA := Lib.hid hGA
  have HGB := Lib.hid hGB
  have HGC := Lib.hid hGC
  have hal0 := alloc_below w (.cells #[.slice xa ma pa, .slice xb mb pb, .slice xc mc pc] 66)
  have hr := heap_alloc_new w (.cells #[.slice xa ma pa, .slice xb mb pb, .slice xc mc pc] 66)
  clear hLT hGA hGB hGC hJ hGX hL hRA hRB hRC htk hg hs hla hlb hlc hxa hxb hxc hk hT hal hbl hcl
  go_enter Tryd.func6, Tryd.ntmps6
  go_upto_region 1 with (fail)
  obtain ⟨Q, hQe⟩ : ∃ q, w.heap.size = q := ⟨_, rfl⟩
  have HQe := Lib.hid hQe
  rw [hQe] at hr ⊢
  clear hQe
  generalize w.alloc (.cells #[.slice xa ma pa, .slice xb mb pb, .slice xc mc pc] 66) = W1 at *
  have HB1 := Lib.hid hal0
  have HR1 := Lib.hid (fun W (h : Below W1.heap.size W1 W) => heap_below hr h)
  clear hal0 hr
  refine wp_region_inv [none, none, none, none, none, none, none, some 12, some 13, some 14, none, none, none, none, none, none, none, none, none, none, none, none, some 0, some 1, some 2, some 3, some 4, some 5, some 6, some 7, some 8, some 9, some 10, some 11, none, none, none, none, none, none, none, none, none, none, none, none, none, none, none, none, none, none, none, none, none, none, none, none, none, none, none, none, none, none, none, none, none, none, none, none, none, none, none, none, none, none, none, none, none, none, none, none, none, none, none, none, none, none, none, none, none, none, none, none, none, none, none, none, none, none, none, none, none, none, none, none, none, none, none, none, none, none, none, none, none, none, none, none, none, none, none, none, none, none, none, none, none, none, none, none, none, none, none, none, none, none, none, none, none, none, none, none, none, none, none, none] (fun _ => undef) (LayN 12 3 25 #[.string ⟨#[]⟩, .slice none 0 0] (fun i => [.string tk, .pointer (some ⟨Q, 0, none⟩), .slice xa ma pa, .agg #[.string tk, .slice xa ma pa], .string tk, .pointer (some ⟨Q, 1, none⟩), .slice xb mb pb, .agg #[.string tk, .slice xb mb pb], .string tk, .pointer (some ⟨Q, 2, none⟩), .slice xc mc pc, .agg #[.string tk, .slice xc mc pc]].getD i undef) (fun j => [#[.string tk, .slice xa ma pa], #[.string tk, .slice xb mb pb], #[.string tk, .slice xc mc pc]].getD j #[]) W1) (by kernel_rfl) (by kernel_rfl) rfl rfl (fun L hL => LayN.start 18 (by decide) hL (fun i hi => (getD_none _ (by simp only [List.length_cons, List.length_nil]; omega)).symm)) ?_ ?_
  · simp only [invOps, and_true]
    refine ⟨?_, ?_, ?_, ?_, ?_, ?_, ?_, ?_, ?_, ?_, ?_, ?_, ?_, ?_, ?_, ?_, ?_, ?_⟩
    · intro L xs W hI hL hn
      simp only [flowAct, List.zipWith_cons_cons, List.zipWith_nil_left]
      go_wp2_with (fail)
      exact ⟨rfl, _, rfl, hI.set 0 (.inl (by decide)) (Below.refl _ _)⟩
    · intro L xs W hI hL hn
      have hq := HR1.out W hI.1
      have c0 := (cell_of_row W Q 0 _ _ (0, 0) hq).trans rfl
      simp only [flowAct, List.zipWith_cons_cons, List.zipWith_nil_left]
      go_wp2_with (fail)
      exact ⟨rfl, _, rfl, hI.set 1 (.inl (by decide)) (Below.refl _ _)⟩
    · intro L xs W hI hL hn
      have hq := HR1.out W hI.1
      have c0 : W.cell? ⟨Q, 0, none⟩ = some (.slice xa ma pa) := (cell_of_row W Q 0 _ _ (0, 0) hq).trans rfl
      simp [invNeeds, Region.binds] at hn
      have e0 : xs 1 = .pointer (some ⟨Q, 0, none⟩) := hI.2.1 1 (.inl (by decide)) hn
      simp only [flowAct, List.zipWith_cons_cons, List.zipWith_nil_left]
      simp only [e0]
      go_wp2_with (fail)
      exact ⟨rfl, _, rfl, hI.set 2 (.inl (by decide)) (Below.refl _ _)⟩
    · intro L xs W hI hL hn
      simp [invNeeds, Region.binds] at hn
      have e0 : xs 0 = .string tk := hI.2.1 0 (.inl (by decide)) hn.1
      have e1 : xs 2 = .slice xa ma pa := hI.2.1 2 (.inl (by decide)) hn.2
      simp only [flowAct, List.zipWith_cons_cons, List.zipWith_nil_left]
      simp only [e0, e1]
      go_wp2_with (fail)
      exact ⟨rfl, _, rfl, hI.set 3 (.inl (by decide)) (Below.refl _ _)⟩
    · intro L xs W hI hL hn
      simp only [flowAct, List.zipWith_cons_cons, List.zipWith_nil_left]
      go_wp2_with (fail)
      exact ⟨rfl, _, rfl, hI.set 4 (.inl (by decide)) (Below.refl _ _)⟩
    · intro L xs W hI hL hn
      have hq := HR1.out W hI.1
      have c0 := (cell_of_row W Q 1 _ _ (0, 0) hq).trans rfl
      simp only [flowAct, List.zipWith_cons_cons, List.zipWith_nil_left]
      go_wp2_with (fail)
      exact ⟨rfl, _, rfl, hI.set 5 (.inl (by decide)) (Below.refl _ _)⟩
    · intro L xs W hI hL hn
      have hq := HR1.out W hI.1
      have c0 : W.cell? ⟨Q, 1, none⟩ = some (.slice xb mb pb) := (cell_of_row W Q 1 _ _ (0, 0) hq).trans rfl
      simp [invNeeds, Region.binds] at hn
      have e0 : xs 5 = .pointer (some ⟨Q, 1, none⟩) := hI.2.1 5 (.inl (by decide)) hn
      simp only [flowAct, List.zipWith_cons_cons, List.zipWith_nil_left]
      simp only [e0]
      go_wp2_with (fail)
      exact ⟨rfl, _, rfl, hI.set 6 (.inl (by decide)) (Below.refl _ _)⟩
    · intro L xs W hI hL hn
      simp [invNeeds, Region.binds] at hn
      have e0 : xs 4 = .string tk := hI.2.1 4 (.inl (by decide)) hn.1
      have e1 : xs 6 = .slice xb mb pb := hI.2.1 6 (.inl (by decide)) hn.2
      simp only [flowAct, List.zipWith_cons_cons, List.zipWith_nil_left]
      simp only [e0, e1]
      go_wp2_with (fail)
      exact ⟨rfl, _, rfl, hI.set 7 (.inl (by decide)) (Below.refl _ _)⟩
    · intro L xs W hI hL hn
      simp only [flowAct, List.zipWith_cons_cons, List.zipWith_nil_left]
      go_wp2_with (fail)
      exact ⟨rfl, _, rfl, hI.set 8 (.inl (by decide)) (Below.refl _ _)⟩
    · intro L xs W hI hL hn
      have hq := HR1.out W hI.1
      have c0 := (cell_of_row W Q 2 _ _ (0, 0) hq).trans rfl
      simp only [flowAct, List.zipWith_cons_cons, List.zipWith_nil_left]
      go_wp2_with (fail)
      exact ⟨rfl, _, rfl, hI.set 9 (.inl (by decide)) (Below.refl _ _)⟩
    · intro L xs W hI hL hn
      have hq := HR1.out W hI.1
      have c0 : W.cell? ⟨Q, 2, none⟩ = some (.slice xc mc pc) := (cell_of_row W Q 2 _ _ (0, 0) hq).trans rfl
      simp [invNeeds, Region.binds] at hn
      have e0 : xs 9 = .pointer (some ⟨Q, 2, none⟩) := hI.2.1 9 (.inl (by decide)) hn
      simp only [flowAct, List.zipWith_cons_cons, List.zipWith_nil_left]
      simp only [e0]
      go_wp2_with (fail)
      exact ⟨rfl, _, rfl, hI.set 10 (.inl (by decide)) (Below.refl _ _)⟩
    · intro L xs W hI hL hn
      simp [invNeeds, Region.binds] at hn
      have e0 : xs 8 = .string tk := hI.2.1 8 (.inl (by decide)) hn.1
      have e1 : xs 10 = .slice xc mc pc := hI.2.1 10 (.inl (by decide)) hn.2
      simp only [flowAct, List.zipWith_cons_cons, List.zipWith_nil_left]
      simp only [e0, e1]
      go_wp2_with (fail)
      exact ⟨rfl, _, rfl, hI.set 11 (.inl (by decide)) (Below.refl _ _)⟩
    · intro L xs W hI hL hn
      simp only [flowAct, List.zipWith_cons_cons, List.zipWith_nil_left]
      go_wp2_with (fail)
      exact ⟨rfl, _, rfl, hI.alloc 0 (by decide) rfl hL⟩
    · intro L xs W hI hL hn
      simp only [flowAct, List.zipWith_cons_cons, List.zipWith_nil_left]
      go_wp2_with (fail)
      exact ⟨rfl, _, rfl, hI.alloc 1 (by decide) rfl hL⟩
    · intro L xs W hI hL hn
      simp only [flowAct, List.zipWith_cons_cons, List.zipWith_nil_left]
      go_wp2_with (fail)
      exact ⟨rfl, _, rfl, hI.alloc 2 (by decide) rfl hL⟩
    · intro L xs W hI hL hn
      simp [invNeeds, Region.binds] at hn
      obtain ⟨hk, hv⟩ : L 12 = true ∧ L 3 = true := by simp_all
      have hh := hI.2.2.1 0 (by decide) hk
      rw [if_neg (by rw [show L (12 + 3 + 0) = false from hL]; decide)] at hh
      obtain ⟨g, eg, lg, hg⟩ := hh
      have e0 : xs 3 = .agg #[.string tk, .slice xa ma pa] := hI.2.1 3 (.inl (by decide)) hv
      have e1 : xs 12 = .pointer (some ⟨g, 0, none⟩) := eg
      obtain ⟨p0, p1, pfz⟩ := row_cells hg
      simp only [flowAct, List.zipWith_cons_cons, List.zipWith_nil_left]
      simp only [e0, e1]
      go_wp2_with (fail)
      exact ⟨rfl, undef, rfl, hI.store 0 (by decide) rfl rfl hk eg lg (Wrote.row hg tk (.slice xa ma pa)) (Nat.le_of_lt (Array.getElem?_eq_some_iff.1 hg).1) undef⟩
    · intro L xs W hI hL hn
      simp [invNeeds, Region.binds] at hn
      obtain ⟨hk, hv⟩ : L 13 = true ∧ L 7 = true := by simp_all
      have hh := hI.2.2.1 1 (by decide) hk
      rw [if_neg (by rw [show L (12 + 3 + 1) = false from hL]; decide)] at hh
      obtain ⟨g, eg, lg, hg⟩ := hh
      have e0 : xs 7 = .agg #[.string tk, .slice xb mb pb] := hI.2.1 7 (.inl (by decide)) hv
      have e1 : xs 13 = .pointer (some ⟨g, 0, none⟩) := eg
      obtain ⟨p0, p1, pfz⟩ := row_cells hg
      simp only [flowAct, List.zipWith_cons_cons, List.zipWith_nil_left]
      simp only [e0, e1]
      go_wp2_with (fail)
      exact ⟨rfl, undef, rfl, hI.store 1 (by decide) rfl rfl hk eg lg (Wrote.row hg tk (.slice xb mb pb)) (Nat.le_of_lt (Array.getElem?_eq_some_iff.1 hg).1) undef⟩
    · intro L xs W hI hL hn
      simp [invNeeds, Region.binds] at hn
      obtain ⟨hk, hv⟩ : L 14 = true ∧ L 11 = true := by simp_all
      have hh := hI.2.2.1 2 (by decide) hk
      rw [if_neg (by rw [show L (12 + 3 + 2) = false from hL]; decide)] at hh
      obtain ⟨g, eg, lg, hg⟩ := hh
      have e0 : xs 11 = .agg #[.string tk, .slice xc mc pc] := hI.2.1 11 (.inl (by decide)) hv
      have e1 : xs 14 = .pointer (some ⟨g, 0, none⟩) := eg
      obtain ⟨p0, p1, pfz⟩ := row_cells hg
      simp only [flowAct, List.zipWith_cons_cons, List.zipWith_nil_left]
      simp only [e0, e1]
      go_wp2_with (fail)
      exact ⟨rfl, undef, rfl, hI.store 2 (by decide) rfl rfl hk eg lg (Wrote.row hg tk (.slice xc mc pc)) (Nat.le_of_lt (Array.getElem?_eq_some_iff.1 hg).1) undef⟩
  · intro L xs W hI hall
    obtain ⟨hW, -, hP, -, -⟩ := hI
    obtain ⟨gA, eA, lA, PA⟩ := hP 0 (by decide) (hall 12 (by decide))
    obtain ⟨gB, eB, lB, PB⟩ := hP 1 (by decide) (hall 13 (by decide))
    obtain ⟨gC, eC, lC, PC⟩ := hP 2 (by decide) (hall 14 (by decide))
    rw [if_pos (hall (12 + 3 + 0) (by decide))] at PA
    rw [if_pos (hall (12 + 3 + 1) (by decide))] at PB
    rw [if_pos (hall (12 + 3 + 2) (by decide))] at PC
    replace eA : xs 12 = _ := eA
    replace eB : xs 13 = _ := eB
    replace eC : xs 14 = _ := eC
    clear hP hall
    simp only [flowAct, List.zipWith_cons_cons, List.zipWith_nil_left]
    simp only [eA, eB, eC]
    have HB1w := Lib.hid (HB1.out.trans (hW.mono HB1.out.size))
    have bA1 := Lib.hid (show RowBox W gA tk xa ma pa ca from ⟨PA, HA.out.below HB1w.out⟩)
    have bB1 := Lib.hid (show RowBox W gB tk xb mb pb cb from ⟨PB, HB.out.below HB1w.out⟩)
    have bC1 := Lib.hid (show RowBox W gC tk xc mc pc cc from ⟨PC, HC.out.below HB1w.out⟩)
    clear eA eB eC lA lB lC PA PB PC hW HR1 HB1
    rename_i W2i
    obtain ⟨W2, hW2⟩ : ∃ X, W = X := ⟨_, rfl⟩
    rw [hW2] at HB1w bA1 bB1 bC1 ⊢
    clear hW2
    have hal := alloc_below W2 (.cells #[.string tk, .slice xa ma pa, .string tk, .slice xb mb pb, .string tk, .slice xc mc pc] 25)
    have HB2 := Lib.hid (HB1w.out.trans (hal.mono HB1w.out.size))
    have HLC := Lib.hid (HLT.out _ HB2.out _ (rowsAt_three (heap_alloc_new W2 (.cells #[.string tk, .slice xa ma pa, .string tk, .slice xb mb pb, .string tk, .slice xc mc pc] 25)) HTK.out HTK.out HTK.out (bA1.out.cls.below hal) (bB1.out.cls.below hal) (bC1.out.cls.below hal)))
    have bA2 := Lib.hid (bA1.out.kept hal)
    have bB2 := Lib.hid (bB1.out.kept hal)
    have bC2 := Lib.hid (bC1.out.kept hal)
    obtain ⟨x0, x1, -⟩ := bA1.out.cs
    obtain ⟨y0, y1, -⟩ := bB1.out.cs
    obtain ⟨z0, z1, -⟩ := bC1.out.cs
    clear hal HLT
    cases LB with
    | false =>
      go_wp2_with (first
        | (go_at_call 8; (with_reducible refine HLC.out.mono ?_); rintro e9 w9 ⟨rfl, hb9⟩; have bA3 := Lib.hid (bA2.out.kept hb9); have bB3 := Lib.hid (bB2.out.kept hb9); have bC3 := Lib.hid (bC2.out.kept hb9); have HB3 := Lib.hid (HB2.out.trans (hb9.mono HB2.out.size)); clear hb9 x0 x1 y0 y1 z0 z1; obtain ⟨x0, x1, -⟩ := bA3.out.cs; obtain ⟨y0, y1, -⟩ := bB3.out.cs; obtain ⟨z0, z1, -⟩ := bC3.out.cs)
        | (go_at_call 9; (with_reducible refine (HLv.out _ HB3.out).mono ?_); rintro e9 w8 ⟨rfl, hb9⟩; have HBz := Lib.hid (HB3.out.trans (hb9.mono HB3.out.size)); clear hb9))
      go_ret
      exact ⟨rfl, HBz.out⟩
    | true =>
      by_cases hA : RA = 0
      · subst hA
        by_cases hB : RB = 0
        · subst hB
          by_cases hC : RC = 0
          · subst hC
            go_upto_region 4 with (first
              | (go_at_call 8; (with_reducible refine HLC.out.mono ?_); rintro e9 w9 ⟨rfl, hb9⟩; have bA3 := Lib.hid (bA2.out.kept hb9); have bB3 := Lib.hid (bB2.out.kept hb9); have bC3 := Lib.hid (bC2.out.kept hb9); have HB3 := Lib.hid (HB2.out.trans (hb9.mono HB2.out.size)); clear hb9 x0 x1 y0 y1 z0 z1; obtain ⟨x0, x1, -⟩ := bA3.out.cs; obtain ⟨y0, y1, -⟩ := bB3.out.cs; obtain ⟨z0, z1, -⟩ := bC3.out.cs)
              | (go_at_call 14; (with_reducible refine (HGA.out _ HB3.out).mono ?_); rintro e9 w9 ⟨rfl, hb9⟩; have bA4 := Lib.hid (bA3.out.kept hb9); have bB4 := Lib.hid (bB3.out.kept hb9); have bC4 := Lib.hid (bC3.out.kept hb9); have HB4 := Lib.hid (HB3.out.trans (hb9.mono HB3.out.size)); clear hb9 x0 x1 y0 y1 z0 z1; obtain ⟨x0, x1, -⟩ := bA4.out.cs; obtain ⟨y0, y1, -⟩ := bB4.out.cs; obtain ⟨z0, z1, -⟩ := bC4.out.cs)
              | (go_at_call 14; (with_reducible refine (HGB.out _ HB4.out).mono ?_); rintro e9 w9 ⟨rfl, hb9⟩; have bA5 := Lib.hid (bA4.out.kept hb9); have bB5 := Lib.hid (bB4.out.kept hb9); have bC5 := Lib.hid (bC4.out.kept hb9); have HB5 := Lib.hid (HB4.out.trans (hb9.mono HB4.out.size)); clear hb9 x0 x1 y0 y1 z0 z1; obtain ⟨x0, x1, -⟩ := bA5.out.cs; obtain ⟨y0, y1, -⟩ := bB5.out.cs; obtain ⟨z0, z1, -⟩ := bC5.out.cs)
              | (go_at_call 14; (with_reducible refine (HGC.out _ HB5.out).mono ?_); rintro e9 w9 ⟨rfl, hb9⟩; have bA6 := Lib.hid (bA5.out.kept hb9); have bB6 := Lib.hid (bB5.out.kept hb9); have bC6 := Lib.hid (bC5.out.kept hb9); have HB6 := Lib.hid (HB5.out.trans (hb9.mono HB5.out.size)); clear hb9 x0 x1 y0 y1 z0 z1; obtain ⟨x0, x1, -⟩ := bA6.out.cs; obtain ⟨y0, y1, -⟩ := bB6.out.cs; obtain ⟨z0, z1, -⟩ := bC6.out.cs))
            clear bA1 bB1 bC1 bA2 bB2 bC2 bA3 bB3 bC3 bA4 bB4 bC4 bA5 bB5 bC5 HB1w HB2 HB3 HB4 HB5 HLC HGA HGB HGC x0 x1 y0 y1 z0 z1
            obtain ⟨ema, hla⟩ : ca.length = ma ∧ ca.length = gs.length := ⟨HA.out.len, (HIV.out _ HRA.out).2.2.1⟩
            obtain ⟨emb, hlb⟩ : cb.length = mb ∧ cb.length = gs.length := ⟨HB.out.len, (HIV.out _ HRB.out).2.2.1⟩
            obtain ⟨emc, hlc⟩ : cc.length = mc ∧ cc.length = gs.length := ⟨HC.out.len, (HIV.out _ HRC.out).2.2.1⟩
            obtain rfl : ma = mb := by omega
            obtain rfl : ma = mc := by omega
            have hAB := HJ.out ca cb HRA.out HRB.out
            have hBA := HJ.out cb ca HRB.out HRA.out
            have hBC := HJ.out cb cc HRB.out HRC.out
            obtain ⟨eBA, gAB⟩ := HMA.out HRA.out HRB.out
            have gBC := HMB.out HRB.out HRC.out
            obtain ⟨eXY, gX⟩ := HMC.out HRA.out HRB.out HRC.out
            have eAA := HMS.out HRA.out
            have hAA := HJ.out ca ca HRA.out HRA.out
            have hX := HJ.out _ cc gAB HRC.out
            have hY := HJ.out ca _ HRA.out gBC
            have hG := HGX.out _ gX
            rw [gX] at hG
            rw [eAA] at hAA
            rw [← eBA] at hBA
            rw [← eXY] at hY
            obtain ⟨X, hXe⟩ : ∃ q, zipN (zipN ca cb ca.length) cc (zipN ca cb ca.length).length = q := ⟨_, rfl⟩
            have lX : X.length = ma := by rw [← hXe, zipN_len, zipN_len]; exact ema
            rw [hXe] at hX hY hG
            obtain ⟨AB, hABe⟩ : ∃ q, zipN ca cb ca.length = q := ⟨_, rfl⟩
            have lAB : AB.length = ma := by rw [← hABe, zipN_len]; exact ema
            rw [hABe] at hAB hBA hX
            obtain ⟨BC, hBCe⟩ : ∃ q, zipN cb cc cb.length = q := ⟨_, rfl⟩
            have lBC : BC.length = ma := by rw [← hBCe, zipN_len]; exact emb
            rw [hBCe] at hBC hY
            simp only [lX, lAB, lBC, ema, HTK.out] at hAB hBA hBC hAA hX hY hG
            have HAB := Lib.hid hAB
            have HBA := Lib.hid hBA
            have HBC := Lib.hid hBC
            have HAA := Lib.hid hAA
            have HX := Lib.hid hX
            have HY := Lib.hid hY
            have HG := Lib.hid hG
            clear hAB hBA hBC hAA hX hY hG eBA gAB gBC eXY gX eAA hXe hABe hBCe lX lAB lBC ema emb emc hla hlb hlc HIV HMA HMB HMC HMS HJ HGX HRA HRB HRC
            obtain ⟨x0, x1, -⟩ := bA6.out.cs
            obtain ⟨y0, y1, -⟩ := bB6.out.cs
            go_upto_region 5 with (go_at_call 25; (with_reducible refine (HAB.out _ HB6.out _ _ _ _ _ _ bA6.out.cls bB6.out.cls).mono ?_); rintro e9 w9 ⟨ad, cd, rfl, hX, hb9⟩; have bAm := Lib.hid (bA6.out.kept hb9); have bBm := Lib.hid (bB6.out.kept hb9); have bCm := Lib.hid (bC6.out.kept hb9); have HBm := Lib.hid (HB6.out.trans (hb9.mono HB6.out.size)); have hXm := Lib.hid hX; clear hb9 hX)
            have hal := alloc_below w9 (.cells #[.string tk, .slice ad ma cd] 25)
            have bA7 := Lib.hid (bAm.out.kept hal)
            have bB7 := Lib.hid (bBm.out.kept hal)
            have bC7 := Lib.hid (bCm.out.kept hal)
            have HB7 := Lib.hid (HBm.out.trans (hal.mono HBm.out.size))
            have hnew : RowBox (w9.alloc (.cells #[.string tk, .slice ad ma cd] 25)) w9.heap.size tk ad ma cd AB := ⟨heap_alloc_new w9 (.cells #[.string tk, .slice ad ma cd] 25), hXm.out.below hal⟩
            obtain ⟨qd, hq⟩ : ∃ q, w9.heap.size = q := ⟨_, rfl⟩
            rw [hq] at hnew ⊢
            have bD7 := Lib.hid hnew
            generalize w9.alloc (.cells #[.string tk, .slice ad ma cd] 25) = V7 at *
            clear hal hq hnew hXm HBm HB6 x0 x1 y0 y1 bA6 bAm bB6 bBm bC6 bCm HAB
            obtain ⟨x0, x1, -⟩ := bB7.out.cs
            obtain ⟨y0, y1, -⟩ := bA7.out.cs
            go_upto_region 6 with (go_at_call 25; (with_reducible refine (HBA.out _ HB7.out _ _ _ _ _ _ bB7.out.cls bA7.out.cls).mono ?_); rintro e9 w9 ⟨ae, ce, rfl, hX, hb9⟩; have bAm := Lib.hid (bA7.out.kept hb9); have bBm := Lib.hid (bB7.out.kept hb9); have bCm := Lib.hid (bC7.out.kept hb9); have bDm := Lib.hid (bD7.out.kept hb9); have HBm := Lib.hid (HB7.out.trans (hb9.mono HB7.out.size)); have hXm := Lib.hid hX; clear hb9 hX)
            have hal := alloc_below w9 (.cells #[.string tk, .slice ae ma ce] 25)
            have bA8 := Lib.hid (bAm.out.kept hal)
            have bB8 := Lib.hid (bBm.out.kept hal)
            have bC8 := Lib.hid (bCm.out.kept hal)
            have bD8 := Lib.hid (bDm.out.kept hal)
            have HB8 := Lib.hid (HBm.out.trans (hal.mono HBm.out.size))
            have hnew : RowBox (w9.alloc (.cells #[.string tk, .slice ae ma ce] 25)) w9.heap.size tk ae ma ce AB := ⟨heap_alloc_new w9 (.cells #[.string tk, .slice ae ma ce] 25), hXm.out.below hal⟩
            obtain ⟨qe, hq⟩ : ∃ q, w9.heap.size = q := ⟨_, rfl⟩
            rw [hq] at hnew ⊢
            have bE8 := Lib.hid hnew
            generalize w9.alloc (.cells #[.string tk, .slice ae ma ce] 25) = V8 at *
            clear hal hq hnew hXm HBm HB7 x0 x1 y0 y1 bA7 bAm bB7 bBm bC7 bCm bD7 bDm HBA
            obtain ⟨x0, x1, -⟩ := bB8.out.cs
            obtain ⟨y0, y1, -⟩ := bC8.out.cs
            go_upto_region 7 with (go_at_call 25; (with_reducible refine (HBC.out _ HB8.out _ _ _ _ _ _ bB8.out.cls bC8.out.cls).mono ?_); rintro e9 w9 ⟨af, cf, rfl, hX, hb9⟩; have bAm := Lib.hid (bA8.out.kept hb9); have bBm := Lib.hid (bB8.out.kept hb9); have bCm := Lib.hid (bC8.out.kept hb9); have bDm := Lib.hid (bD8.out.kept hb9); have bEm := Lib.hid (bE8.out.kept hb9); have HBm := Lib.hid (HB8.out.trans (hb9.mono HB8.out.size)); have hXm := Lib.hid hX; clear hb9 hX)
            have hal := alloc_below w9 (.cells #[.string tk, .slice af ma cf] 25)
            have bA9 := Lib.hid (bAm.out.kept hal)
            have bB9 := Lib.hid (bBm.out.kept hal)
            have bC9 := Lib.hid (bCm.out.kept hal)
            have bD9 := Lib.hid (bDm.out.kept hal)
            have bE9 := Lib.hid (bEm.out.kept hal)
            have HB9 := Lib.hid (HBm.out.trans (hal.mono HBm.out.size))
            have hnew : RowBox (w9.alloc (.cells #[.string tk, .slice af ma cf] 25)) w9.heap.size tk af ma cf BC := ⟨heap_alloc_new w9 (.cells #[.string tk, .slice af ma cf] 25), hXm.out.below hal⟩
            obtain ⟨qf, hq⟩ : ∃ q, w9.heap.size = q := ⟨_, rfl⟩
            rw [hq] at hnew ⊢
            have bF9 := Lib.hid hnew
            generalize w9.alloc (.cells #[.string tk, .slice af ma cf] 25) = V9 at *
            clear hal hq hnew hXm HBm HB8 x0 x1 y0 y1 bA8 bAm bB8 bBm bC8 bCm bD8 bDm bE8 bEm HBC
            obtain ⟨x0, x1, -⟩ := bD9.out.cs
            obtain ⟨y0, y1, -⟩ := bC9.out.cs
            go_upto_region 8 with (go_at_call 25; (with_reducible refine (HX.out _ HB9.out _ _ _ _ _ _ bD9.out.cls bC9.out.cls).mono ?_); rintro e9 w9 ⟨ag, cg, rfl, hX, hb9⟩; have bAm := Lib.hid (bA9.out.kept hb9); have bBm := Lib.hid (bB9.out.kept hb9); have bCm := Lib.hid (bC9.out.kept hb9); have bDm := Lib.hid (bD9.out.kept hb9); have bEm := Lib.hid (bE9.out.kept hb9); have bFm := Lib.hid (bF9.out.kept hb9); have HBm := Lib.hid (HB9.out.trans (hb9.mono HB9.out.size)); have hXm := Lib.hid hX; clear hb9 hX)
            have hal := alloc_below w9 (.cells #[.string tk, .slice ag ma cg] 25)
            have bA10 := Lib.hid (bAm.out.kept hal)
            have bB10 := Lib.hid (bBm.out.kept hal)
            have bC10 := Lib.hid (bCm.out.kept hal)
            have bD10 := Lib.hid (bDm.out.kept hal)
            have bE10 := Lib.hid (bEm.out.kept hal)
            have bF10 := Lib.hid (bFm.out.kept hal)
            have HB10 := Lib.hid (HBm.out.trans (hal.mono HBm.out.size))
            have hnew : RowBox (w9.alloc (.cells #[.string tk, .slice ag ma cg] 25)) w9.heap.size tk ag ma cg X := ⟨heap_alloc_new w9 (.cells #[.string tk, .slice ag ma cg] 25), hXm.out.below hal⟩
            obtain ⟨qg, hq⟩ : ∃ q, w9.heap.size = q := ⟨_, rfl⟩
            rw [hq] at hnew ⊢
            have bG10 := Lib.hid hnew
            generalize w9.alloc (.cells #[.string tk, .slice ag ma cg] 25) = V10 at *
            clear hal hq hnew hXm HBm HB9 x0 x1 y0 y1 bA9 bAm bB9 bBm bC9 bCm bD9 bDm bE9 bEm bF9 bFm HX
            obtain ⟨x0, x1, -⟩ := bA10.out.cs
            obtain ⟨y0, y1, -⟩ := bF10.out.cs
            go_upto_region 9 with (go_at_call 25; (with_reducible refine (HY.out _ HB10.out _ _ _ _ _ _ bA10.out.cls bF10.out.cls).mono ?_); rintro e9 w9 ⟨ah, ch, rfl, hX, hb9⟩; have bAm := Lib.hid (bA10.out.kept hb9); have bBm := Lib.hid (bB10.out.kept hb9); have bCm := Lib.hid (bC10.out.kept hb9); have bDm := Lib.hid (bD10.out.kept hb9); have bEm := Lib.hid (bE10.out.kept hb9); have bFm := Lib.hid (bF10.out.kept hb9); have bGm := Lib.hid (bG10.out.kept hb9); have HBm := Lib.hid (HB10.out.trans (hb9.mono HB10.out.size)); have hXm := Lib.hid hX; clear hb9 hX)
            have hal := alloc_below w9 (.cells #[.string tk, .slice ah ma ch] 25)
            have bA11 := Lib.hid (bAm.out.kept hal)
            have bB11 := Lib.hid (bBm.out.kept hal)
            have bC11 := Lib.hid (bCm.out.kept hal)
            have bD11 := Lib.hid (bDm.out.kept hal)
            have bE11 := Lib.hid (bEm.out.kept hal)
            have bF11 := Lib.hid (bFm.out.kept hal)
            have bG11 := Lib.hid (bGm.out.kept hal)
            have HB11 := Lib.hid (HBm.out.trans (hal.mono HBm.out.size))
            have hnew : RowBox (w9.alloc (.cells #[.string tk, .slice ah ma ch] 25)) w9.heap.size tk ah ma ch X := ⟨heap_alloc_new w9 (.cells #[.string tk, .slice ah ma ch] 25), hXm.out.below hal⟩
            obtain ⟨qh, hq⟩ : ∃ q, w9.heap.size = q := ⟨_, rfl⟩
            rw [hq] at hnew ⊢
            have bH11 := Lib.hid hnew
            generalize w9.alloc (.cells #[.string tk, .slice ah ma ch] 25) = V11 at *
            clear hal hq hnew hXm HBm HB10 x0 x1 y0 y1 bA10 bAm bB10 bBm bC10 bCm bD10 bDm bE10 bEm bF10 bFm bG10 bGm HY
            obtain ⟨x0, x1, -⟩ := bA11.out.cs
            go_upto_region 10 with (go_at_call 25; (with_reducible refine (HAA.out _ HB11.out _ _ _ _ _ _ bA11.out.cls bA11.out.cls).mono ?_); rintro e9 w9 ⟨ai, ci, rfl, hX, hb9⟩; have bAm := Lib.hid (bA11.out.kept hb9); have bBm := Lib.hid (bB11.out.kept hb9); have bCm := Lib.hid (bC11.out.kept hb9); have bDm := Lib.hid (bD11.out.kept hb9); have bEm := Lib.hid (bE11.out.kept hb9); have bFm := Lib.hid (bF11.out.kept hb9); have bGm := Lib.hid (bG11.out.kept hb9); have bHm := Lib.hid (bH11.out.kept hb9); have HBm := Lib.hid (HB11.out.trans (hb9.mono HB11.out.size)); have hXm := Lib.hid hX; clear hb9 hX)
            have hal := alloc_below w9 (.cells #[.string tk, .slice ai ma ci] 25)
            have bA12 := Lib.hid (bAm.out.kept hal)
            have bB12 := Lib.hid (bBm.out.kept hal)
            have bC12 := Lib.hid (bCm.out.kept hal)
            have bD12 := Lib.hid (bDm.out.kept hal)
            have bE12 := Lib.hid (bEm.out.kept hal)
            have bF12 := Lib.hid (bFm.out.kept hal)
            have bG12 := Lib.hid (bGm.out.kept hal)
            have bH12 := Lib.hid (bHm.out.kept hal)
            have HB12 := Lib.hid (HBm.out.trans (hal.mono HBm.out.size))
            have hnew : RowBox (w9.alloc (.cells #[.string tk, .slice ai ma ci] 25)) w9.heap.size tk ai ma ci ca := ⟨heap_alloc_new w9 (.cells #[.string tk, .slice ai ma ci] 25), hXm.out.below hal⟩
            obtain ⟨qi, hq⟩ : ∃ q, w9.heap.size = q := ⟨_, rfl⟩
            rw [hq] at hnew ⊢
            have bI12 := Lib.hid hnew
            generalize w9.alloc (.cells #[.string tk, .slice ai ma ci] 25) = V12 at *
            clear hal hq hnew hXm HBm HB11 x0 x1 bA11 bAm bB11 bBm bC11 bCm bD11 bDm bE11 bEm bF11 bFm bG11 bGm bH11 bHm HAA
            have HS1 := Lib.hid (rrowsame_c bD12.out.cls bE12.out.cls tk)
            have HS2 := Lib.hid (fun W (h : Below V12.heap.size V12 W) => rrowsame_c (bG12.out.cls.below h) (bH12.out.cls.below h) tk)
            have HS3 := Lib.hid (fun W (h : Below V12.heap.size V12 W) => rrowsame_c (bI12.out.cls.below h) (bA12.out.cls.below h) tk)
            have HFX := Lib.hid (fun W (h : Below V12.heap.size V12 W) => And.intro (bG12.out.kept h).cs (And.intro (bH12.out.kept h).cs (And.intro (bI12.out.kept h).cs (bA12.out.kept h).cs)))
            obtain ⟨x0, x1, -⟩ := bD12.out.cs
            obtain ⟨y0, y1, -⟩ := bE12.out.cs
            go_wp2_with (first
              | (go_at_call 16; (with_reducible refine HS1.out.mono ?_); rintro e9 wa ⟨rfl, hba⟩; have HBa := Lib.hid hba; clear hba; obtain ⟨⟨g0, g1, -⟩, ⟨h0, h1, -⟩, ⟨i0, i1, -⟩, k0, k1, -⟩ := HFX.out _ HBa.out)
              | (go_at_call 16; (with_reducible refine (HS2.out _ HBa.out).mono ?_); rintro e9 wb ⟨rfl, hbb⟩; have HBb := Lib.hid (HBa.out.trans (hbb.mono HBa.out.size)); clear hbb g0 g1 h0 h1 i0 i1 k0 k1; obtain ⟨⟨g0, g1, -⟩, ⟨h0, h1, -⟩, ⟨i0, i1, -⟩, k0, k1, -⟩ := HFX.out _ HBb.out)
              | (go_at_call 16; (with_reducible refine (HS3.out _ HBb.out).mono ?_); rintro e9 wc ⟨rfl, hbc⟩; have HBc := Lib.hid (HBb.out.trans (hbc.mono HBb.out.size)); clear hbc g0 g1 h0 h1 i0 i1 k0 k1; obtain ⟨⟨g0, g1, -⟩, ⟨h0, h1, -⟩, ⟨i0, i1, -⟩, k0, k1, -⟩ := HFX.out _ HBc.out)
              | (go_at_call 14; (with_reducible refine (HG.out _ (HB12.out.trans (HBc.out.mono HB12.out.size)) _ _ _ (bG12.out.cls.below HBc.out)).mono ?_); rintro e9 wd ⟨rfl, hbd⟩; have HBd := Lib.hid ((HB12.out.trans (HBc.out.mono HB12.out.size)).trans (hbd.mono (Nat.le_trans HB12.out.size HBc.out.size))); clear hbd)
              | (go_at_call 9; (with_reducible refine (HLv.out _ HBd.out).mono ?_); rintro e9 we ⟨rfl, hbe⟩; have HBz := Lib.hid (HBd.out.trans (hbe.mono HBd.out.size)); clear hbe))
            go_ret
            exact ⟨rfl, HBz.out⟩
          · have hnC : (RC != 0) = true := by simpa using hC
            go_wp2_with (first
              | (go_at_call 8; (with_reducible refine HLC.out.mono ?_); rintro e9 w9 ⟨rfl, hb9⟩; have bA3 := Lib.hid (bA2.out.kept hb9); have bB3 := Lib.hid (bB2.out.kept hb9); have bC3 := Lib.hid (bC2.out.kept hb9); have HB3 := Lib.hid (HB2.out.trans (hb9.mono HB2.out.size)); clear hb9 x0 x1 y0 y1 z0 z1; obtain ⟨x0, x1, -⟩ := bA3.out.cs; obtain ⟨y0, y1, -⟩ := bB3.out.cs; obtain ⟨z0, z1, -⟩ := bC3.out.cs)
              | (go_at_call 14; (with_reducible refine (HGA.out _ HB3.out).mono ?_); rintro e9 w9 ⟨rfl, hb9⟩; have bA4 := Lib.hid (bA3.out.kept hb9); have bB4 := Lib.hid (bB3.out.kept hb9); have bC4 := Lib.hid (bC3.out.kept hb9); have HB4 := Lib.hid (HB3.out.trans (hb9.mono HB3.out.size)); clear hb9 x0 x1 y0 y1 z0 z1; obtain ⟨x0, x1, -⟩ := bA4.out.cs; obtain ⟨y0, y1, -⟩ := bB4.out.cs; obtain ⟨z0, z1, -⟩ := bC4.out.cs)
              | (go_at_call 14; (with_reducible refine (HGB.out _ HB4.out).mono ?_); rintro e9 w9 ⟨rfl, hb9⟩; have bA5 := Lib.hid (bA4.out.kept hb9); have bB5 := Lib.hid (bB4.out.kept hb9); have bC5 := Lib.hid (bC4.out.kept hb9); have HB5 := Lib.hid (HB4.out.trans (hb9.mono HB4.out.size)); clear hb9 x0 x1 y0 y1 z0 z1; obtain ⟨x0, x1, -⟩ := bA5.out.cs; obtain ⟨y0, y1, -⟩ := bB5.out.cs; obtain ⟨z0, z1, -⟩ := bC5.out.cs)
              | (go_at_call 14; (with_reducible refine (HGC.out _ HB5.out).mono ?_); rintro e9 w9 ⟨rfl, hb9⟩; have bA6 := Lib.hid (bA5.out.kept hb9); have bB6 := Lib.hid (bB5.out.kept hb9); have bC6 := Lib.hid (bC5.out.kept hb9); have HB6 := Lib.hid (HB5.out.trans (hb9.mono HB5.out.size)); clear hb9 x0 x1 y0 y1 z0 z1; obtain ⟨x0, x1, -⟩ := bA6.out.cs; obtain ⟨y0, y1, -⟩ := bB6.out.cs; obtain ⟨z0, z1, -⟩ := bC6.out.cs)
              | (go_at_call 9; (with_reducible refine (HLv.out _ HB6.out).mono ?_); rintro e9 w8 ⟨rfl, hb9⟩; have HBz := Lib.hid (HB6.out.trans (hb9.mono HB6.out.size)); clear hb9))
            go_ret
            exact ⟨rfl, HBz.out⟩
        · have hnB : (RB != 0) = true := by simpa using hB
          go_wp2_with (first
            | (go_at_call 8; (with_reducible refine HLC.out.mono ?_); rintro e9 w9 ⟨rfl, hb9⟩; have bA3 := Lib.hid (bA2.out.kept hb9); have bB3 := Lib.hid (bB2.out.kept hb9); have bC3 := Lib.hid (bC2.out.kept hb9); have HB3 := Lib.hid (HB2.out.trans (hb9.mono HB2.out.size)); clear hb9 x0 x1 y0 y1 z0 z1; obtain ⟨x0, x1, -⟩ := bA3.out.cs; obtain ⟨y0, y1, -⟩ := bB3.out.cs; obtain ⟨z0, z1, -⟩ := bC3.out.cs)
            | (go_at_call 14; (with_reducible refine (HGA.out _ HB3.out).mono ?_); rintro e9 w9 ⟨rfl, hb9⟩; have bA4 := Lib.hid (bA3.out.kept hb9); have bB4 := Lib.hid (bB3.out.kept hb9); have bC4 := Lib.hid (bC3.out.kept hb9); have HB4 := Lib.hid (HB3.out.trans (hb9.mono HB3.out.size)); clear hb9 x0 x1 y0 y1 z0 z1; obtain ⟨x0, x1, -⟩ := bA4.out.cs; obtain ⟨y0, y1, -⟩ := bB4.out.cs; obtain ⟨z0, z1, -⟩ := bC4.out.cs)
            | (go_at_call 14; (with_reducible refine (HGB.out _ HB4.out).mono ?_); rintro e9 w9 ⟨rfl, hb9⟩; have bA5 := Lib.hid (bA4.out.kept hb9); have bB5 := Lib.hid (bB4.out.kept hb9); have bC5 := Lib.hid (bC4.out.kept hb9); have HB5 := Lib.hid (HB4.out.trans (hb9.mono HB4.out.size)); clear hb9 x0 x1 y0 y1 z0 z1; obtain ⟨x0, x1, -⟩ := bA5.out.cs; obtain ⟨y0, y1, -⟩ := bB5.out.cs; obtain ⟨z0, z1, -⟩ := bC5.out.cs)
            | (go_at_call 9; (with_reducible refine (HLv.out _ HB5.out).mono ?_); rintro e9 w8 ⟨rfl, hb9⟩; have HBz := Lib.hid (HB5.out.trans (hb9.mono HB5.out.size)); clear hb9))
          go_ret
          exact ⟨rfl, HBz.out⟩
      · have hnA : (RA != 0) = true := by simpa using hA
        go_wp2_with (first
          | (go_at_call 8; (with_reducible refine HLC.out.mono ?_); rintro e9 w9 ⟨rfl, hb9⟩; have bA3 := Lib.hid (bA2.out.kept hb9); have bB3 := Lib.hid (bB2.out.kept hb9); have bC3 := Lib.hid (bC2.out.kept hb9); have HB3 := Lib.hid (HB2.out.trans (hb9.mono HB2.out.size)); clear hb9 x0 x1 y0 y1 z0 z1; obtain ⟨x0, x1, -⟩ := bA3.out.cs; obtain ⟨y0, y1, -⟩ := bB3.out.cs; obtain ⟨z0, z1, -⟩ := bC3.out.cs)
          | (go_at_call 14; (with_reducible refine (HGA.out _ HB3.out).mono ?_); rintro e9 w9 ⟨rfl, hb9⟩; have bA4 := Lib.hid (bA3.out.kept hb9); have bB4 := Lib.hid (bB3.out.kept hb9); have bC4 := Lib.hid (bC3.out.kept hb9); have HB4 := Lib.hid (HB3.out.trans (hb9.mono HB3.out.size)); clear hb9 x0 x1 y0 y1 z0 z1; obtain ⟨x0, x1, -⟩ := bA4.out.cs; obtain ⟨y0, y1, -⟩ := bB4.out.cs; obtain ⟨z0, z1, -⟩ := bC4.out.cs)
          | (go_at_call 9; (with_reducible refine (HLv.out _ HB4.out).mono ?_); rintro e9 w8 ⟨rfl, hb9⟩; have HBz := Lib.hid (HB4.out.trans (hb9.mono HB4.out.size)); clear hb9))
        go_ret
        exact ⟨rfl, HBz.out⟩

end Go.Proofs.YtkjpmdpljdgcjaaDoor
end

section
/-
  Row: three lists of cells that came in.
-/
namespace Go.Proofs.YtkjpmdpljdgcjaaDoor
open Go.RowKit Go Go.Sort Go.Deep
set_option linter.unusedVariables false
set_option maxRecDepth 20000

theorem open_three {H : Type} {enc : TypeId × Value → H} {W : World} {base : Nat} {v : Value} {x : DataW H} {p : List MemPlace} (hv : Value.okWide Tryd.prog W .any base 66 v)
    (h : DataW.Trod enc Tryd.prog W 0 (fun _ => true) true 66 v x p) : ∃ (a1 : Option Addr) (m1 c1 : Nat) (l1 : List Cl) (a2 : Option Addr) (m2 c2 : Nat) (l2 : List Cl) (a3 : Option Addr) (m3 c3 : Nat) (l3 : List Cl),
      v = .agg #[.slice a1 m1 c1, .slice a2 m2 c2, .slice a3 m3 c3] ∧ Cls W a1 m1 c1 l1 ∧ (∀ c ∈ l1, c.t.length ≤ 9223372036854775807) ∧ Cls W a2 m2 c2 l2 ∧ (∀ c ∈ l2, c.t.length ≤ 9223372036854775807) ∧ Cls W a3 m3 c3 l3 ∧ ∀ c ∈ l3, c.t.length ≤ 9223372036854775807 := by
  have hct : Tryd.prog.cellsOf 66 = 3 := by kernel_rfl
  have hce : Tryd.prog.cellsOf 23 = 1 := by kernel_rfl
  simp only [Value.okWide, Tryd.underlying66] at hv
  obtain ⟨cs, rfl, hs, _⟩ := hv
  obtain ⟨fuel, hm⟩ := h
  obtain ⟨xs, m, _, _, hl, hlen, hf⟩ := DataW.trod_array Tryd.underlying66 hm
  rw [hct] at hl
  have one : ∀ (c : Value) (y : DataW H × List MemPlace), DataW.trod enc Tryd.prog W 0 (fun _ => true) true m 23 [c] = some y → ∃ (a : Option Addr) (len cap : Nat) (l : List Cl), c = .slice a len cap ∧ Cls W a len cap l ∧ ∀ c ∈ l, c.t.length ≤ 9223372036854775807 := by
    intro c y hy
    have hv : ∃ a len cap, c = .slice a len cap := by
      rcases open_slice Tryd.underlying23 hy with ⟨hcs, hx⟩ | ⟨x, l, c, m, n, D, Pl, hcs, _⟩
      · simp at hcs; exact ⟨_, _, _, hcs⟩
      · simp at hcs; exact ⟨_, _, _, hcs⟩
    obtain ⟨a, len, cap, rfl⟩ := hv
    obtain ⟨l, h1, h2⟩ := open_cls (d := y.1) (p := y.2) (W := W) (enc := enc) (a := a) (len := len) (cap := cap) ⟨m, hy⟩
    exact ⟨a, len, cap, l, rfl, h1, h2⟩
  replace hl : cs.toList.length = 3 := hl
  replace hf : ∀ (i : Nat), i < 3 → DataW.trod enc Tryd.prog W 0 (fun _ => true) true m 23 ((cs.toList.drop (i * Tryd.prog.cellsOf 23)).take (Tryd.prog.cellsOf 23)) = xs[i]? := hf
  obtain ⟨c0, c1, c2, hcs⟩ : ∃ c0 c1 c2, cs.toList = [c0, c1, c2] := by
    match hh : cs.toList, hl with
    | [c0, c1, c2], _ => exact ⟨c0, c1, c2, rfl⟩
  rw [hcs] at hf
  match xs, hlen with
  | [y0, y1, y2], _ =>
    have i0 := hf 0 (by omega)
    have i1 := hf 1 (by omega)
    have i2 := hf 2 (by omega)
    rw [hce] at i0 i1 i2
    obtain ⟨a1, m1, p1, l1, rfl, e1, f1⟩ := one c0 y0 i0
    obtain ⟨a2, m2, p2, l2, rfl, e2, f2⟩ := one c1 y1 i1
    obtain ⟨a3, m3, p3, l3, rfl, e3, f3⟩ := one c2 y2 i2
    refine ⟨a1, m1, p1, l1, a2, m2, p2, l2, a3, m3, p3, l3, ?_, e1, f1, e2, f2, e3, f3⟩
    congr 1
    apply Array.toList_inj.1
    exact hcs
end Go.Proofs.YtkjpmdpljdgcjaaDoor
end

