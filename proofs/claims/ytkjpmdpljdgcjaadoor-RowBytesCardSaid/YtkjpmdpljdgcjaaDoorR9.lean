/-
  Merged: DJ YP JO MV MW MX MY MZ N1 N3 N6 N7 N8 N9 B1.
-/
import Derived.Test.YtkjpmdpljdgcjaaDoorDF
import Derived.Test.YtkjpmdpljdgcjaaDoorR0
import Derived.Test.YtkjpmdpljdgcjaaDoorQ0
import Derived.Test.YtkjpmdpljdgcjaaDoorBO
import Derived.WideShapes
import Derived.ChangeSame
import Derived.OpenShut
import Derived.Deep.Slices
import Derived.ChangeArms
import Derived.Test.YtkjpmdpljdgcjaaDoorR4
import Derived.Laws.CopyOwn
import Derived.Test.YtkjpmdpljdgcjaaDoorR2
import Derived.Test.YtkjpmdpljdgcjaaDoorR3

section
/-
  A REGION THAT DRAWS ITS ORDER, by an invariant over which operations have been: for regions whose stores and loads may come in any order. No program is named here.
-/
namespace Go.Proofs.YtkjpmdpljdgcjaaDoor
open Go Go.RowKit
set_option linter.unusedVariables false

section
variable {P : Program} {ops : Array Oper} {md : Region.Mode}

/-- How one operation ends: the invariant holds with it. -/
def InvEnd (Inv : (Nat → Bool) → (Nat → Value) → World → Prop) (a : Act) (o : Oper) (i : Nat) (L : Nat → Bool) (xs : Nat → Value) (e : Exit) (a' : Act) (w' : World) : Prop :=
  e = .normal ∧ ∃ v, a' = a.put o.dst v ∧ Inv (fun j => if j = i then true else L j) (fun j => if j = i then v else xs j) w'

theorem wpAny_inv {Q : Exit → Act → World → Prop} (act : (Nat → Value) → Act) (Inv : (Nat → Bool) → (Nat → Value) → World → Prop)
    (hwf : ∀ i o, ops[i]? = some o → ∀ e ∈ o.after, Region.binds md e = true → e.on < i)
    (hput : ∀ i o xs v, ops[i]? = some o → (act xs).put o.dst v = act (fun j => if j = i then v else xs j))
    (hop : ∀ i o, ops[i]? = some o → ∀ L xs w, Inv L xs w → L i = false → (∀ e ∈ o.after, Region.binds md e = true → L e.on = true) → wpList P ops (InvEnd Inv (act xs) o i L xs) [o] (act xs) w)
    (hend : ∀ L xs w, Inv L xs w → (∀ i, i < ops.size → L i = true) → Q .normal (act xs) w) :
    ∀ (f : Nat) (listed : Array Bool) (xs : Nat → Value) (w : World), Inv (fun i => listed.getD i true) xs w → listed.size = ops.size → listed.toList.count false ≤ f → wpAny P md ops Q f listed (act xs) w := by
  have hnone : ∀ (listed : Array Bool), listed.size = ops.size → Region.ready md ops listed = [] → ∀ i, i < ops.size → listed.getD i true = true := by
    intro listed hs hr i
    induction i using Nat.strongRecOn with
    | _ i ih =>
      intro hi
      cases hl : listed.getD i true with
      | true => rfl
      | false =>
        have : i ∈ Region.ready md ops listed := by
          refine mem_ready.2 ⟨hl, ops[i], by simp [hi], fun e he hb => ?_⟩
          have hlt := hwf i ops[i] (by simp [hi]) e he hb
          have h1 := ih e.on hlt (by omega)
          have h2 : e.on < listed.size := by omega
          simp only [Array.getD_eq_getD_getElem?, Array.getElem?_eq_getElem h2, Option.getD_some] at h1 ⊢
          exact h1
        rw [hr] at this
        cases this
  intro f
  induction f with
  | zero =>
    intro listed xs w hI hs hc
    have hall : ∀ i, i < ops.size → listed.getD i true = true := by
      intro i hi
      cases hl : listed.getD i true with
      | true => rfl
      | false =>
        have h2 : i < listed.size := by omega
        have h3 : listed[i] = false := by simpa [Array.getD_eq_getD_getElem?, Array.getElem?_eq_getElem h2] using hl
        have : false ∈ listed.toList := by rw [← h3]; simp
        have := List.count_pos_iff.2 this
        omega
    refine ⟨?_, hend _ xs w hI hall⟩
    cases hr : Region.ready md ops listed with
    | nil => rfl
    | cons i r =>
      have hm : i ∈ Region.ready md ops listed := by rw [hr]; simp
      obtain ⟨hun, o, ho, _⟩ := mem_ready.1 hm
      have := hall i (Array.getElem?_eq_some_iff.1 ho).1
      rw [hun] at this
      cases this
  | succ f ih =>
    intro listed xs w hI hs hc
    refine ⟨fun hr => hend _ xs w hI (hnone listed hs hr), fun i hi => ?_⟩
    obtain ⟨hun, o, ho, hall⟩ := mem_ready.1 hi
    have hilt := (Array.getElem?_eq_some_iff.1 ho).1
    have h2 : i < listed.size := by omega
    refine wpOp_of_one ho (fun a' w' h => ?_) (fun e a' w' h => h.1) (hop i o ho _ xs w hI hun fun e he hb => ?_)
    · obtain ⟨_, v, rfl, hI'⟩ := h
      rw [hput i o xs v ho]
      refine ih _ _ w' ?_ (by simpa using hs) ?_
      · have hfe : (fun j => (listed.setIfInBounds i true).getD j true) = (fun j => if j = i then true else listed.getD j true) := by
          funext j
          by_cases hji : j = i
          · subst hji
            simp [Array.getD_eq_getD_getElem?, h2]
          · rw [getD_set_ne true (Ne.symm hji), if_neg hji]
        rw [hfe]
        exact hI'
      · have h3 : listed[i] = false := by simpa [Array.getD_eq_getD_getElem?, Array.getElem?_eq_getElem h2] using hun
        have := count_set_lt listed.toList i (by simp [h2, h3])
        rw [Array.toList_setIfInBounds]
        omega
    · have h1 := hall e he hb
      have h3 : e.on < listed.size := by have := hwf i o ho e he hb; omega
      simp only [Array.getD_eq_getD_getElem?, Array.getElem?_eq_getElem h3, Option.getD_some] at h1 ⊢
      exact h1

def invNeeds (md : Region.Mode) (L : Nat → Bool) : List Edge → Prop
  | [] => True
  | e :: l => (Region.binds md e = true → L e.on = true) ∧ invNeeds md L l
theorem invNeeds_of {L : Nat → Bool} : ∀ (l : List Edge), (∀ e ∈ l, Region.binds md e = true → L e.on = true) → invNeeds md L l
  | [], _ => trivial
  | e :: l, h => ⟨h e (by simp), invNeeds_of l fun e' he => h e' (by simp [he])⟩
def invOps (P : Program) (md : Region.Mode) (ops : Array Oper) (a : Act) (srcs : List (Option Nat)) (Inv : (Nat → Bool) → (Nat → Value) → World → Prop) : List Oper → Nat → Prop
  | [], _ => True
  | o :: l, k => (∀ L xs w, Inv L xs w → L k = false → invNeeds md L o.after.toList → wpList P ops (InvEnd Inv (flowAct a srcs xs) o k L xs) [o] (flowAct a srcs xs) w) ∧ invOps P md ops a srcs Inv l (k + 1)
theorem invOps_get {a : Act} {srcs : List (Option Nat)} {Inv : (Nat → Bool) → (Nat → Value) → World → Prop} : ∀ (l : List Oper) (k : Nat), invOps P md ops a srcs Inv l k → ∀ i o, l[i]? = some o →
    ∀ L xs w, Inv L xs w → L (k + i) = false → invNeeds md L o.after.toList → wpList P ops (InvEnd Inv (flowAct a srcs xs) o (k + i) L xs) [o] (flowAct a srcs xs) w
  | [], _, _, i, o, h => by simp at h
  | o' :: l, k, hh, 0, o, h => by
    obtain rfl : o' = o := by simpa using h
    exact hh.1
  | o' :: l, k, hh, i + 1, o, h => by
    have := invOps_get l (k + 1) hh.2 i o (by simpa using h)
    rwa [show k + 1 + i = k + (i + 1) by omega] at this
theorem wp_region_inv {id : Nat} {Q : Exit → Act → World → Prop} {l : List Oper} {a : Act} {w : World} (srcs : List (Option Nat)) (xs0 : Nat → Value) (Inv : (Nat → Bool) → (Nat → Value) → World → Prop) (hm : P.follows .mixedOrders = true)
    (hB : flowB .any l.toArray srcs = true) (hl : a.tmps.size = srcs.length) (h0 : flowAct a srcs xs0 = a)
    (hI0 : ∀ L, (∀ i, i < l.length → L i = false) → Inv L xs0 { w with drawn := w.drawn + 1 })
    (hops : invOps P .any l.toArray a srcs Inv l 0)
    (hend : ∀ L xs w', Inv L xs w' → (∀ i, i < l.length → L i = true) → Q .normal (flowAct a srcs xs) w') : (Code.region id l.toArray true).wp P Q a w := by
  refine wp_region_any hm ?_
  have := wpAny_inv (P := P) (ops := l.toArray) (md := .any) (Q := Q) (flowAct a srcs) Inv
    (fun i o ho => (flowB_spec hB ho).1) (fun i o xs v ho => flowAct_put hB hl ho xs v)
    (fun i o ho L xs x hI hL hn => by
      have := invOps_get l 0 hops i o (by simpa using ho) L xs x hI (by rwa [Nat.zero_add]) (invNeeds_of _ fun e he hb => hn e (by simpa using he) hb)
      rwa [Nat.zero_add] at this)
    (fun L xs x hI hL => hend L xs x hI (fun i hi => hL i (by simpa using hi)))
    l.toArray.size (Array.replicate l.toArray.size false) xs0 { w with drawn := w.drawn + 1 } (hI0 _ fun i hi => by
      rw [Array.getD_eq_getD_getElem?, Array.getElem?_eq_getElem (by simpa using hi)]; simp) (by simp) (by simp)
  rwa [h0] at this
end
end Go.Proofs.YtkjpmdpljdgcjaaDoor
end

section
/-
  Lists of cells that came in.
-/
namespace Go.Proofs.YtkjpmdpljdgcjaaDoor
open Go.RowKit Go Go.Sort Go.Deep
set_option linter.unusedVariables false
set_option maxRecDepth 20000

theorem choose_at {α : Type} {n : Nat} {p : Nat → α → Prop} (h : ∀ i, i < n → ∃ q, p i q) : ∃ V : Nat → Option α, ∀ i, i < n → ∃ q, V i = some q ∧ p i q := by
  induction n with
  | zero => exact ⟨fun _ => none, fun i hi => by omega⟩
  | succ n ih =>
    obtain ⟨V, hV⟩ := ih fun i hi => h i (by omega)
    obtain ⟨q, hq⟩ := h n (by omega)
    refine ⟨fun i => if i = n then some q else V i, fun i hi => ?_⟩
    by_cases e : i = n
    · subst e; exact ⟨q, by simp, hq⟩
    · simp only [if_neg e]; exact hV i (by omega)
/-- A list of cells that came in. -/
theorem open_cls {H : Type} {enc : TypeId × Value → H} {W : World} {a : Option Addr} {len cap : Nat} {d : DataW H} {p : List MemPlace} (h : DataW.Trod enc Tryd.prog W 0 (fun _ => true) true 23 (.slice a len cap) d p) :
    ∃ l, Cls W a len cap l ∧ ∀ c ∈ l, c.t.length ≤ 9223372036854775807 := by
  have hc : Tryd.prog.cellsOf 50 = 8 := by kernel_rfl
  obtain ⟨fuel, hf⟩ := h
  rcases open_slice Tryd.underlying23 hf with ⟨hcs, hx⟩ | ⟨x, l, c, m, n, D, Pl, hcs, _, hl, hm, hmm, hx, hcell⟩
  · simp [Value.cells] at hcs
    obtain ⟨rfl, rfl, rfl⟩ := hcs
    exact ⟨[], ⟨rfl, Nat.le_refl _, by omega, .inl rfl⟩, by simp⟩
  · simp [Value.cells] at hcs
    obtain ⟨rfl, rfl, rfl⟩ := hcs
    simp only [if_true] at hmm
    subst hmm
    rw [hc] at hcell
    have key : ∀ i, i < m → ∃ q : Cl, (∀ j u, q.arr[j]? = some u → W.cell? ((x.add (i * 8)).add j) = some u) ∧ q.t.length ≤ 9223372036854775807 := by
      intro i hi
      obtain ⟨cs', h1, h2⟩ := hcell i hi
      obtain ⟨_, h3l, h3⟩ := World.cells?_some h1
      obtain ⟨n', s', a', b', g', t', d', e', rfl, _, _, _, _, ht, _, _⟩ := cell_cells (sp := true) h2
      refine ⟨⟨n', s', a', b', g', t', d', e'⟩, fun j u hj => ?_, by unfold maxLen at ht; exact ht⟩
      have hjl : j < 8 := by
        have := (Array.getElem?_eq_some_iff.1 hj).1
        simpa [Cl.arr] using this
      have h4 := h3 j hjl
      rw [h4]
      rw [← hj]
      simp [Cl.arr]
    obtain ⟨V0, hV0⟩ := choose_at key
    obtain ⟨V, hV⟩ : ∃ V : Nat → Cl, ∀ i, i < m → ((∀ j u, (V i).arr[j]? = some u → W.cell? ((x.add (i * 8)).add j) = some u) ∧ (V i).t.length ≤ 9223372036854775807) := by
      refine ⟨fun i => (V0 i).getD Cl.zero, fun i hi => ?_⟩
      obtain ⟨q, hq, hp⟩ := hV0 i hi
      simp only [hq, Option.getD_some]
      exact hp
    have hgd : ∀ i, i < len → ((List.range len).map V).getD i Cl.zero = V i := fun i hi => by simp [List.getD, hi]
    refine ⟨(List.range len).map V, ⟨by simp, hl, by unfold maxLen at hm; omega, ?_⟩, ?_⟩
    · by_cases hz : m = 0
      · exact .inl hz
      · right
        obtain ⟨b, off, spot⟩ := x
        have h0 := (hV 0 (by omega)).1 0 _ rfl
        have hspot : spot = none := by simpa [Addr.add] using World.cell?_spot h0
        subst hspot
        refine ⟨b, off, rfl, fun i hi => ?_⟩
        rw [hgd i hi]
        have hq := (hV i (by omega)).1
        have e1 : (⟨b, off, none⟩ : Addr).add (i * 8) = ⟨b, off + i * 8, none⟩ := by
          by_cases h0 : i * 8 = 0
          · rw [h0]; rfl
          · simp [Addr.add, h0]
        rw [e1] at hq
        exact ⟨hq 0 _ rfl, hq 1 _ rfl, hq 2 _ rfl, hq 3 _ rfl, hq 4 _ rfl, hq 5 _ rfl, hq 6 _ rfl, hq 7 _ rfl⟩
    · intro g hg
      obtain ⟨i, hi, rfl⟩ := List.mem_map.1 hg
      exact (hV i (by have := List.mem_range.1 hi; omega)).2
end Go.Proofs.YtkjpmdpljdgcjaaDoor
end

section
/-
  Groups that came in, in lists.
-/
namespace Go.Proofs.YtkjpmdpljdgcjaaDoor
open Go.RowKit Go Go.Sort Go.Deep
set_option linter.unusedVariables false
set_option maxRecDepth 20000

theorem text_of (s : ByteArray) : s = text s.data.toList := rfl
theorem grp_cells {H : Type} {enc : TypeId × Value → H} {W : World} {base : Nat} {sp held : Bool} {fuel : Nat} {cs : List Value} {x : DataW H × List MemPlace} (h : DataW.trod enc Tryd.prog W base (fun _ => sp) held fuel 87 cs = some x) :
    ∃ (s : List UInt8) (p : Int), cs = [.string (text s), .int .i64 p] ∧ s.length ≤ maxLen ∧ -9223372036854775808 ≤ p ∧ p ≤ 9223372036854775807 := by
  obtain ⟨xs, m, _, rfl, hl, hlen, hf⟩ := DataW.trod_struct Tryd.underlying87 h
  have h2 : Tryd.prog.cellsOf 87 = 2 := by kernel_rfl
  have h1 : Tryd.prog.cellsOf 3 = 1 := by kernel_rfl
  have h9 : Tryd.prog.cellsOf 9 = 1 := by kernel_rfl
  rw [h2] at hl
  match xs, hlen with
  | [y0, y1], _ =>
    have i0 := hf 0 _ rfl
    have i1 := hf 1 _ rfl
    match cs, hl with
    | [c0, c1], _ =>
      have j0 : DataW.trod enc Tryd.prog W base (fun _ => sp) held m 9 (([c0, c1].drop 0).take (Tryd.prog.cellsOf 9)) = some y0 := i0
      have j1 : DataW.trod enc Tryd.prog W base (fun _ => sp) held m 3 (([c0, c1].drop 1).take (Tryd.prog.cellsOf 3)) = some y1 := i1
      rw [h9] at j0
      rw [h1] at j1
      obtain ⟨s, hs, _, ws⟩ := DataW.trod_string Tryd.underlying9 j0
      obtain ⟨b, hb, _, wb⟩ := DataW.trod_int Tryd.underlying3 j1
      simp at hs hb
      subst hs
      subst hb
      exact ⟨s.data.toList, b, rfl, by simpa using ws, i64_of_wf wb⟩
/-- A list of groups that came in. -/
theorem open_grs {H : Type} {enc : TypeId × Value → H} {W : World} {a : Option Addr} {len cap : Nat} {d : DataW H} {p : List MemPlace} (h : DataW.Trod enc Tryd.prog W 0 (fun _ => true) true 22 (.slice a len cap) d p) :
    ∃ l, Grs W a len cap l ∧ ∀ g ∈ l, g.1.length ≤ 9223372036854775807 := by
  have hc : Tryd.prog.cellsOf 87 = 2 := by kernel_rfl
  obtain ⟨fuel, hf⟩ := h
  rcases open_slice Tryd.underlying22 hf with ⟨hcs, hx⟩ | ⟨x, l, c, m, n, D, Pl, hcs, _, hl, hm, hmm, hx, hcell⟩
  · simp [Value.cells] at hcs
    obtain ⟨rfl, rfl, rfl⟩ := hcs
    exact ⟨[], ⟨rfl, Nat.le_refl _, by omega, .inl rfl⟩, by simp⟩
  · simp [Value.cells] at hcs
    obtain ⟨rfl, rfl, rfl⟩ := hcs
    simp only [if_true] at hmm
    subst hmm
    rw [hc] at hcell
    have key : ∀ i, i < m → ∃ q : Grp, W.cell? (x.add (i * 2)) = some (.string (text q.1)) ∧ W.cell? ((x.add (i * 2)).add 1) = some (.int .i64 q.2) ∧ q.1.length ≤ 9223372036854775807 := by
      intro i hi
      obtain ⟨cs', h1, h2⟩ := hcell i hi
      obtain ⟨_, _, h3⟩ := World.cells?_some h1
      obtain ⟨u, v, rfl, hu, hv⟩ := grp_cells (sp := true) h2
      have k0 := h3 0 (by omega)
      have k1 := h3 1 (by omega)
      refine ⟨(u, v), ?_, ?_, by unfold maxLen at hu; exact hu⟩
      · simpa [Addr.add] using k0
      · simpa using k1
    obtain ⟨V, hV⟩ := choose_lt (α := Grp) (p := fun i q => W.cell? (x.add (i * 2)) = some (.string (text q.1)) ∧ W.cell? ((x.add (i * 2)).add 1) = some (.int .i64 q.2) ∧ q.1.length ≤ 9223372036854775807) key
    have hgd : ∀ i, i < len → ((List.range len).map V).getD i ([], 0) = V i := fun i hi => by simp [List.getD, hi]
    refine ⟨(List.range len).map V, ⟨by simp, hl, by unfold maxLen at hm; omega, ?_⟩, ?_⟩
    · by_cases hz : m = 0
      · exact .inl hz
      · right
        obtain ⟨b, off, spot⟩ := x
        have h0 := (hV 0 (by omega)).1
        have hspot : spot = none := by simpa [Addr.add] using World.cell?_spot h0
        subst hspot
        refine ⟨b, off, rfl, fun i hi => ?_⟩
        rw [hgd i hi]
        obtain ⟨q1, q2, _⟩ := hV i (by omega)
        have e1 : (⟨b, off, none⟩ : Addr).add (i * 2) = ⟨b, off + i * 2, none⟩ := by
          by_cases h0 : i * 2 = 0
          · rw [h0]; rfl
          · simp [Addr.add, h0]
        rw [e1] at q1 q2
        exact ⟨q1, q2⟩
    · intro g hg
      obtain ⟨i, hi, rfl⟩ := List.mem_map.1 hg
      exact (hV i (by have := List.mem_range.1 hi; omega)).2.2
end Go.Proofs.YtkjpmdpljdgcjaaDoor
end

section
/-
  Row: rows that came in.
-/
namespace Go.Proofs.YtkjpmdpljdgcjaaDoor
open Go.RowKit Go Go.Sort Go.Deep
set_option linter.unusedVariables false
set_option maxRecDepth 20000

theorem trod_row {H : Type} {enc : TypeId × Value → H} {W : World} {fuel : Nat} {cs : List Value} {x : DataW H × List MemPlace} (h : DataW.trod enc Tryd.prog W 0 (fun _ => true) true fuel 25 cs = some x) :
    ∃ (k : List UInt8) (a : Option Addr) (len cap : Nat) (l : List Cl), cs = [.string (text k), .slice a len cap] ∧ k.length ≤ maxLen ∧ Cls W a len cap l ∧ ∀ c ∈ l, c.t.length ≤ 9223372036854775807 := by
  obtain ⟨xs, m, _, rfl, hl, hlen, hf⟩ := DataW.trod_struct Tryd.underlying25 h
  have h2 : Tryd.prog.cellsOf 25 = 2 := by kernel_rfl
  have h9 : Tryd.prog.cellsOf 9 = 1 := by kernel_rfl
  have hc : Tryd.prog.cellsOf 23 = 1 := by kernel_rfl
  rw [h2] at hl
  match xs, hlen with
  | [y0, y1], _ =>
    have i0 := hf 0 _ rfl
    have i1 := hf 1 _ rfl
    match cs, hl with
    | [c0, c1], _ =>
      have j0 : DataW.trod enc Tryd.prog W 0 (fun _ => true) true m 9 (([c0, c1].drop 0).take (Tryd.prog.cellsOf 9)) = some y0 := i0
      have j1 : DataW.trod enc Tryd.prog W 0 (fun _ => true) true m 23 (([c0, c1].drop 1).take (Tryd.prog.cellsOf 23)) = some y1 := i1
      rw [h9] at j0
      rw [hc] at j1
      obtain ⟨s, hs, _, ws⟩ := DataW.trod_string Tryd.underlying9 j0
      simp at hs
      subst hs
      have hv : ∃ a len cap, c1 = .slice a len cap := by
        rcases open_slice Tryd.underlying23 j1 with ⟨hcs, hx⟩ | ⟨x, l, c, m, n, D, Pl, hcs, _⟩
        · simp at hcs; exact ⟨_, _, _, hcs⟩
        · simp at hcs; exact ⟨_, _, _, hcs⟩
      obtain ⟨a, len, cap, rfl⟩ := hv
      obtain ⟨l, h1, h2⟩ := open_cls (d := y1.1) (p := y1.2) (W := W) (enc := enc) (a := a) (len := len) (cap := cap) ⟨m, j1⟩
      exact ⟨s.data.toList, a, len, cap, l, rfl, by simpa using ws, h1, h2⟩
/-- A row that came in. -/
theorem open_row {H : Type} {enc : TypeId × Value → H} {W : World} {base : Nat} {v : Value} {x : DataW H} {p : List MemPlace} (hv : Value.okWide Tryd.prog W .any base 25 v)
    (h : DataW.Trod enc Tryd.prog W 0 (fun _ => true) true 25 v x p) : ∃ (k : List UInt8) (a : Option Addr) (len cap : Nat) (l : List Cl), v = .agg #[.string (text k), .slice a len cap] ∧ k.length ≤ 9223372036854775807 ∧ Cls W a len cap l ∧ ∀ c ∈ l, c.t.length ≤ 9223372036854775807 := by
  simp only [Value.okWide, Tryd.underlying25] at hv
  obtain ⟨cs, rfl, hs, _⟩ := hv
  obtain ⟨m, hm⟩ := h
  obtain ⟨k, a, len, cap, l, hc, h1, h2, h3⟩ := trod_row hm
  refine ⟨k, a, len, cap, l, ?_, by unfold maxLen at h1; exact h1, h2, h3⟩
  congr 1
  apply Array.toList_inj.1
  exact hc
theorem trod_two {H : Type} {enc : TypeId × Value → H} {W : World} {fuel : Nat} {cs : List Value} {x : DataW H × List MemPlace} (h : DataW.trod enc Tryd.prog W 0 (fun _ => true) true fuel 52 cs = some x) :
    ∃ (k : List UInt8) (ad : Option Addr) (len cap : Nat) (l : List Cl) (i : Int) (n s a b : Int) (g : Bool) (t : List UInt8) (d e : Int), cs = [.string (text k), .slice ad len cap, .int .i64 i, .int .i64 n, .int .i64 s, .int .i64 a, .int .i64 b, .bool g, .string (text t), .int .i64 d, .int .i64 e] ∧ k.length ≤ maxLen ∧ Cls W ad len cap l ∧ (∀ c ∈ l, c.t.length ≤ 9223372036854775807) ∧ t.length ≤ maxLen ∧ IsI64 i := by
  obtain ⟨xs, m, _, rfl, hl, hlen, hf⟩ := DataW.trod_struct Tryd.underlying52 h
  have h11 : Tryd.prog.cellsOf 52 = 11 := by kernel_rfl
  have h2 : Tryd.prog.cellsOf 25 = 2 := by kernel_rfl
  have h3 : Tryd.prog.cellsOf 3 = 1 := by kernel_rfl
  have h8 : Tryd.prog.cellsOf 50 = 8 := by kernel_rfl
  rw [h11] at hl
  match xs, hlen with
  | [y0, y1, y2], _ =>
    have i0 := hf 0 _ rfl
    have i1 := hf 1 _ rfl
    have i2 := hf 2 _ rfl
    match cs, hl with
    | [c0, c1, c2, c3, c4, c5, c6, c7, c8, c9, c10], _ =>
      have j0 : DataW.trod enc Tryd.prog W 0 (fun _ => true) true m 25 (([c0, c1, c2, c3, c4, c5, c6, c7, c8, c9, c10].drop 0).take (Tryd.prog.cellsOf 25)) = some y0 := i0
      have j1 : DataW.trod enc Tryd.prog W 0 (fun _ => true) true m 3 (([c0, c1, c2, c3, c4, c5, c6, c7, c8, c9, c10].drop 2).take (Tryd.prog.cellsOf 3)) = some y1 := i1
      have j2 : DataW.trod enc Tryd.prog W 0 (fun _ => true) true m 50 (([c0, c1, c2, c3, c4, c5, c6, c7, c8, c9, c10].drop 3).take (Tryd.prog.cellsOf 50)) = some y2 := i2
      rw [h2] at j0
      rw [h3] at j1
      rw [h8] at j2
      obtain ⟨k, ad, len, cap, l, e0, w1, w2, w3⟩ := trod_row j0
      obtain ⟨i, e1, _, wi⟩ := DataW.trod_int Tryd.underlying3 j1
      obtain ⟨n, s, a, b, g, t, d, e, e2, _, _, _, _, wt, _, _⟩ := cell_cells (sp := true) j2
      simp at e0 e1 e2
      obtain ⟨rfl, rfl⟩ := e0
      subst e1
      obtain ⟨rfl, rfl, rfl, rfl, rfl, rfl, rfl, rfl⟩ := e2
      exact ⟨k, ad, len, cap, l, i, n, s, a, b, g, t, d, e, rfl, w1, w2, w3, wt, i64_of_wf wi⟩
/-- A row with a cell that came in. -/
theorem open_two {H : Type} {enc : TypeId × Value → H} {W : World} {base : Nat} {v : Value} {x : DataW H} {p : List MemPlace} (hv : Value.okWide Tryd.prog W .any base 52 v)
    (h : DataW.Trod enc Tryd.prog W 0 (fun _ => true) true 52 v x p) : ∃ (k : List UInt8) (ad : Option Addr) (len cap : Nat) (l : List Cl) (i : Int) (n s a b : Int) (g : Bool) (t : List UInt8) (d e : Int), v = .agg #[.string (text k), .slice ad len cap, .int .i64 i, .int .i64 n, .int .i64 s, .int .i64 a, .int .i64 b, .bool g, .string (text t), .int .i64 d, .int .i64 e] ∧ k.length ≤ 9223372036854775807 ∧ Cls W ad len cap l ∧ (∀ c ∈ l, c.t.length ≤ 9223372036854775807) ∧ t.length ≤ 9223372036854775807 ∧ IsI64 i := by
  simp only [Value.okWide, Tryd.underlying52] at hv
  obtain ⟨cs, rfl, hs, _⟩ := hv
  obtain ⟨m, hm⟩ := h
  obtain ⟨k, ad, len, cap, l, i, n, s, a, b, g, t, d, e, hc, h1, h2, h3, h4, h5⟩ := trod_two hm
  refine ⟨k, ad, len, cap, l, i, n, s, a, b, g, t, d, e, ?_, by unfold maxLen at h1; exact h1, h2, h3, by unfold maxLen at h4; exact h4, h5⟩
  congr 1
  apply Array.toList_inj.1
  exact hc
end Go.Proofs.YtkjpmdpljdgcjaaDoor
end

section
/-
  Row: the program's copied.
-/
namespace Go.Proofs.YtkjpmdpljdgcjaaDoor
open Go.RowKit Go Go.Sort
set_option linter.unusedVariables false
set_option maxRecDepth 20000

theorem run_copy_wide (P : Program) (w : World) (dT sT ty elem : TypeId) (g dLen dCap : Nat) (sp : Option Addr) (sLen sCap sz : Nat) (cur : Array Value) (t : TypeId) (cs : List Value)
    (hu : P.underlying dT = some (.slice elem)) (hs : (P.info? elem).map (·.size) = some sz)
    (hg : w.heap[g]? = some (.cells cur t (0, 0))) (hn : cs.length = Nat.min sLen dLen * sz)
    (hsrc : cs = [] ∧ sLen = 0 ∨ ∃ a, sp = some a ∧ ∀ j v, cs[j]? = some v → w.cell? (a.add j) = some v) (hfit : cs.length ≤ cur.size) (h1 : ∀ v ∈ cs, v.oneCell' = true) :
    (Builtin.copy_ #[dT, sT] ty #[.slice (some ⟨g, 0, none⟩) dLen dCap, .slice sp sLen sCap]).run P w =
      .ok (goInt (Nat.min sLen dLen)) (w.setRow g (cs ++ cur.toList.drop cs.length).toArray) := by
  have hst := run_storeCells_at P g 0 t cs 0 cur w hg (by simpa using hfit) h1
  simp only [Nat.zero_add, List.take_zero, List.nil_append] at hst
  cases hq : P.info? elem with
  | none => simp [hq] at hs
  | some i =>
    have hi : i.size = sz := by simpa [hq] using hs
    rcases hsrc with ⟨rfl, rfl⟩ | ⟨a, rfl, hsrc⟩
    · have e0 : Nat.min 0 dLen = 0 := Nat.zero_min _
      cases sp with
      | none => simp [Builtin.copy_, run_underlying hu, Builtin.lenOf, Builtin.firstCells, sizeOf, typeInfo, hq, e0, hst]
      | some a =>
        have hl := run_loadCells_list (P := P) w a [] (by simp)
        simp only [List.length_nil] at hl
        simp [Builtin.copy_, run_underlying hu, Builtin.lenOf, Builtin.firstCells, sizeOf, typeInfo, hq, e0, hl, hst]
    · have hl := run_loadCells_list (P := P) w a cs hsrc
      rw [hn] at hl
      simp [Builtin.copy_, run_underlying hu, Builtin.lenOf, Builtin.firstCells, sizeOf, typeInfo, hq, hi, hl, hst]

theorem wpList_copy_wide {P : Program} {w : World} {ops : Array Oper} {rest : List Oper} {o : Oper} {a : Act} {Q : Exit → Act → World → Prop} (hgd : o.guard = none) (d s : Operand) (dT sT : TypeId)
    (ho : o.op = .call { callee := .builtin .copy, args := #[d, s], argTypes := #[dT, sT] }) (elem : TypeId) (hu : P.underlying dT = some (.slice elem)) (sz : Nat) (hsz : (P.info? elem).map (·.size) = some sz)
    (g dLen dCap : Nat) (sp : Option Addr) (sLen sCap : Nat) (hd : a.eval d = .slice (some ⟨g, 0, none⟩) dLen dCap) (hs : a.eval s = .slice sp sLen sCap)
    (cur : Array Value) (t : TypeId) (hg : w.heap[g]? = some (.cells cur t (0, 0))) (cs : List Value) (hn : cs.length = Nat.min sLen dLen * sz)
    (hsrc : cs = [] ∧ sLen = 0 ∨ ∃ a, sp = some a ∧ ∀ j v, cs[j]? = some v → w.cell? (a.add j) = some v) (hfit : cs.length ≤ cur.size) (h1 : ∀ v ∈ cs, v.oneCell' = true)
    (h : wpList P ops Q rest (a.put o.dst (goInt (Nat.min sLen dLen))) (w.setRow g (cs ++ cur.toList.drop cs.length).toArray)) : wpList P ops Q (o :: rest) a w := by
  refine wpList_plain hgd fun K hK => ?_
  have hrun := run_copy_wide P w dT sT o.type elem g dLen dCap sp sLen sCap sz cur t cs hu hsz hg hn hsrc hfit h1
  unfold Oper.wp
  simp [execOp, ho, resolve, invoke, builtin, hd, hs, hrun, Result.andThen]
  exact hK _ _ h
theorem Cls.src {w : World} {x : Option Addr} {m cap : Nat} {cs : List Cl} (h : Cls w x m cap cs) : cCells cs = [] ∧ m = 0 ∨ ∃ a, x = some a ∧ ∀ j v, (cCells cs)[j]? = some v → w.cell? (a.add j) = some v := by
  have hl := h.len
  by_cases h0 : m = 0
  · left
    obtain rfl : cs = [] := List.eq_nil_of_length_eq_zero (by omega)
    exact ⟨rfl, h0⟩
  · right
    obtain ⟨b, off, rfl, _⟩ := h.at (k := 0) (by omega)
    refine ⟨_, rfl, fun j v hj => ?_⟩
    have hjl := (List.getElem?_eq_some_iff.1 hj).1
    rw [cCells_length] at hjl
    have hk : j / 8 < m := by omega
    obtain ⟨b', off', e, hat⟩ := h.at hk
    obtain ⟨rfl, rfl⟩ : b = b' ∧ off = off' := by
      have := Option.some.inj e
      injection this with e1 e2
      exact ⟨e1, e2⟩
    have hc := hat w (Below.refl _ _)
    have hg := cCells_get cs (j / 8) (j % 8) (by omega) (Nat.mod_lt _ (by omega))
    have e8 : j / 8 * 8 + j % 8 = j := by omega
    rw [e8, hj] at hg
    rw [addr_add]
    obtain ⟨c0, c1, c2, c3, c4, c5, c6, c7⟩ := hc
    have hm : j % 8 < 8 := Nat.mod_lt _ (by omega)
    obtain ⟨r, hr⟩ : ∃ r, j % 8 = r := ⟨_, rfl⟩
    rw [hr] at hg hm e8
    rw [show off + j = off + j / 8 * 8 + r by omega]
    generalize cs.getD (j / 8) Cl.zero = c at *
    generalize off + j / 8 * 8 = z at *
    rcases (by omega : r = 0 ∨ r = 1 ∨ r = 2 ∨ r = 3 ∨ r = 4 ∨ r = 5 ∨ r = 6 ∨ r = 7) with rfl | rfl | rfl | rfl | rfl | rfl | rfl | rfl
    · rw [Nat.add_zero, c0, hg]; rfl
    · rw [c1, hg]; rfl
    · rw [c2, hg]; rfl
    · rw [c3, hg]; rfl
    · rw [c4, hg]; rfl
    · rw [c5, hg]; rfl
    · rw [c6, hg]; rfl
    · rw [c7, hg]; rfl
theorem cCells_one (cs : List Cl) : ∀ v ∈ cCells cs, v.oneCell' = true := by
  intro v hv
  obtain ⟨c, _, h⟩ := List.mem_flatMap.1 hv
  simp [Cl.arr] at h
  rcases h with rfl | rfl | rfl | rfl | rfl | rfl | rfl | rfl <;> rfl

set_option maxRecDepth 100000 in
set_option maxHeartbeats 3200000 in
theorem copied_c {w : World} {x : Option Addr} {m cap : Nat} {cs : List Cl} (hl : Cls w x m cap cs) (hm : m ≤ 1000000) (key : ByteArray) :
    Calls Tryd.prog 49 #[.agg #[.string key, .slice x m cap]] w (fun e w' => ∃ g, e = .returned (.agg #[.string key, .slice (some ⟨g, 0, none⟩) m m]) ∧ w.heap.size ≤ g ∧ w'.heap[g]? = some (.cells (cCells cs).toArray 50 (0, 0)) ∧ Below w.heap.size w w') := by
  have hll := hl.len
  have hle := hl.le
  have hmax := hl.max
  obtain ⟨i0, hi, hz0, hz1, hz2⟩ := info_parts Tryd.infoC
  have hb := (alloc_below w (.cells #[.string key, .slice x m cap] 25)).alloc (by simp) (.cells #[.string ⟨#[]⟩, .slice none 0 0] 25)
  have hr0 : ((w.alloc (.cells #[.string key, .slice x m cap] 25)).alloc (.cells #[.string ⟨#[]⟩, .slice none 0 0] 25)).heap[w.heap.size]? = some (.cells #[.string key, .slice x m cap] 25 (0, 0)) := (Below.heap_alloc _ _ _ (by simp)).trans (heap_alloc_new w _)
  have hr1 := heap_alloc_new (w.alloc (.cells #[.string key, .slice x m cap] 25)) (.cells #[.string ⟨#[]⟩, .slice none 0 0] 25)
  rw [World.size_alloc] at hr1
  have HL := Lib.hid hl
  clear hl
  go_enter Tryd.func49, Tryd.ntmps49
  go_upto_region 1 with (fail)
  obtain ⟨B, hB⟩ : ∃ q, w.heap.size = q := ⟨_, rfl⟩
  have HBe := Lib.hid hB
  rw [hB] at hr0 hr1 ⊢
  clear hB
  generalize (w.alloc (.cells #[.string key, .slice x m cap] 25)).alloc (.cells #[.string ⟨#[]⟩, .slice none 0 0] 25) = W1 at *
  obtain ⟨r0, r1, -⟩ := row_cells hr0
  have HR0 := Lib.hid hr0
  have HR1 := Lib.hid hr1
  have HB1 := Lib.hid hb
  clear hr0 hr1 hb
  go_upto_region 2 with (refine wpList_make_full _ rfl _ _ _ rfl w.heap.size 50 i0 _ 8 Tryd.underlying23 hi hz0 hz1 .i64 .i64 _ _ m rfl rfl rfl rfl (by rw [hz2]; omega) (by unfold maxLen; omega) HB1.out.size ?_; intro w2 ho2 hg2)
  obtain ⟨-, ⟨ev, -⟩ | ⟨g, c, cur, ev, hBg, hgc, -, -, hcs, -⟩⟩ := ho2
  · cases ev
  · injection ev with e1 e2 e3
    injection e1 with e1
    injection e1 with e1
    subst e3
    rw [e1]
    have hlt := (Array.getElem?_eq_some_iff.1 hgc).1
    have hb2 := HB1.out.grown hg2 HB1.out.size (fun k e => by cases e)
    have hr2 := heap_grown HR0.out hg2 (by simp)
    have he2 := heap_grown HR1.out hg2 (by simp)
    have hgB : g ≠ B := fun e => by rw [e, hr2] at hgc; cases hgc
    have hgB1 : g ≠ B + 1 := fun e => by rw [e, he2] at hgc; cases hgc
    have hsrc := (HL.out.below hb2).src
    have hccl := cCells_length cs
    rw [hll] at hccl
    have h1c := cCells_one cs
    obtain ⟨r0, r1, -⟩ := row_cells hr2
    obtain ⟨X, hX⟩ : ∃ X, cCells cs = X := ⟨_, rfl⟩
    rw [hX] at hsrc hccl h1c
    have HX := Lib.hid hX
    clear hX
    have hdr : (X ++ cur.toList.drop X.length).toArray = X.toArray := by rw [List.drop_of_length_le (by simp; omega), List.append_nil]
    have HB3 := Lib.hid (below_setRow hb2 hBg X.toArray)
    have hr3 := (setRow_other w2 g B X.toArray (fun e => hgB e.symm)).trans hr2
    have he3 := (setRow_other w2 g (B + 1) X.toArray (fun e => hgB1 e.symm)).trans he2
    have HG3 := Lib.hid (setRow_heap w2 g cur X.toArray _ _ hgc)
    have hbg := hBg
    go_upto_region 3 with (refine wpList_copy_wide rfl _ _ 23 23 rfl 50 Tryd.underlying23 8 (by kernel_rfl) g m m x m cap rfl rfl cur 50 hgc X (by rw [hccl]; congr 1; exact (Nat.min_self m).symm) hsrc (by omega) h1c ?_; rw [hdr])
    obtain ⟨s0, s1, -⟩ := row_cells hr3
    obtain ⟨z0, z1, zf⟩ := row_cells he3
    have HS := Lib.hid (row_set he3 key (.slice (some ⟨g, 0, none⟩) m m))
    have HW := Lib.hid ((HB3.out.setCell (p := ⟨B + 1, 0, none⟩) (by have := HBe.out; simp; omega) (.string key)).setCell (p := ⟨B + 1, 1, none⟩) (by have := HBe.out; simp; omega) (.slice (some ⟨g, 0, none⟩) m m))
    have HGW := Lib.hid ((Below.heap_setCell ((w2.setRow g X.toArray).setCell ⟨B + 1, 0, none⟩ (.string key)) ⟨B + 1, 1, none⟩ (.slice (some ⟨g, 0, none⟩) m m) g (by simp; omega)).trans ((Below.heap_setCell (w2.setRow g X.toArray) ⟨B + 1, 0, none⟩ (.string key) g (by simp; omega)).trans HG3.out))
    clear hr3 he3 hr2 he2 hgc hsrc h1c hdr hb2 hg2 r0 r1
    go_wp2
    exact bodyPost_ret (results_cell_row rfl _ _ (B + 1) 25 _ (0, 0) _ rfl HS.out Tryd.underlying25 rfl (by kernel_rfl)) rfl ⟨g, rfl, hbg, by rw [HX.out]; exact HGW.out, HW.out⟩
end Go.Proofs.YtkjpmdpljdgcjaaDoor
end

section
/-
  Row: the program's Write.
-/
namespace Go.Proofs.YtkjpmdpljdgcjaaDoor
open Go.RowKit Go Go.Sort
set_option linter.unusedVariables false
set_option maxRecDepth 20000

theorem cells_put {W : World} {g k : Nat} {cs : List Cl} (hg : W.heap[g]? = some (.cells (cCells cs).toArray 50 (0, 0))) (hk : k < cs.length) (n9 s9 a9 b9 : Int) (g9 : Bool) (t9 : List UInt8) (d9 e9 : Int) :
    (((((((((W.setCell ⟨g, k * 8, none⟩ (.int .i64 n9)).setCell ⟨g, k * 8 + 1, none⟩ (.int .i64 s9)).setCell ⟨g, k * 8 + 2, none⟩ (.int .i64 a9)).setCell ⟨g, k * 8 + 3, none⟩ (.int .i64 b9)).setCell ⟨g, k * 8 + 4, none⟩ (.bool g9)).setCell ⟨g, k * 8 + 5, none⟩ (.string (text t9))).setCell ⟨g, k * 8 + 6, none⟩ (.int .i64 d9)).setCell ⟨g, k * 8 + 7, none⟩ (.int .i64 e9))).heap[g]? = some (.cells (cCells (cs.set k ⟨n9, s9, a9, b9, g9, t9, d9, e9⟩)).toArray 50 (0, 0)) := by
  have h0 := heap_setCell_same W g (k * 8) _ _ (.int .i64 n9) hg
  have h1 := heap_setCell_same _ g (k * 8 + 1) _ _ (.int .i64 s9) h0
  have h2 := heap_setCell_same _ g (k * 8 + 2) _ _ (.int .i64 a9) h1
  have h3 := heap_setCell_same _ g (k * 8 + 3) _ _ (.int .i64 b9) h2
  have h4 := heap_setCell_same _ g (k * 8 + 4) _ _ (.bool g9) h3
  have h5 := heap_setCell_same _ g (k * 8 + 5) _ _ (.string (text t9)) h4
  have h6 := heap_setCell_same _ g (k * 8 + 6) _ _ (.int .i64 d9) h5
  have h7 := heap_setCell_same _ g (k * 8 + 7) _ _ (.int .i64 e9) h6
  rw [h7]
  refine congrArg (fun z => some (Obj.cells z 50 (0, 0))) ?_
  apply Array.ext_getElem?
  intro j
  have hl := cCells_length cs
  have hl2 := cCells_length (cs.set k ⟨n9, s9, a9, b9, g9, t9, d9, e9⟩)
  rw [List.length_set] at hl2
  simp only [Array.getElem?_setIfInBounds, List.getElem?_toArray, Array.size_setIfInBounds, List.size_toArray, hl]
  by_cases hj : j < cs.length * 8
  · have hd : j / 8 < cs.length := by omega
    have hm : j % 8 < 8 := Nat.mod_lt _ (by omega)
    have e8 : j / 8 * 8 + j % 8 = j := by omega
    have g1 := cCells_get cs (j / 8) (j % 8) hd hm
    have g2 := cCells_get (cs.set k ⟨n9, s9, a9, b9, g9, t9, d9, e9⟩) (j / 8) (j % 8) (by rw [List.length_set]; exact hd) hm
    rw [e8] at g1 g2
    rw [g2, g1]
    obtain ⟨r, hr⟩ : ∃ r, j % 8 = r := ⟨_, rfl⟩
    rw [hr] at hm e8 ⊢
    by_cases hq : j / 8 = k
    · rw [hq] at e8 ⊢
      have e9 : (cs.set k ⟨n9, s9, a9, b9, g9, t9, d9, e9⟩).getD k Cl.zero = ⟨n9, s9, a9, b9, g9, t9, d9, e9⟩ := by simp [hk]
      rw [e9]
      subst e8
      have hk8 : k * 8 + 7 < cs.length * 8 := by omega
      rcases (by omega : r = 0 ∨ r = 1 ∨ r = 2 ∨ r = 3 ∨ r = 4 ∨ r = 5 ∨ r = 6 ∨ r = 7) with rfl | rfl | rfl | rfl | rfl | rfl | rfl | rfl
      all_goals
        repeat rw [if_neg (by omega)]
        rw [if_pos (by omega), if_pos (by omega)]
        rfl
    · have e9 : (cs.set k ⟨n9, s9, a9, b9, g9, t9, d9, e9⟩).getD (j / 8) Cl.zero = cs.getD (j / 8) Cl.zero := by
        simp only [List.getD_eq_getElem?_getD, List.getElem?_set]
        rw [if_neg (fun e => hq e.symm)]
      rw [e9]
      repeat rw [if_neg (by omega)]
  · rw [List.getElem?_eq_none (by omega), List.getElem?_eq_none (by omega)]
    repeat rw [if_neg (by omega)]
theorem cells_put_other {W : World} {g k q : Nat} (hq : q ≠ g) (n9 s9 a9 b9 : Int) (g9 : Bool) (t9 : List UInt8) (d9 e9 : Int) : (((((((((W.setCell ⟨g, k * 8, none⟩ (.int .i64 n9)).setCell ⟨g, k * 8 + 1, none⟩ (.int .i64 s9)).setCell ⟨g, k * 8 + 2, none⟩ (.int .i64 a9)).setCell ⟨g, k * 8 + 3, none⟩ (.int .i64 b9)).setCell ⟨g, k * 8 + 4, none⟩ (.bool g9)).setCell ⟨g, k * 8 + 5, none⟩ (.string (text t9))).setCell ⟨g, k * 8 + 6, none⟩ (.int .i64 d9)).setCell ⟨g, k * 8 + 7, none⟩ (.int .i64 e9))).heap[q]? = W.heap[q]? :=
  (Below.heap_setCell _ ⟨g, k * 8 + 7, none⟩ _ q hq).trans ((Below.heap_setCell _ ⟨g, k * 8 + 6, none⟩ _ q hq).trans ((Below.heap_setCell _ ⟨g, k * 8 + 5, none⟩ _ q hq).trans ((Below.heap_setCell _ ⟨g, k * 8 + 4, none⟩ _ q hq).trans ((Below.heap_setCell _ ⟨g, k * 8 + 3, none⟩ _ q hq).trans ((Below.heap_setCell _ ⟨g, k * 8 + 2, none⟩ _ q hq).trans ((Below.heap_setCell _ ⟨g, k * 8 + 1, none⟩ _ q hq).trans (Below.heap_setCell _ ⟨g, k * 8, none⟩ _ q hq)))))))
theorem cells_put_below {w W : World} {B g k : Nat} (hb : Below B w W) (hg : B ≤ g) (n9 s9 a9 b9 : Int) (g9 : Bool) (t9 : List UInt8) (d9 e9 : Int) : Below B w (((((((((W.setCell ⟨g, k * 8, none⟩ (.int .i64 n9)).setCell ⟨g, k * 8 + 1, none⟩ (.int .i64 s9)).setCell ⟨g, k * 8 + 2, none⟩ (.int .i64 a9)).setCell ⟨g, k * 8 + 3, none⟩ (.int .i64 b9)).setCell ⟨g, k * 8 + 4, none⟩ (.bool g9)).setCell ⟨g, k * 8 + 5, none⟩ (.string (text t9))).setCell ⟨g, k * 8 + 6, none⟩ (.int .i64 d9)).setCell ⟨g, k * 8 + 7, none⟩ (.int .i64 e9))) :=
  (((((((hb.setCell (p := ⟨g, k * 8, none⟩) hg _).setCell (p := ⟨g, k * 8 + 1, none⟩) hg _).setCell (p := ⟨g, k * 8 + 2, none⟩) hg _).setCell (p := ⟨g, k * 8 + 3, none⟩) hg _).setCell (p := ⟨g, k * 8 + 4, none⟩) hg _).setCell (p := ⟨g, k * 8 + 5, none⟩) hg _).setCell (p := ⟨g, k * 8 + 6, none⟩) hg _).setCell (p := ⟨g, k * 8 + 7, none⟩) hg _
def ClsV (l : List Cl) (v : Value) (W : World) : Prop := ∃ a n c, v = .slice a n c ∧ Cls W a n c l
theorem ClsV.kept {l : List Cl} {v : Value} {X Y : World} (h : ClsV l v X) (hb : Below X.heap.size X Y) : ClsV l v Y := by
  obtain ⟨a, n, c, rfl, h⟩ := h
  exact ⟨a, n, c, rfl, h.below hb⟩
/-- A cell written into a row, or why not. -/
def rwriteS (gs : List Grp) (key : List UInt8) (cs : List Cl) (k : Int) (c : Cl) : List UInt8 × List Cl × Int :=
  if ¬ rgoodS gs key cs = 0 then ([], [], rgoodS gs key cs) else if ¬ (pofS gs k).2 = 0 then ([], [], (pofS gs k).2) else if c.good (pofS gs k).1 = false then ([], [], 80) else (key, cs.set k.toNat (joinC [cs.getD k.toNat Cl.zero, c]), 0)
theorem write_bad {gs : List Grp} {key : List UInt8} {cs : List Cl} {k : Int} {c : Cl} (h : ¬ rgoodS gs key cs = 0) : rwriteS gs key cs k c = ([], [], rgoodS gs key cs) := by unfold rwriteS; rw [if_pos h]
theorem write_grp {gs : List Grp} {key : List UInt8} {cs : List Cl} {k : Int} {c : Cl} (h : rgoodS gs key cs = 0) (h2 : ¬ (pofS gs k).2 = 0) : rwriteS gs key cs k c = ([], [], (pofS gs k).2) := by unfold rwriteS; rw [if_neg (by simp [h]), if_pos h2]
theorem write_cell {gs : List Grp} {key : List UInt8} {cs : List Cl} {k : Int} {c : Cl} (h : rgoodS gs key cs = 0) (h2 : (pofS gs k).2 = 0) (h3 : c.good (pofS gs k).1 = false) : rwriteS gs key cs k c = ([], [], 80) := by unfold rwriteS; rw [if_neg (by simp [h]), if_neg (by simp [h2]), if_pos h3]
theorem write_ok {gs : List Grp} {key : List UInt8} {cs : List Cl} {k : Int} {c : Cl} (h : rgoodS gs key cs = 0) (h2 : (pofS gs k).2 = 0) (h3 : c.good (pofS gs k).1 = true) : rwriteS gs key cs k c = (key, cs.set k.toNat (joinC [cs.getD k.toNat Cl.zero, c]), 0) := by unfold rwriteS; rw [if_neg (by simp [h]), if_neg (by simp [h2]), if_neg (by simp [h3])]
theorem of_in {gs : List Grp} {k : Int} (h0 : pgoodS gs = 0) (h : (pofS gs k).2 = 0) : 0 ≤ k ∧ k < (gs.length : Int) := by
  unfold pofS at h
  rw [if_pos h0] at h
  split at h
  · cases h
  · rename_i hh; omega
theorem own_lit {W : World} {g B m : Nat} {cs : List Cl} (hg : W.heap[g]? = some (.cells (cCells cs).toArray 50 (0, 0))) (hB : B ≤ g) (hm : cs.length = m) (h : m ≤ 1000000) : OwnC W B (.slice (some ⟨g, 0, none⟩) m m) cs := by
  subst hm
  refine ⟨by simp [cCells_length], .inr ⟨g, cs.length, (cCells cs).toArray, rfl, hB, hg, Nat.le_refl _, by unfold maxLen; omega, by simp [cCells_length], ?_⟩⟩
  rw [List.take_of_length_le (by simp [cCells_length])]

set_option maxRecDepth 100000 in
set_option maxHeartbeats 12800000 in
theorem rowwrite_c {w : World} {x x2 : Option Addr} {n1 cap m cap2 : Nat} {gs : List Grp} {cs : List Cl} (hg : Grs w x n1 cap gs) (hs : ∀ g ∈ gs, g.1.length ≤ 9223372036854775807)
    (hl : Cls w x2 m cap2 cs) (hx : ∀ c ∈ cs, c.t.length ≤ 9223372036854775807) (key : List UInt8) (hk : key.length ≤ 9223372036854775807) (k : Int) (n s a b : Int) (g : Bool) (t : List UInt8) (d e : Int) (ht : t.length ≤ 9223372036854775807) :
    Calls Tryd.prog 23 #[.slice x n1 cap, .agg #[.string (text key), .slice x2 m cap2], .int .i64 k, .agg #[.int .i64 n, .int .i64 s, .int .i64 a, .int .i64 b, .bool g, .string (text t), .int .i64 d, .int .i64 e]] w (RowPost (rwriteS gs key cs k ⟨n, s, a, b, g, t, d, e⟩) w) := by
  have hgl := hg.len
  have hll := hl.len
  have hle2 := hl.le
  have hmax2 := hl.max
  have hGD := fun W (h : Below w.heap.size w W) => rowgood_c (hg.below h) hs (hl.below h) hx key hk
  have hOF := fun W (h : Below w.heap.size w W) => pof_c (hg.below h) hs k
  have hCG := fun p W => cgood_c p n s a b g t d e ht W
  have hCP := fun (hm : m ≤ 1000000) W (h : Below w.heap.size w W) => copied_c (hl.below h) hm (text key)
  have H0 := Lib.hid (@write_bad gs key cs k ⟨n, s, a, b, g, t, d, e⟩)
  have H1 := Lib.hid (@write_grp gs key cs k ⟨n, s, a, b, g, t, d, e⟩)
  have H2 := Lib.hid (@write_cell gs key cs k ⟨n, s, a, b, g, t, d, e⟩)
  have H3 := Lib.hid (@write_ok gs key cs k ⟨n, s, a, b, g, t, d, e⟩)
  have HIN := Lib.hid (@rgood_inv gs key cs)
  have HOI := Lib.hid (@of_in gs k)
  have HL := Lib.hid hl
  obtain ⟨RV, hRV⟩ : ∃ z, rwriteS gs key cs k ⟨n, s, a, b, g, t, d, e⟩ = z := ⟨_, rfl⟩
  obtain ⟨R, hR⟩ : ∃ z, rgoodS gs key cs = z := ⟨_, rfl⟩
  obtain ⟨⟨po, pe⟩, hpo⟩ : ∃ z, pofS gs k = z := ⟨_, rfl⟩
  obtain ⟨C, hC⟩ : ∃ z, (⟨n, s, a, b, g, t, d, e⟩ : Cl).good po = z := ⟨_, rfl⟩
  have hCG := fun W => hCG po W
  rw [hR, hRV] at H0
  rw [hR, hRV, hpo] at H1 H2 H3
  simp only at H1 H2 H3
  rw [hC] at H2 H3
  rw [hR] at HIN
  rw [hpo] at HOI
  simp only [hR] at hGD
  simp only [hpo] at hOF
  rw [show cgoodS po n s a b g t d e = C from hC] at hCG
  rw [hRV]
  obtain ⟨tk, htk⟩ : ∃ z, text key = z := ⟨_, rfl⟩
  rw [htk] at hGD hCP ⊢
  have HTK := Lib.hid htk
  have hb := ((alloc_below w (.cells #[.string tk, .slice x2 m cap2] 25)).alloc (by simp) (.cells #[.int .i64 n, .int .i64 s, .int .i64 a, .int .i64 b, .bool g, .string (text t), .int .i64 d, .int .i64 e] 50)).alloc (by simp; omega) (.cells #[.string ⟨#[]⟩, .slice none 0 0] 25)
  have hr : (((w.alloc (.cells #[.string tk, .slice x2 m cap2] 25)).alloc (.cells #[.int .i64 n, .int .i64 s, .int .i64 a, .int .i64 b, .bool g, .string (text t), .int .i64 d, .int .i64 e] 50)).alloc (.cells #[.string ⟨#[]⟩, .slice none 0 0] 25)).heap[w.heap.size]? = some (.cells #[.string tk, .slice x2 m cap2] 25 (0, 0)) := (Below.heap_alloc _ _ _ (by simp; omega)).trans ((Below.heap_alloc _ _ _ (by simp)).trans (heap_alloc_new w _))
  have hc : Cel (((w.alloc (.cells #[.string tk, .slice x2 m cap2] 25)).alloc (.cells #[.int .i64 n, .int .i64 s, .int .i64 a, .int .i64 b, .bool g, .string (text t), .int .i64 d, .int .i64 e] 50)).alloc (.cells #[.string ⟨#[]⟩, .slice none 0 0] 25)) (w.heap.size + 1) n s a b g t d e := by
    have := (Cel.new (w.alloc (.cells #[.string tk, .slice x2 m cap2] 25)) n s a b g t d e).kept (alloc_below _ (.cells #[.string ⟨#[]⟩, .slice none 0 0] 25))
    rwa [World.size_alloc] at this
  have hz := heap_alloc_new ((w.alloc (.cells #[.string tk, .slice x2 m cap2] 25)).alloc (.cells #[.int .i64 n, .int .i64 s, .int .i64 a, .int .i64 b, .bool g, .string (text t), .int .i64 d, .int .i64 e] 50)) (.cells #[.string ⟨#[]⟩, .slice none 0 0] 25)
  simp only [World.size_alloc] at hz
  have HGD := Lib.hid hGD
  have HOF := Lib.hid hOF
  have HCG := Lib.hid hCG
  have HCP := Lib.hid hCP
  clear hGD hOF hCG hCP hRV hR hpo hC htk hg hs hl hx hk ht
  go_enter Tryd.func23, Tryd.ntmps23
  go_upto_region 1 with (fail)
  obtain ⟨B, hB⟩ : ∃ q, w.heap.size = q := ⟨_, rfl⟩
  have HBe := Lib.hid hB
  rw [hB] at hr hc hz ⊢
  clear hB
  generalize ((w.alloc (.cells #[.string tk, .slice x2 m cap2] 25)).alloc (.cells #[.int .i64 n, .int .i64 s, .int .i64 a, .int .i64 b, .bool g, .string (text t), .int .i64 d, .int .i64 e] 50)).alloc (.cells #[.string ⟨#[]⟩, .slice none 0 0] 25) = W1 at *
  obtain ⟨r0, r1, -⟩ := row_cells hr
  have HR1 := Lib.hid hr
  have HC1 := Lib.hid hc
  have HZ1 := Lib.hid hz
  have HB1 := Lib.hid hb
  clear hr hc hz hb
  have hbad : ∀ (f : Int), RV = ([], [], f) → ∀ (W : World), Below W1.heap.size W1 W → RowPost RV w (.returned (.tuple #[.agg #[.string ⟨#[]⟩, .slice none 0 0], .int .i64 f])) ((W.setCell ⟨B + 1 + 1, 0, none⟩ (.string ⟨#[]⟩)).setCell ⟨B + 1 + 1, 1, none⟩ (.slice none 0 0)) := fun f h W hW => by
    rw [h]
    exact ⟨_, rfl, OwnC.nil _ _, ((HB1.out.trans (hW.mono HB1.out.size)).setCell (p := ⟨B + 1 + 1, 0, none⟩) (by have := HBe.out; simp; omega) _).setCell (p := ⟨B + 1 + 1, 1, none⟩) (by have := HBe.out; simp; omega) _⟩
  have HBAD := Lib.hid hbad
  clear hbad
  by_cases h0 : R = 0
  · subst h0
    have hpg := (HIN.out rfl).1
    have hlen := (HIN.out rfl).2.2.1
    have h4 := pgood_len hpg
    by_cases h1 : pe = 0
    · subst h1
      obtain ⟨hk0, hk1⟩ := HOI.out hpg (by first | rfl | trivial)
      obtain ⟨i, rfl⟩ : ∃ i : Nat, k = (i : Int) := ⟨k.toNat, by omega⟩
      cases C with
      | true =>
        have HRR := Lib.hid (H3.out (by first | rfl | trivial) (by first | rfl | trivial) (by first | rfl | trivial))
        simp only [Int.toNat_natCast] at HRR
        have hlk : i < cs.length := by omega
        have hlm : i < m := by omega
        have hm4 : m ≤ 4 := by omega
        have hkim : (i : Int) < (m : Int) := by omega
        have hkic : (i : Int) < (cap2 : Int) := by omega
        clear H0 H1 H2 H3 HIN HOI hpg hlen
        go_upto_region 9 with (first
          | (go_at_call 14; (with_reducible refine (HGD.out _ HB1.out).mono ?_); rintro e9 w2 ⟨rfl, hb2⟩; have HX2 := Lib.hid hb2; have HBx := Lib.hid (HB1.out.trans (hb2.mono HB1.out.size)); clear hb2)
          | (go_at_call 48; (with_reducible refine (HOF.out _ HBx.out).mono ?_); rintro e9 w3 ⟨rfl, hb3⟩; have HX3 := Lib.hid (HX2.out.trans (hb3.mono HX2.out.size)); clear hb3; obtain ⟨c0, c1, c2, c3, c4, c5, c6, c7⟩ := (HC1.out.kept HX3.out).cs)
          | (go_at_call 42; (with_reducible refine (HCG.out _).mono ?_); rintro e9 w4 ⟨rfl, hb4⟩; have HX4 := Lib.hid (HX3.out.trans (hb4.mono HX3.out.size)); clear hb4))
        have HB4 := Lib.hid (HB1.out.trans (HX4.out.mono HB1.out.size))
        have hr4 := heap_below HR1.out HX4.out
        have hc4 := HC1.out.kept HX4.out
        have hz4 := heap_below HZ1.out HX4.out
        clear r0 r1 c0 c1 c2 c3 c4 c5 c6 c7 HX2 HX3 HX4 HBx HR1 HC1 HZ1 HB1 HGD HOF HCG HBAD
        obtain ⟨r0, r1, -⟩ := row_cells hr4
        have HR4 := Lib.hid hr4
        have HC4 := Lib.hid hc4
        have HZ4 := Lib.hid hz4
        clear hr4 hc4 hz4
        go_upto_region 10 with (go_at_call 49; (with_reducible refine (HCP.out (by omega) _ HB4.out).mono ?_); rintro e9 w5 ⟨gg, rfl, hgg, hgc, hb5⟩)
        have hal := alloc_below w5 (.cells #[.string tk, .slice (some ⟨gg, 0, none⟩) m m] 25)
        have HS := Lib.hid (heap_alloc_new w5 (.cells #[.string tk, .slice (some ⟨gg, 0, none⟩) m m] 25))
        have HG := Lib.hid (heap_below hgc hal)
        have HO := Lib.hid (heap_below (heap_below HR4.out hb5) hal)
        have HC5 := Lib.hid ((HC4.out.kept hb5).kept hal)
        have HZ5 := Lib.hid (heap_below (heap_below HZ4.out hb5) hal)
        have HB3 := Lib.hid ((HB4.out.trans (hb5.mono HB4.out.size)).trans (hal.mono (Nat.le_trans HB4.out.size hb5.size)))
        have HGB := Lib.hid (Nat.le_trans HB4.out.size hgg)
        have HGS := Lib.hid (show gg < w5.heap.size from (Array.getElem?_eq_some_iff.1 hgc).1)
        have HZS := Lib.hid (show B + 1 + 1 < gg from Nat.lt_of_lt_of_le (Array.getElem?_eq_some_iff.1 HZ4.out).1 hgg)
        obtain ⟨S, hS⟩ : ∃ q, w5.heap.size = q := ⟨_, rfl⟩
        rw [hS] at HS HGS ⊢
        generalize w5.alloc (.cells #[.string tk, .slice (some ⟨gg, 0, none⟩) m m] 25) = W5 at *
        clear hal hb5 hgc hgg hS r0 r1 HR4 HC4 HZ4 HCP
        obtain ⟨bk, off, rfl, hat⟩ := HL.out.at hlm
        obtain ⟨y, hck⟩ : ∃ y, cs.getD i Cl.zero = y := ⟨_, rfl⟩
        rw [hck] at hat HRR
        obtain ⟨n', s', a', b', g', t', d', e'⟩ := y
        obtain ⟨y, hj⟩ : ∃ y, joinC [⟨n', s', a', b', g', t', d', e'⟩, ⟨n, s, a, b, g, t, d, e⟩] = y := ⟨_, rfl⟩
        rw [hj] at HRR
        obtain ⟨n9, s9, a9, b9, g9, t9, d9, e9⟩ := y
        have HJ9 := Lib.hid hj
        have HCK := Lib.hid hck
        have HPW := Lib.hid (fun W (h : Below W5.heap.size W5 W) => hat W (HB3.out.trans (h.mono HB3.out.size)))
        have HSW := Lib.hid (fun W (h : Below W5.heap.size W5 W) => row_cells (heap_below HS.out h))
        have HRW := Lib.hid (fun W (h : Below W5.heap.size W5 W) => row_cells (heap_below HO.out h))
        have HCW := Lib.hid (fun W (h : Below W5.heap.size W5 W) => (HC5.out.kept h).cs)
        clear hat hj hck
        refine wp_region_flow_tail 12 [none, none, none, none, none, none, none, none, none, none, none, none, none, none, none, none, none, none, none, none, none, none, none, none, none, none, none, none, none, none, none, none, none, none, none, none, none, none, none, none, some 0, some 1, some 2, some 3, some 4, some 5, some 6, some 7, some 8, some 9, some 10, some 11, none] (fun i => [undef, undef, undef, undef, undef, undef, undef, undef, undef, undef, undef, undef].getD i undef) [(fun v _ => v = .pointer (some ⟨S, 1, none⟩)), (fun v _ => v = .slice (some ⟨gg, 0, none⟩) m m), (fun v _ => v = .int .i64 (i : Int)), (fun v _ => v = .pointer (some ⟨B, 1, none⟩)), (fun v _ => v = .slice (some ⟨bk, off, none⟩) m cap2), (fun v _ => v = .int .i64 (i : Int)), (fun v _ => v = .pointer (some ⟨bk, off + i * 8, none⟩)), (fun v _ => v = .agg #[.int .i64 n', .int .i64 s', .int .i64 a', .int .i64 b', .bool g', .string (text t'), .int .i64 d', .int .i64 e']), (fun v _ => v = .agg #[.int .i64 n, .int .i64 s, .int .i64 a, .int .i64 b, .bool g, .string (text t), .int .i64 d, .int .i64 e]), (ClsV [⟨n', s', a', b', g', t', d', e'⟩, ⟨n, s, a, b, g, t, d, e⟩]), (fun v _ => v = .agg #[.int .i64 n9, .int .i64 s9, .int .i64 a9, .int .i64 b9, .bool g9, .string (text t9), .int .i64 d9, .int .i64 e9]), (fun v _ => v = .pointer (some ⟨gg, i * 8, none⟩))] (fun _ => False) (by kernel_rfl) (by kernel_rfl) (by kernel_rfl) rfl rfl rfl ?_ ?_ ?_
        · intro g hg v X Y hX hY hv
          simp only [List.mem_cons, List.not_mem_nil, or_false] at hg
          rcases hg with rfl | rfl | rfl | rfl | rfl | rfl | rfl | rfl | rfl | rfl | rfl | rfl
          all_goals first
            | exact hv
            | exact hv.kept hY
        · simp only [flowOpsF, List.take_succ_cons, List.take_zero, and_true]
          refine ⟨?_, ?_, ?_, ?_, ?_, ?_, ?_, ?_, ?_, ?_, ?_, ?_⟩
          · intro xs W hW hn
            simp only [flowAct, List.zipWith_cons_cons, List.zipWith_nil_left]
            go_wp2_with (fail)
            exact ⟨rfl, _, rfl, Below.refl _ _, rfl, fun h => h.elim⟩
          · intro xs W hW hn
            obtain ⟨-, f1, -⟩ := HSW.out W hW
            simp [flowNeeds, Region.binds] at hn
            simp only [flowAct, List.zipWith_cons_cons, List.zipWith_nil_left]
            try simp only [hn]
            go_wp2_with (fail)
            exact ⟨rfl, _, rfl, Below.refl _ _, rfl, fun h => h.elim⟩
          · intro xs W hW hn
            simp only [flowAct, List.zipWith_cons_cons, List.zipWith_nil_left]
            go_wp2_with (fail)
            exact ⟨rfl, _, rfl, Below.refl _ _, rfl, fun h => h.elim⟩
          · intro xs W hW hn
            simp only [flowAct, List.zipWith_cons_cons, List.zipWith_nil_left]
            go_wp2_with (fail)
            exact ⟨rfl, _, rfl, Below.refl _ _, rfl, fun h => h.elim⟩
          · intro xs W hW hn
            obtain ⟨-, f2, -⟩ := HRW.out W hW
            simp [flowNeeds, Region.binds] at hn
            simp only [flowAct, List.zipWith_cons_cons, List.zipWith_nil_left]
            try simp only [hn]
            go_wp2_with (fail)
            exact ⟨rfl, _, rfl, Below.refl _ _, rfl, fun h => h.elim⟩
          · intro xs W hW hn
            simp only [flowAct, List.zipWith_cons_cons, List.zipWith_nil_left]
            go_wp2_with (fail)
            exact ⟨rfl, _, rfl, Below.refl _ _, rfl, fun h => h.elim⟩
          · intro xs W hW hn
            simp [flowNeeds, Region.binds] at hn
            simp only [flowAct, List.zipWith_cons_cons, List.zipWith_nil_left]
            try simp only [hn]
            go_wp2_with (fail)
            exact ⟨rfl, _, rfl, Below.refl _ _, rfl, fun h => h.elim⟩
          · intro xs W hW hn
            obtain ⟨p0, p1, p2, p3, p4, p5, p6, p7⟩ := HPW.out W hW
            simp only at p0 p1 p2 p3 p4 p5 p6 p7
            simp [flowNeeds, Region.binds] at hn
            simp only [flowAct, List.zipWith_cons_cons, List.zipWith_nil_left]
            try simp only [hn]
            go_wp2_with (fail)
            exact ⟨rfl, _, rfl, Below.refl _ _, rfl, fun h => h.elim⟩
          · intro xs W hW hn
            obtain ⟨c0, c1, c2, c3, c4, c5, c6, c7⟩ := HCW.out W hW
            simp only [flowAct, List.zipWith_cons_cons, List.zipWith_nil_left]
            go_wp2_with (fail)
            exact ⟨rfl, _, rfl, Below.refl _ _, rfl, fun h => h.elim⟩
          · intro xs W hW hn
            simp [flowNeeds, Region.binds] at hn
            simp only [flowAct, List.zipWith_cons_cons, List.zipWith_nil_left]
            simp only [hn]
            go_wp2_with (fail)
            exact ⟨rfl, _, rfl, alloc_below _ _, ⟨_, _, _, rfl, cls2 _ _ _ _ _ _ _ _ _ _ _ _ _ _ _ _ _⟩, fun h => h.elim⟩
          · intro xs W hW hn
            simp [flowNeeds, Region.binds] at hn
            obtain ⟨a8, n8, k8, hv8, hc8⟩ := hn
            have HJJ := Lib.hid (join_c hc8)
            rw [HJ9.out] at HJJ
            clear hc8
            simp only [flowAct, List.zipWith_cons_cons, List.zipWith_nil_left]
            simp only [hv8]
            go_wp2_with (go_at_call 31; (with_reducible refine HJJ.out.mono ?_); rintro e9 w9 ⟨rfl, hb9⟩)
            exact ⟨rfl, _, rfl, hb9, rfl, fun h => h.elim⟩
          · intro xs W hW hn
            simp [flowNeeds, Region.binds] at hn
            simp only [flowAct, List.zipWith_cons_cons, List.zipWith_nil_left]
            try simp only [hn]
            go_wp2_with (fail)
            exact ⟨rfl, _, rfl, Below.refl _ _, rfl, fun h => h.elim⟩
        · intro xs W hW hall hfr
          clear hfr
          simp only [flowAll, and_true, Nat.zero_add, Nat.reduceAdd] at hall
          obtain ⟨-, -, -, -, -, -, -, -, -, -, y10, y11⟩ := hall
          simp only [flowAct, List.zipWith_cons_cons, List.zipWith_nil_left, List.drop_succ_cons, List.drop_zero]
          simp only [y10, y11]
          have hgW := heap_below HG.out hW
          have hrW := heap_below HO.out hW
          have hsW := heap_below HS.out hW
          have hbW := HB3.out.trans (hW.mono HB3.out.size)
          have hput := cells_put hgW hlk n9 s9 a9 b9 g9 t9 d9 e9
          have hq : ∀ j, j < 8 → W.cell? ⟨gg, i * 8 + j, none⟩ = (cs.getD i Cl.zero).arr[j]? := fun j hj => by
            rw [cell_of_row W gg _ _ _ (0, 0) hgW, List.getElem?_toArray, cCells_get cs i j hlk hj]
          rw [HCK.out] at hq
          have q0 : W.cell? ⟨gg, i * 8, none⟩ = some (.int .i64 n') := hq 0 (by omega)
          have q1 : W.cell? ⟨gg, i * 8 + 1, none⟩ = some (.int .i64 s') := hq 1 (by omega)
          have q2 : W.cell? ⟨gg, i * 8 + 2, none⟩ = some (.int .i64 a') := hq 2 (by omega)
          have q3 : W.cell? ⟨gg, i * 8 + 3, none⟩ = some (.int .i64 b') := hq 3 (by omega)
          have q4 : W.cell? ⟨gg, i * 8 + 4, none⟩ = some (.bool g') := hq 4 (by omega)
          have q5 : W.cell? ⟨gg, i * 8 + 5, none⟩ = some (.string (text t')) := hq 5 (by omega)
          have q6 : W.cell? ⟨gg, i * 8 + 6, none⟩ = some (.int .i64 d') := hq 6 (by omega)
          have q7 : W.cell? ⟨gg, i * 8 + 7, none⟩ = some (.int .i64 e') := hq 7 (by omega)
          have hqf : ∀ j, W.frozen? ⟨gg, j, none⟩ = false := fun j => frozen_of_row _ gg j _ _ hgW
          have hgs := HGS.out
          have hzs := HZS.out
          have hsP := (cells_put_other (W := W) (g := gg) (k := i) (q := S) (by omega) n9 s9 a9 b9 g9 t9 d9 e9).trans hsW
          have hzP := (cells_put_other (W := W) (g := gg) (k := i) (q := B + 1 + 1) (by omega) n9 s9 a9 b9 g9 t9 d9 e9).trans (heap_below HZ5.out hW)
          have hbP := cells_put_below (k := i) hbW HGB.out n9 s9 a9 b9 g9 t9 d9 e9
          have HPUT := Lib.hid hput
          have HSP := Lib.hid hsP
          have HZP := Lib.hid hzP
          have HBP := Lib.hid hbP
          clear hq hput hsP hzP hbP hgW hrW hsW hbW hgs hzs
          go_upto_region 11 with (fail)
          obtain ⟨Wp, hWp⟩ : ∃ X, ((((((((W.setCell ⟨gg, i * 8, none⟩ (.int .i64 n9)).setCell ⟨gg, i * 8 + 1, none⟩ (.int .i64 s9)).setCell ⟨gg, i * 8 + 2, none⟩ (.int .i64 a9)).setCell ⟨gg, i * 8 + 3, none⟩ (.int .i64 b9)).setCell ⟨gg, i * 8 + 4, none⟩ (.bool g9)).setCell ⟨gg, i * 8 + 5, none⟩ (.string (text t9))).setCell ⟨gg, i * 8 + 6, none⟩ (.int .i64 d9)).setCell ⟨gg, i * 8 + 7, none⟩ (.int .i64 e9)) = X := ⟨_, rfl⟩
          rw [hWp] at HPUT HSP HZP HBP ⊢
          clear hWp q0 q1 q2 q3 q4 q5 q6 q7 hqf
          obtain ⟨s0, s1, -⟩ := row_cells HSP.out
          obtain ⟨z0, z1, zf⟩ := row_cells HZP.out
          have hzs := HZS.out
          have HFIN := Lib.hid (row_set HZP.out tk (.slice (some ⟨gg, 0, none⟩) m m))
          have HFB := Lib.hid ((HBP.out.setCell (p := ⟨B + 1 + 1, 0, none⟩) (by have := HBe.out; simp; omega) (.string tk)).setCell (p := ⟨B + 1 + 1, 1, none⟩) (by have := HBe.out; simp; omega) (.slice (some ⟨gg, 0, none⟩) m m))
          have HFG := Lib.hid ((Below.heap_setCell (Wp.setCell ⟨B + 1 + 1, 0, none⟩ (.string tk)) ⟨B + 1 + 1, 1, none⟩ (.slice (some ⟨gg, 0, none⟩) m m) gg (by simp; omega)).trans ((Below.heap_setCell Wp ⟨B + 1 + 1, 0, none⟩ (.string tk) gg (by simp; omega)).trans HPUT.out))
          go_wp2
          refine bodyPost_ret (res_cell_tmp rfl _ _ (B + 1 + 1) 25 _ (0, 0) _ (.int .i64 0) rfl rfl HFIN.out Tryd.underlying25 rfl (by kernel_rfl)) rfl ?_
          rw [HRR.out]
          exact ⟨_, by rw [HTK.out], own_lit HFG.out HGB.out (by rw [List.length_set]; exact hll) (by omega), HFB.out⟩
      | false =>
        have HRR := Lib.hid (H2.out (by first | rfl | trivial) (by first | rfl | trivial) (by first | rfl | trivial))
        clear H0 H1 H2 H3 HIN HOI hpg hlen
        go_wp2_with (first
          | (go_at_call 14; (with_reducible refine (HGD.out _ HB1.out).mono ?_); rintro e9 w2 ⟨rfl, hb2⟩; have HX2 := Lib.hid hb2; have HBx := Lib.hid (HB1.out.trans (hb2.mono HB1.out.size)); clear hb2)
          | (go_at_call 48; (with_reducible refine (HOF.out _ HBx.out).mono ?_); rintro e9 w3 ⟨rfl, hb3⟩; have HX3 := Lib.hid (HX2.out.trans (hb3.mono HX2.out.size)); clear hb3; obtain ⟨c0, c1, c2, c3, c4, c5, c6, c7⟩ := (HC1.out.kept HX3.out).cs)
          | (go_at_call 42; (with_reducible refine (HCG.out _).mono ?_); rintro e9 w4 ⟨rfl, hb4⟩; have HX4 := Lib.hid (HX3.out.trans (hb4.mono HX3.out.size)); clear hb4; obtain ⟨z0, z1, zf⟩ := row_cells (heap_below HZ1.out HX4.out)))
        exact bodyPost_ret (res_cell_tmp rfl _ _ (B + 1 + 1) 25 _ (0, 0) _ (.int .i64 80) rfl rfl (row_set (heap_below HZ1.out HX4.out) ⟨#[]⟩ (.slice none 0 0)) Tryd.underlying25 rfl (by kernel_rfl)) rfl (HBAD.out _ HRR.out _ HX4.out)
    · have h1n : (pe != 0) = true := by simpa using h1
      have HRR := Lib.hid (H1.out (by first | rfl | trivial) h1)
      clear H0 H1 H2 H3 HIN HOI hpg hlen h1
      go_wp2_with (first
        | (go_at_call 14; (with_reducible refine (HGD.out _ HB1.out).mono ?_); rintro e9 w2 ⟨rfl, hb2⟩; have HX2 := Lib.hid hb2; have HBx := Lib.hid (HB1.out.trans (hb2.mono HB1.out.size)); clear hb2)
        | (go_at_call 48; (with_reducible refine (HOF.out _ HBx.out).mono ?_); rintro e9 w3 ⟨rfl, hb3⟩; have HX3 := Lib.hid (HX2.out.trans (hb3.mono HX2.out.size)); clear hb3; obtain ⟨z0, z1, zf⟩ := row_cells (heap_below HZ1.out HX3.out)))
      exact bodyPost_ret (res_cell_tmp rfl _ _ (B + 1 + 1) 25 _ (0, 0) _ (.int .i64 pe) rfl rfl (row_set (heap_below HZ1.out HX3.out) ⟨#[]⟩ (.slice none 0 0)) Tryd.underlying25 rfl (by kernel_rfl)) rfl (HBAD.out _ HRR.out _ HX3.out)
  · have h0n : (R != 0) = true := by simpa using h0
    have HRR := Lib.hid (H0.out h0)
    clear H0 H1 H2 H3 HIN HOI h0
    go_wp2_with (go_at_call 14; (with_reducible refine (HGD.out _ HB1.out).mono ?_); rintro e9 w2 ⟨rfl, hb2⟩; have HX2 := Lib.hid hb2; clear hb2; obtain ⟨z0, z1, zf⟩ := row_cells (heap_below HZ1.out HX2.out))
    exact bodyPost_ret (res_cell_tmp rfl _ _ (B + 1 + 1) 25 _ (0, 0) _ (.int .i64 R) rfl rfl (row_set (heap_below HZ1.out HX2.out) ⟨#[]⟩ (.slice none 0 0)) Tryd.underlying25 rfl (by kernel_rfl)) rfl (HBAD.out _ HRR.out _ HX2.out)
end Go.Proofs.YtkjpmdpljdgcjaaDoor
end

section
/-
  Row: the program's Join.
-/
namespace Go.Proofs.YtkjpmdpljdgcjaaDoor
open Go.RowKit Go Go.Sort
set_option linter.unusedVariables false
set_option maxRecDepth 20000

attribute [local go_sem] Oper.semAt_some
/-- The cells of a join, up to a place. -/
def zipN (ca cb : List Cl) : Nat → List Cl
  | 0 => ca
  | k + 1 => (zipN ca cb k).set k (joinC [ca.getD k Cl.zero, cb.getD k Cl.zero])
theorem zipN_len (ca cb : List Cl) : ∀ k, (zipN ca cb k).length = ca.length
  | 0 => rfl
  | k + 1 => by show ((zipN ca cb k).set k _).length = _; rw [List.length_set]; exact zipN_len ca cb k
theorem zipN_get (ca cb : List Cl) (i : Nat) (hi : i < ca.length) : ∀ k, (zipN ca cb k).getD i Cl.zero = if i < k then joinC [ca.getD i Cl.zero, cb.getD i Cl.zero] else ca.getD i Cl.zero
  | 0 => by simp [zipN]
  | k + 1 => by
    have ih := zipN_get ca cb i hi k
    have hl := zipN_len ca cb k
    show ((zipN ca cb k).set k _).getD i Cl.zero = _
    rw [List.getD_eq_getElem?_getD, List.getElem?_set]
    by_cases e : k = i
    · subst e; simp [hl, hi]
    · rw [if_neg e, ← List.getD_eq_getElem?_getD, ih]
      by_cases h : i < k
      · rw [if_pos h, if_pos (by omega)]
      · rw [if_neg h, if_neg (by omega)]
theorem rowidx0 (a b : ByteArray) (xa xb : Option Addr) (m n c e : Nat) (W : World) : (Instr.index 96 (.agg #[.string a, .slice xa m c, .string b, .slice xb n e]) (.int .i64 0)).run Tryd.prog W = .ok (.agg #[.string a, .slice xa m c]) W := by kernel_rfl
theorem rowidx1 (a b : ByteArray) (xa xb : Option Addr) (m n c e : Nat) (W : World) : (Instr.index 96 (.agg #[.string a, .slice xa m c, .string b, .slice xb n e]) (.int .i64 1)).run Tryd.prog W = .ok (.agg #[.string b, .slice xb n e]) W := by kernel_rfl
/-- Two rows of one key, put together, or why not. -/
def rjoinS (gs : List Grp) (ka : List UInt8) (ca : List Cl) (kb : List UInt8) (cb : List Cl) : List UInt8 × List Cl × Int :=
  if ¬ rgoodS gs ka ca = 0 then ([], [], rgoodS gs ka ca) else if ¬ rgoodS gs kb cb = 0 then ([], [], rgoodS gs kb cb) else if ¬ ka = kb then ([], [], 100) else (ka, zipN ca cb ca.length, 0)

/-- Between two rounds. -/
def JoinI (ca cb : List Cl) (oS oA oZ : Obj) (n₀ gg S B Z base : Nat) (w : World) (xs : List Nat) (W : World) : Prop :=
  W.heap[gg]? = some (.cells (cCells (zipN ca cb xs.length)).toArray 50 (0, 0)) ∧ W.heap[S]? = some oS ∧ W.heap[B]? = some oA ∧ W.heap[Z]? = some oZ ∧ Below n₀ w W ∧ base ≤ W.heap.size
theorem JoinI.own {ca cb : List Cl} {c1 c2 c3 : Array Value} {n₀ gg S B Z base B9 : Nat} {w : World} (h1 : n₀ ≤ B9) (h2 : n₀ ≤ base) : OwnT B9 87 (JoinI ca cb (.cells c1 25 (0, 0)) (.cells c2 25 (0, 0)) (.cells c3 25 (0, 0)) n₀ gg S B Z base w) := by
  rintro xs X Y row ⟨hg, hS, hB, hZ, hw, hs⟩ hgr hr
  exact ⟨turn_keep hgr hr hg (by decide), turn_keep hgr hr hS (by decide), turn_keep hgr hr hB (by decide), turn_keep hgr hr hZ (by decide), turn_below hgr hr h1 (Nat.le_trans h2 hs) hw, Nat.le_trans hs hgr.size⟩
theorem leaves_put {T : TypeId} {base : Nat} (W : World) (g k : Nat) (n9 s9 a9 b9 : Int) (g9 : Bool) (t9 : List UInt8) (d9 e9 : Int) : LeavesT T (fun j => j = g) base W (((((((((W.setCell ⟨g, k * 8, none⟩ (.int .i64 n9)).setCell ⟨g, k * 8 + 1, none⟩ (.int .i64 s9)).setCell ⟨g, k * 8 + 2, none⟩ (.int .i64 a9)).setCell ⟨g, k * 8 + 3, none⟩ (.int .i64 b9)).setCell ⟨g, k * 8 + 4, none⟩ (.bool g9)).setCell ⟨g, k * 8 + 5, none⟩ (.string (text t9))).setCell ⟨g, k * 8 + 6, none⟩ (.int .i64 d9)).setCell ⟨g, k * 8 + 7, none⟩ (.int .i64 e9))) :=
  ⟨(cells_put_below (w := W) (k := k) (Below.refl 0 W) (Nat.zero_le g) n9 s9 a9 b9 g9 t9 d9 e9).size, fun j o hj hb _ => (cells_put_other hb n9 s9 a9 b9 g9 t9 d9 e9).trans hj⟩

set_option maxRecDepth 100000 in
set_option maxHeartbeats 12800000 in
theorem rowjoin_c {w : World} {x xa xb : Option Addr} {n1 cap ma capa mb capb : Nat} {gs : List Grp} {ca cb : List Cl} (hg : Grs w x n1 cap gs) (hs : ∀ g ∈ gs, g.1.length ≤ 9223372036854775807)
    (hla : Cls w xa ma capa ca) (hxa : ∀ c ∈ ca, c.t.length ≤ 9223372036854775807) (ka : List UInt8) (hka : ka.length ≤ 9223372036854775807)
    (hlb : Cls w xb mb capb cb) (hxb : ∀ c ∈ cb, c.t.length ≤ 9223372036854775807) (kb : List UInt8) (hkb : kb.length ≤ 9223372036854775807) :
    Calls Tryd.prog 25 #[.slice x n1 cap, .agg #[.string (text ka), .slice xa ma capa], .agg #[.string (text kb), .slice xb mb capb]] w (RowPost (rjoinS gs ka ca kb cb) w) := by
  have hgl := hg.len
  have hal := hla.len
  have hbl := hlb.len
  have hlea := hla.le
  have hmaxa := hla.max
  have hleb := hlb.le
  have hmaxb := hlb.max
  have hGA := fun W (h : Below w.heap.size w W) => rowgood_c (hg.below h) hs (hla.below h) hxa ka hka
  have hGB := fun W (h : Below w.heap.size w W) => rowgood_c (hg.below h) hs (hlb.below h) hxb kb hkb
  have hCP := fun (hm : ma ≤ 1000000) W (h : Below w.heap.size w W) => copied_c (hla.below h) hm (text ka)
  have HIA := Lib.hid (@rgood_inv gs ka ca)
  have HIB := Lib.hid (@rgood_inv gs kb cb)
  have hts := text_same ka kb
  obtain ⟨RA, hRA⟩ : ∃ z, rgoodS gs ka ca = z := ⟨_, rfl⟩
  obtain ⟨RB, hRB⟩ : ∃ z, rgoodS gs kb cb = z := ⟨_, rfl⟩
  have hRV : rjoinS gs ka ca kb cb = if ¬ RA = 0 then ([], [], RA) else if ¬ RB = 0 then ([], [], RB) else if ¬ ka = kb then ([], [], 100) else (ka, zipN ca cb ca.length, 0) := by unfold rjoinS; rw [hRA, hRB]
  simp only [hRA] at hGA
  simp only [hRB] at hGB
  rw [hRA] at HIA
  rw [hRB] at HIB
  obtain ⟨RV, hRVe⟩ : ∃ z, rjoinS gs ka ca kb cb = z := ⟨_, rfl⟩
  rw [hRVe] at hRV ⊢
  obtain ⟨tka, htka⟩ : ∃ z, text ka = z := ⟨_, rfl⟩
  obtain ⟨tkb, htkb⟩ : ∃ z, text kb = z := ⟨_, rfl⟩
  rw [htka] at hGA hCP ⊢
  rw [htkb] at hGB ⊢
  rw [htka, htkb] at hts
  obtain ⟨KE, hKE⟩ : ∃ z, decide (ka = kb) = z := ⟨_, rfl⟩
  rw [hKE] at hts
  have HTK := Lib.hid htka
  have HRV := Lib.hid hRV
  have HKE := Lib.hid hKE
  have HGA := Lib.hid hGA
  have HGB := Lib.hid hGB
  have HCP := Lib.hid hCP
  have hb := ((alloc_below w (.cells #[.string tka, .slice xa ma capa] 25)).alloc (by simp) (.cells #[.string tkb, .slice xb mb capb] 25)).alloc (by simp; omega) (.cells #[.string ⟨#[]⟩, .slice none 0 0] 25)
  have hra : (((w.alloc (.cells #[.string tka, .slice xa ma capa] 25)).alloc (.cells #[.string tkb, .slice xb mb capb] 25)).alloc (.cells #[.string ⟨#[]⟩, .slice none 0 0] 25)).heap[w.heap.size]? = some (.cells #[.string tka, .slice xa ma capa] 25 (0, 0)) := (Below.heap_alloc _ _ _ (by simp; omega)).trans ((Below.heap_alloc _ _ _ (by simp)).trans (heap_alloc_new w _))
  have hrb := heap_below (heap_alloc_new (w.alloc (.cells #[.string tka, .slice xa ma capa] 25)) (.cells #[.string tkb, .slice xb mb capb] 25)) (alloc_below _ (.cells #[.string ⟨#[]⟩, .slice none 0 0] 25))
  have hz := heap_alloc_new ((w.alloc (.cells #[.string tka, .slice xa ma capa] 25)).alloc (.cells #[.string tkb, .slice xb mb capb] 25)) (.cells #[.string ⟨#[]⟩, .slice none 0 0] 25)
  simp only [World.size_alloc] at hrb hz
  clear hGA hGB hCP hRA hRB hRV hRVe htka htkb hKE
  have hi0 := rowidx0 tka tkb xa xb ma mb capa capb
  have hi1 := rowidx1 tka tkb xa xb ma mb capa capb
  refine (callsIn_wide (n := 3)).1 ?_
  refine callsIn_of_wp_marks Tryd.func25 rfl trivial ?_ rfl
  simp only [Tryd.ntmps25, List.size_toArray, List.length_cons, List.length_nil, Nat.reduceAdd, Nat.reduceSub, Array.replicate_succ, Array.replicate_zero, List.push_toArray, List.append_toArray, List.nil_append, List.cons_append]
  refine wpIn_wide.2 ?_
  go_upto_region 1 with (fail)
  obtain ⟨B, hB⟩ : ∃ q, w.heap.size = q := ⟨_, rfl⟩
  have HBe := Lib.hid hB
  rw [hB] at hra hrb hz ⊢
  clear hB
  generalize ((w.alloc (.cells #[.string tka, .slice xa ma capa] 25)).alloc (.cells #[.string tkb, .slice xb mb capb] 25)).alloc (.cells #[.string ⟨#[]⟩, .slice none 0 0] 25) = W1 at *
  obtain ⟨r0, r1, -⟩ := row_cells hra
  obtain ⟨s0, s1, -⟩ := row_cells hrb
  have HA1 := Lib.hid hra
  have HR1 := Lib.hid hrb
  have HZ1 := Lib.hid hz
  have HB1 := Lib.hid hb
  clear hra hrb hz hb
  go_wp2
  refine wp_loop_rounds 3 ?_
  rw [rounds_succ]
  obtain ⟨u0, u1, -⟩ := row_cells (heap_alloc_new W1 (.cells #[.string tka, .slice xa ma capa] 25))
  have HBa := Lib.hid (HB1.out.alloc HB1.out.size (.cells #[.string tka, .slice xa ma capa] 25))
  have hal1 := alloc_below W1 (.cells #[.string tka, .slice xa ma capa] 25)
  have HA2 := Lib.hid (heap_below HA1.out hal1)
  have HR2 := Lib.hid (heap_below HR1.out hal1)
  have HZ2 := Lib.hid (heap_below HZ1.out hal1)
  have hbad : ∀ (f : Int), RV = ([], [], f) → ∀ (W : World), Below w.heap.size w W → RowPost RV w (.returned (.tuple #[.agg #[.string ⟨#[]⟩, .slice none 0 0], .int .i64 f])) ((W.setCell ⟨B + 1 + 1, 0, none⟩ (.string ⟨#[]⟩)).setCell ⟨B + 1 + 1, 1, none⟩ (.slice none 0 0)) := fun f h W hW => by
    rw [h]
    exact ⟨_, rfl, OwnC.nil _ _, (hW.setCell (p := ⟨B + 1 + 1, 0, none⟩) (by have := HBe.out; simp; omega) _).setCell (p := ⟨B + 1 + 1, 1, none⟩) (by have := HBe.out; simp; omega) _⟩
  have HBAD := Lib.hid hbad
  clear hbad hal1 r0 r1 s0 s1
  by_cases h0 : RA = 0
  · subst h0
    go_wp2_with (go_at_call 14; (with_reducible refine (HGA.out _ HBa.out).mono ?_); rintro e9 w2 ⟨rfl, hb2⟩; have HB2 := Lib.hid (HBa.out.trans (hb2.mono HBa.out.size)); have HA3 := Lib.hid (heap_below HA2.out hb2); have HR3 := Lib.hid (heap_below HR2.out hb2); have HZ3 := Lib.hid (heap_below HZ2.out hb2); clear hb2 u0 u1)
    rw [rounds_succ]
    clear HA1 HA2 HR1 HR2 HZ1 HZ2 HB1 HBa HGA
    obtain ⟨u0, u1, -⟩ := row_cells (heap_alloc_new w2 (.cells #[.string tkb, .slice xb mb capb] 25))
    have HBb := Lib.hid (HB2.out.alloc HB2.out.size (.cells #[.string tkb, .slice xb mb capb] 25))
    have hal2 := alloc_below w2 (.cells #[.string tkb, .slice xb mb capb] 25)
    have HA4 := Lib.hid (heap_below HA3.out hal2)
    have HR4 := Lib.hid (heap_below HR3.out hal2)
    have HZ4 := Lib.hid (heap_below HZ3.out hal2)
    clear hal2 HA3 HR3 HZ3
    by_cases h1 : RB = 0
    · subst h1
      go_wp2_with (go_at_call 14; (with_reducible refine (HGB.out _ HBb.out).mono ?_); rintro e9 w3 ⟨rfl, hb3⟩; have HB3 := Lib.hid (HBb.out.trans (hb3.mono HBb.out.size)); have HA5 := Lib.hid (heap_below HA4.out hb3); have HR5 := Lib.hid (heap_below HR4.out hb3); have HZ5 := Lib.hid (heap_below HZ4.out hb3); clear hb3 u0 u1)
      rw [rounds_succ]
      clear HA4 HR4 HZ4 HBb HGB HB2
      obtain ⟨r0, r1, -⟩ := row_cells HA5.out
      obtain ⟨s0, s1, -⟩ := row_cells HR5.out
      cases KE with
      | false =>
        have HRR := Lib.hid (show RV = ([], [], 100) by rw [HRV.out, if_neg (by simp), if_neg (by simp), if_pos (of_decide_eq_false HKE.out)])
        obtain ⟨z0, z1, zf⟩ := row_cells HZ5.out
        go_wp2
        exact ⟨_, res_cell_tmp rfl _ _ (B + 1 + 1) 25 _ (0, 0) _ (.int .i64 100) rfl rfl (row_set HZ5.out ⟨#[]⟩ (.slice none 0 0)) Tryd.underlying25 rfl (by kernel_rfl), HBAD.out _ HRR.out _ HB3.out⟩
      | true =>
        have hkk : ka = kb := of_decide_eq_true HKE.out
        have HRR := Lib.hid (show RV = (ka, zipN ca cb ca.length, 0) by rw [HRV.out, if_neg (by simp), if_neg (by simp), if_neg (by simp [hkk])])
        have hpg := (HIA.out (by first | rfl | trivial)).1
        have hla2 := (HIA.out (by first | rfl | trivial)).2.2.1
        have hlb2 := (HIB.out (by first | rfl | trivial)).2.2.1
        have h4 := pgood_len hpg
        have hma : ma = n1 := by omega
        have hmb : mb = n1 := by omega
        subst hma
        subst hmb
        have hm4 : mb ≤ 4 := by omega
        clear HIA HIB hpg hla2 hlb2 hkk HRV HKE HBAD
        go_upto_region 11 with (go_at_call 49; (with_reducible refine (HCP.out (by omega) _ HB3.out).mono ?_); rintro e9 w5 ⟨gg, rfl, hgg, hgc, hb5⟩)
        have hal := alloc_below w5 (.cells #[.string tka, .slice (some ⟨gg, 0, none⟩) mb mb] 25)
        have HS6 := Lib.hid (heap_alloc_new w5 (.cells #[.string tka, .slice (some ⟨gg, 0, none⟩) mb mb] 25))
        have HG6 := Lib.hid (heap_below hgc hal)
        have HA6 := Lib.hid (heap_below (heap_below HA5.out hb5) hal)
        have HR6 := Lib.hid (heap_below (heap_below HR5.out hb5) hal)
        have HZ6 := Lib.hid (heap_below (heap_below HZ5.out hb5) hal)
        have HB6 := Lib.hid ((HB3.out.trans (hb5.mono HB3.out.size)).trans (hal.mono (Nat.le_trans HB3.out.size hb5.size)))
        have HGB := Lib.hid (Nat.le_trans HB3.out.size hgg)
        have HGS := Lib.hid (show gg < w5.heap.size from (Array.getElem?_eq_some_iff.1 hgc).1)
        have HZS := Lib.hid (show B + 1 + 1 < gg from Nat.lt_of_lt_of_le (Array.getElem?_eq_some_iff.1 HZ5.out).1 hgg)
        obtain ⟨S, hS⟩ : ∃ q, w5.heap.size = q := ⟨_, rfl⟩
        rw [hS] at HS6 HGS ⊢
        generalize w5.alloc (.cells #[.string tka, .slice (some ⟨gg, 0, none⟩) mb mb] 25) = W6 at *
        clear hal hb5 hgc hgg hS r0 r1 s0 s1 HA5 HR5 HZ5 HB3 HCP hi0 hi1 hts
        obtain ⟨s0, s1, -⟩ := row_cells HR6.out
        go_wp2_with (go_at_call 38; (with_reducible refine places_c.mono ?_); rintro e9 w7 ⟨rfl, rfl⟩)
        have bL := heap_alloc_new W6 (.cells #[.slice x mb cap] 22)
        have bR := heap_alloc_new (W6.alloc (.cells #[.slice x mb cap] 22)) (.cells #[.string tkb, .slice xb mb capb] 25)
        replace bL := (Below.heap_alloc (W6.alloc (.cells #[.slice x mb cap] 22)) (.cells #[.string tkb, .slice xb mb capb] 25) W6.heap.size (by simp)).trans bL
        simp only [World.size_alloc] at bR
        have hbW := (alloc_below W6 (.cells #[.slice x mb cap] 22)).alloc (by simp) (.cells #[.string tkb, .slice xb mb capb] 25)
        have hsz : ((W6.alloc (.cells #[.slice x mb cap] 22)).alloc (.cells #[.string tkb, .slice xb mb capb] 25)).heap.size = W6.heap.size + 1 + 1 := by simp
        have hSlt : S < W6.heap.size := (Array.getElem?_eq_some_iff.1 HS6.out).1
        obtain ⟨W0, hW0⟩ : ∃ W0, (W6.alloc (.cells #[.slice x mb cap] 22)).alloc (.cells #[.string tkb, .slice xb mb capb] 25) = W0 := ⟨_, rfl⟩
        rw [hW0] at bL bR hbW hsz ⊢
        clear hW0
        have hB0 := HB6.out.trans (hbW.mono HB6.out.size)
        have hS0 := heap_below HS6.out hbW
        have hA0 := heap_below HA6.out hbW
        have hZ0 := heap_below HZ6.out hbW
        have hG0' := heap_below HG6.out hbW
        obtain ⟨G0, hG⟩ : ∃ q, W6.heap.size = q := ⟨_, rfl⟩
        rw [hG] at bL bR hsz hSlt ⊢
        have HSZ := Lib.hid hsz
        have HSL := Lib.hid hSlt
        obtain ⟨Q9, hQ9⟩ : ∃ q, w2.heap.size = q := ⟨_, rfl⟩
        rw [hQ9]
        have hgs0 := HGS.out
        have hzs0 := HZS.out
        clear hG hbW hQ9 s0 s1 HS6 HG6 HA6 HR6 HZ6 HB6
        refine (wpIn_wide (n := 3)).1 ?_
        refine wpIn_range_tells (F := Fence.wide) rfl (by omega) (gf := 62) (lb := #[.pointer (some ⟨G0, 0, none⟩), .pointer (some ⟨G0 + 1, 0, none⟩)]) rfl trivial (enters_of Tryd.func62 (by kernel_rfl) rfl)
          (places_tells hg hlb hB0 2 G0 (G0 + 1) (by omega) (by omega) bL bR) KP.trans (fun W l o o' hl h ho _ => KP.putObj W l o o' (by have := hB0.size; omega) (by rintro k (rfl | rfl) <;> omega) h)
          (fun xs X Y row hs hg hr => hs) (fun xs X Y row hs hg hr => hs) (fun _ => rfl)
          (JoinI ca cb (.cells #[.string tka, .slice (some ⟨gg, 0, none⟩) mb mb] 25 (0, 0)) (.cells #[.string tka, .slice xa mb capa] 25 (0, 0)) (.cells #[.string ⟨#[]⟩, .slice none 0 0] 25 (0, 0)) w.heap.size gg S B (B + 1 + 1) W0.heap.size w) (fun _ _ _ => False) (JoinI.own hB0.size hB0.size) (fun c xs X Y row hs hg hr => hs)
          ⟨hG0', hS0, hA0, hZ0, hB0, Nat.le_refl _⟩
          (PlaceA gs cb (fun q k => #[.slice x mb cap, .agg #[.string tka, .slice xa mb capa], .agg #[.string tkb, .slice xb mb capb], undef, .pointer (some ⟨B, 0, none⟩), .pointer (some ⟨B + 1, 0, none⟩), .pointer (some ⟨B + 1 + 1, 0, none⟩), .int .i64 0, undef, .pointer (some ⟨Q9, 0, none⟩), .int .i64 0, .pointer (some ⟨S, 0, none⟩), .pointer (some ⟨q, 0, none⟩), .agg #[.string tka, .slice xa mb capa], .agg #[.string tkb, .slice xb mb capb], .agg #[.string tka, .slice xa mb capa, .string tkb, .slice xb mb capb], .int .i64 2, .bool false, .agg #[.string tkb, .slice xb mb capb], .slice x mb cap, .agg #[.string tkb, .slice xb mb capb], .int .i64 0, .int .i64 0, .bool false, undef, undef, .int .i64 2, .pointer (some ⟨B, 0, none⟩), .string tka, .pointer (some ⟨B + 1, 0, none⟩), .string tkb, .bool false, undef, .agg #[.string tka, .slice xa mb capa], .agg #[.string tka, .slice (some ⟨gg, 0, none⟩) mb mb], .slice x mb cap, .agg #[.string tkb, .slice xb mb capb], .func (.func 62) #[] #[.pointer (some ⟨G0, 0, none⟩), .pointer (some ⟨G0 + 1, 0, none⟩)], .agg (placeA gs cb k), undef, undef, undef, undef, undef, undef, undef, undef, undef, undef, undef, undef, undef, undef, undef, undef])) (fun k a' => PlaceA.own k a') ?assign ?body ?done ?stop
        case assign =>
          rintro q pre k W K hI - hK
          obtain ⟨y, hck⟩ : ∃ y, cb.getD k Cl.zero = y := ⟨_, rfl⟩
          dsimp only [penc]
          rw [hck]
          obtain ⟨n, s, a, b, g, t, d, e⟩ := y
          dsimp only
          gi_wp2
          have h3 := HSZ.out
          have h5 := hI.2.2.2.2.2
          have h6 := hB0.size
          refine hK _ _ ((KeepsOthers.alloc _ _).from _) (KP.of_below (by omega) ((Below.refl _ W).alloc (Nat.le_refl _) _)) ((JoinI.own (B9 := W0.heap.size) hB0.size hB0.size).from.alloc _ hI) ⟨W.heap.size, ?_, ?_⟩
          · unfold placeA; rw [hck]; exact heap_alloc_new W _
          · dsimp only; unfold placeA; rw [hck]; rfl
        case body =>
          rintro q pre k a' W ⟨hgW, hSW, hAW, hZW, hw, hs2⟩ ⟨g9, hpq, rfl⟩ ⟨rfl, hlt⟩
          obtain ⟨k, hkp⟩ : ∃ k, pre.length = k := ⟨_, rfl⟩
          rw [hkp] at hlt hpq hgW ⊢
          unfold placeA at hpq
          dsimp only [placeA]
          have hlk : k < (zipN ca cb k).length := by rw [zipN_len]; omega
          have hkm : (k : Int) < (mb : Int) := by omega
          have hkc : (k : Int) < (capa : Int) := by omega
          obtain ⟨bk, off, rfl, hat⟩ := hla.at hlt
          have hzg := zipN_get ca cb k (by omega) k
          rw [if_neg (by omega)] at hzg
          have hzs : zipN ca cb (k + 1) = (zipN ca cb k).set k (joinC [ca.getD k Cl.zero, cb.getD k Cl.zero]) := rfl
          obtain ⟨⟨nm, pk⟩, hgk⟩ : ∃ y, gs.getD k ([], 0) = y := ⟨_, rfl⟩
          obtain ⟨y, hck⟩ : ∃ y, cb.getD k Cl.zero = y := ⟨_, rfl⟩
          obtain ⟨z, hdk⟩ : ∃ y, ca.getD k Cl.zero = y := ⟨_, rfl⟩
          rw [hgk, hck] at hpq ⊢
          rw [hdk] at hat hzg
          rw [hdk, hck] at hzs
          obtain ⟨n, s, a, b, g, t, d, e⟩ := y
          obtain ⟨n', s', a', b', g', t', d', e'⟩ := z
          obtain ⟨y, hj⟩ : ∃ y, joinC [⟨n', s', a', b', g', t', d', e'⟩, ⟨n, s, a, b, g, t, d, e⟩] = y := ⟨_, rfl⟩
          rw [hj] at hzs
          obtain ⟨n9, s9, a9, b9, g9b, t9, d9, e9⟩ := y
          dsimp only at hpq ⊢
          have HJ9 := Lib.hid hj
          have HZG := Lib.hid hzg
          have HZN := Lib.hid hzs
          have HPW := Lib.hid (fun W1 (h : Below W.heap.size W W1) => hat W1 (hw.trans (h.mono hw.size)))
          have HSW := Lib.hid (fun W1 (h : Below W.heap.size W W1) => row_cells (heap_below hSW h))
          have HAW := Lib.hid (fun W1 (h : Below W.heap.size W W1) => row_cells (heap_below hAW h))
          have HQW := Lib.hid (fun W1 (h : Below W.heap.size W W1) => And.intro (show W1.cell? ⟨g9, 0, none⟩ = some (.int .i64 (k : Int)) by rw [cell_of_row _ g9 0 _ _ (0, 0) (heap_below hpq h)]; rfl) (place_cells (heap_below hpq h)))
          have HH := Lib.hid (And.intro hgW (And.intro hSW (And.intro hAW (And.intro hZW (And.intro hw hs2)))))
          clear hat hj hgk hck hdk hzg hzs hgW hSW hAW hZW hw hs2 hpq
          gi_wp2_with fail
          refine wpIn_region_flow (fun x y => Below x.heap.size x y) 15 [none, none, none, none, none, none, none, none, none, none, none, none, none, none, none, none, none, none, none, none, none, none, none, none, none, none, none, none, none, none, none, none, none, none, none, none, none, none, none, some 0, some 1, some 2, some 3, some 4, some 5, some 6, some 7, some 8, some 9, some 10, some 11, some 12, some 13, some 14, none] (fun i => [undef, undef, undef, undef, undef, undef, undef, undef, undef, undef, undef, undef, undef, undef, undef].getD i undef) [(fun v _ => v = .pointer (some ⟨S, 1, none⟩)), (fun v _ => v = .slice (some ⟨gg, 0, none⟩) mb mb), (fun v _ => v = .pointer (some ⟨g9, 0, none⟩)), (fun v _ => v = .int .i64 (k : Int)), (fun v _ => v = .pointer (some ⟨B, 1, none⟩)), (fun v _ => v = .slice (some ⟨bk, off, none⟩) mb capa), (fun v _ => v = .pointer (some ⟨g9, 0, none⟩)), (fun v _ => v = .int .i64 (k : Int)), (fun v _ => v = .pointer (some ⟨bk, off + k * 8, none⟩)), (fun v _ => v = .agg #[.int .i64 n', .int .i64 s', .int .i64 a', .int .i64 b', .bool g', .string (text t'), .int .i64 d', .int .i64 e']), (fun v _ => v = .pointer (some ⟨g9, 2, none⟩)), (fun v _ => v = .agg #[.int .i64 n, .int .i64 s, .int .i64 a, .int .i64 b, .bool g, .string (text t), .int .i64 d, .int .i64 e]), (ClsV [⟨n', s', a', b', g', t', d', e'⟩, ⟨n, s, a, b, g, t, d, e⟩]), (fun v _ => v = .agg #[.int .i64 n9, .int .i64 s9, .int .i64 a9, .int .i64 b9, .bool g9b, .string (text t9), .int .i64 d9, .int .i64 e9]), (fun v _ => v = .pointer (some ⟨gg, k * 8, none⟩))] (fun _ => False) (by kernel_rfl) (by kernel_rfl) (by kernel_rfl) rfl rfl rfl (fun a b c h1 h2 => h1.trans (h2.mono h1.size)) ⟨rfl, rfl, rfl, Nat.le_refl _, fun _ _ => rfl⟩ ?_ ?_ ?_
          · intro g hg v X Y hX hY hv
            simp only [List.mem_cons, List.not_mem_nil, or_false] at hg
            rcases hg with rfl | rfl | rfl | rfl | rfl | rfl | rfl | rfl | rfl | rfl | rfl | rfl | rfl | rfl | rfl
            all_goals first
              | exact hv
              | exact hv.kept hY
          · simp only [flowOpsI, List.take_succ_cons, List.take_zero, and_true]
            refine ⟨?_, ?_, ?_, ?_, ?_, ?_, ?_, ?_, ?_, ?_, ?_, ?_, ?_, ?_, ?_⟩
            · intro xs W1 hW hn
              simp only [flowAct, List.zipWith_cons_cons, List.zipWith_nil_left]
              gi_wp2_with (fail)
              exact ⟨rfl, _, rfl, Below.refl _ _, rfl, fun h => h.elim⟩
            · intro xs W1 hW hn
              obtain ⟨-, f1, -⟩ := HSW.out W1 hW
              simp [flowNeeds, Region.binds] at hn
              simp only [flowAct, List.zipWith_cons_cons, List.zipWith_nil_left]
              try simp only [hn]
              gi_wp2_with (fail)
              exact ⟨rfl, _, rfl, Below.refl _ _, rfl, fun h => h.elim⟩
            · intro xs W1 hW hn
              simp only [flowAct, List.zipWith_cons_cons, List.zipWith_nil_left]
              gi_wp2_with (fail)
              exact ⟨rfl, _, rfl, Below.refl _ _, rfl, fun h => h.elim⟩
            · intro xs W1 hW hn
              obtain ⟨c, c0, c1, c2, c3, c4, c5, c6, c7⟩ := HQW.out W1 hW
              simp [flowNeeds, Region.binds] at hn
              simp only [flowAct, List.zipWith_cons_cons, List.zipWith_nil_left]
              try simp only [hn]
              gi_wp2_with (fail)
              exact ⟨rfl, _, rfl, Below.refl _ _, rfl, fun h => h.elim⟩
            · intro xs W1 hW hn
              simp only [flowAct, List.zipWith_cons_cons, List.zipWith_nil_left]
              gi_wp2_with (fail)
              exact ⟨rfl, _, rfl, Below.refl _ _, rfl, fun h => h.elim⟩
            · intro xs W1 hW hn
              obtain ⟨-, f2, -⟩ := HAW.out W1 hW
              simp [flowNeeds, Region.binds] at hn
              simp only [flowAct, List.zipWith_cons_cons, List.zipWith_nil_left]
              try simp only [hn]
              gi_wp2_with (fail)
              exact ⟨rfl, _, rfl, Below.refl _ _, rfl, fun h => h.elim⟩
            · intro xs W1 hW hn
              simp only [flowAct, List.zipWith_cons_cons, List.zipWith_nil_left]
              gi_wp2_with (fail)
              exact ⟨rfl, _, rfl, Below.refl _ _, rfl, fun h => h.elim⟩
            · intro xs W1 hW hn
              obtain ⟨c, c0, c1, c2, c3, c4, c5, c6, c7⟩ := HQW.out W1 hW
              simp [flowNeeds, Region.binds] at hn
              simp only [flowAct, List.zipWith_cons_cons, List.zipWith_nil_left]
              try simp only [hn]
              gi_wp2_with (fail)
              exact ⟨rfl, _, rfl, Below.refl _ _, rfl, fun h => h.elim⟩
            · intro xs W1 hW hn
              simp [flowNeeds, Region.binds] at hn
              simp only [flowAct, List.zipWith_cons_cons, List.zipWith_nil_left]
              try simp only [hn]
              gi_wp2_with (fail)
              exact ⟨rfl, _, rfl, Below.refl _ _, rfl, fun h => h.elim⟩
            · intro xs W1 hW hn
              obtain ⟨p0, p1, p2, p3, p4, p5, p6, p7⟩ := HPW.out W1 hW
              simp only at p0 p1 p2 p3 p4 p5 p6 p7
              simp [flowNeeds, Region.binds] at hn
              simp only [flowAct, List.zipWith_cons_cons, List.zipWith_nil_left]
              try simp only [hn]
              gi_wp2_with (fail)
              exact ⟨rfl, _, rfl, Below.refl _ _, rfl, fun h => h.elim⟩
            · intro xs W1 hW hn
              simp only [flowAct, List.zipWith_cons_cons, List.zipWith_nil_left]
              gi_wp2_with (fail)
              exact ⟨rfl, _, rfl, Below.refl _ _, rfl, fun h => h.elim⟩
            · intro xs W1 hW hn
              obtain ⟨c, c0, c1, c2, c3, c4, c5, c6, c7⟩ := HQW.out W1 hW
              simp [flowNeeds, Region.binds] at hn
              simp only [flowAct, List.zipWith_cons_cons, List.zipWith_nil_left]
              try simp only [hn]
              gi_wp2_with (fail)
              exact ⟨rfl, _, rfl, Below.refl _ _, rfl, fun h => h.elim⟩
            · intro xs W1 hW hn
              simp [flowNeeds, Region.binds] at hn
              simp only [flowAct, List.zipWith_cons_cons, List.zipWith_nil_left]
              simp only [hn]
              gi_wp2_with (fail)
              exact ⟨rfl, _, rfl, alloc_below _ _, ⟨_, _, _, rfl, cls2 _ _ _ _ _ _ _ _ _ _ _ _ _ _ _ _ _⟩, fun h => h.elim⟩
            · intro xs W1 hW hn
              simp [flowNeeds, Region.binds] at hn
              obtain ⟨a8, n8, k8, hv8, hc8⟩ := hn
              have HJJ := Lib.hid (join_c hc8)
              rw [HJ9.out] at HJJ
              clear hc8
              simp only [flowAct, List.zipWith_cons_cons, List.zipWith_nil_left]
              simp only [hv8]
              gi_wp2_with (fail)
              refine ⟨trivial, (CallsIn.inRound q (callsIn_wide.2 HJJ.out)).mono ?_⟩
              rintro e8 w9 ⟨rfl, hb9⟩
              try gi_wp2_with (fail)
              exact ⟨rfl, _, rfl, hb9, rfl, fun h => h.elim⟩
            · intro xs W1 hW hn
              simp [flowNeeds, Region.binds] at hn
              simp only [flowAct, List.zipWith_cons_cons, List.zipWith_nil_left]
              try simp only [hn]
              gi_wp2_with (fail)
              exact ⟨rfl, _, rfl, Below.refl _ _, rfl, fun h => h.elim⟩
          · intro xs W1 hW hall hfr
            clear hfr
            simp only [flowAll, and_true, Nat.zero_add, Nat.reduceAdd] at hall
            obtain ⟨-, -, -, -, -, -, -, -, -, -, -, -, -, y13, y14⟩ := hall
            simp only [flowAct, List.zipWith_cons_cons, List.zipWith_nil_left, List.drop_succ_cons, List.drop_zero]
            simp only [y13, y14]
            obtain ⟨hgW0, hSW0, hAW0, hZW0, hw0, hs0⟩ := HH.out
            have hgW := heap_below hgW0 hW
            have hq : ∀ j, j < 8 → W1.cell? ⟨gg, k * 8 + j, none⟩ = ((zipN ca cb k).getD k Cl.zero).arr[j]? := fun j hj => by
              rw [cell_of_row W1 gg _ _ _ (0, 0) hgW, List.getElem?_toArray, cCells_get (zipN ca cb k) k j hlk hj]
            rw [HZG.out] at hq
            have q0 : W1.cell? ⟨gg, k * 8, none⟩ = some (.int .i64 n') := hq 0 (by omega)
            have q1 : W1.cell? ⟨gg, k * 8 + 1, none⟩ = some (.int .i64 s') := hq 1 (by omega)
            have q2 : W1.cell? ⟨gg, k * 8 + 2, none⟩ = some (.int .i64 a') := hq 2 (by omega)
            have q3 : W1.cell? ⟨gg, k * 8 + 3, none⟩ = some (.int .i64 b') := hq 3 (by omega)
            have q4 : W1.cell? ⟨gg, k * 8 + 4, none⟩ = some (.bool g') := hq 4 (by omega)
            have q5 : W1.cell? ⟨gg, k * 8 + 5, none⟩ = some (.string (text t')) := hq 5 (by omega)
            have q6 : W1.cell? ⟨gg, k * 8 + 6, none⟩ = some (.int .i64 d') := hq 6 (by omega)
            have q7 : W1.cell? ⟨gg, k * 8 + 7, none⟩ = some (.int .i64 e') := hq 7 (by omega)
            have hqf : ∀ j, W1.frozen? ⟨gg, j, none⟩ = false := fun j => frozen_of_row _ gg j _ _ hgW
            have hgs := HGS.out
            have hzs := HZS.out
            have hsl := HSL.out
            have h3 := HSZ.out
            have h6 := hB0.size
            have hbe := HBe.out
            have hgb := HGB.out
            have hput := cells_put hgW hlk n9 s9 a9 b9 g9b t9 d9 e9
            have hL : LeavesT 87 (fun j => j = gg) W0.heap.size W ((((((((W1.setCell ⟨gg, k * 8, none⟩ (.int .i64 n9)).setCell ⟨gg, k * 8 + 1, none⟩ (.int .i64 s9)).setCell ⟨gg, k * 8 + 2, none⟩ (.int .i64 a9)).setCell ⟨gg, k * 8 + 3, none⟩ (.int .i64 b9)).setCell ⟨gg, k * 8 + 4, none⟩ (.bool g9b)).setCell ⟨gg, k * 8 + 5, none⟩ (.string (text t9))).setCell ⟨gg, k * 8 + 6, none⟩ (.int .i64 d9)).setCell ⟨gg, k * 8 + 7, none⟩ (.int .i64 e9)) := (LeavesT.below hW).trans (leaves_put W1 gg k n9 s9 a9 b9 g9b t9 d9 e9)
            have hbP : Below w.heap.size W ((((((((W1.setCell ⟨gg, k * 8, none⟩ (.int .i64 n9)).setCell ⟨gg, k * 8 + 1, none⟩ (.int .i64 s9)).setCell ⟨gg, k * 8 + 2, none⟩ (.int .i64 a9)).setCell ⟨gg, k * 8 + 3, none⟩ (.int .i64 b9)).setCell ⟨gg, k * 8 + 4, none⟩ (.bool g9b)).setCell ⟨gg, k * 8 + 5, none⟩ (.string (text t9))).setCell ⟨gg, k * 8 + 6, none⟩ (.int .i64 d9)).setCell ⟨gg, k * 8 + 7, none⟩ (.int .i64 e9)) := cells_put_below (k := k) (hW.mono (show w.heap.size ≤ W.heap.size by omega)) hgb n9 s9 a9 b9 g9b t9 d9 e9
            have HR := Lib.hid (show RoundPost W0.heap.size (KP w.heap.size (two9 G0 (G0 + 1))) (fun _ => True) (JoinI ca cb (.cells #[.string tka, .slice (some ⟨gg, 0, none⟩) mb mb] 25 (0, 0)) (.cells #[.string tka, .slice (some ⟨bk, off, none⟩) mb capa] 25 (0, 0)) (.cells #[.string ⟨#[]⟩, .slice none 0 0] 25 (0, 0)) w.heap.size gg S B (B + 1 + 1) W0.heap.size w) (fun _ _ _ => False) pre k W .normal { tmps := #[], defers := [] } ((((((((W1.setCell ⟨gg, k * 8, none⟩ (.int .i64 n9)).setCell ⟨gg, k * 8 + 1, none⟩ (.int .i64 s9)).setCell ⟨gg, k * 8 + 2, none⟩ (.int .i64 a9)).setCell ⟨gg, k * 8 + 3, none⟩ (.int .i64 b9)).setCell ⟨gg, k * 8 + 4, none⟩ (.bool g9b)).setCell ⟨gg, k * 8 + 5, none⟩ (.string (text t9))).setCell ⟨gg, k * 8 + 6, none⟩ (.int .i64 d9)).setCell ⟨gg, k * 8 + 7, none⟩ (.int .i64 e9)) from
              ⟨hL.keeps (by rintro j rfl; omega), ⟨hbP, fun j o hj ho => hL.same j o ho (by rcases hj with rfl | rfl <;> omega) (.inl (by rcases hj with rfl | rfl <;> omega))⟩, trivial, ⟨by rw [List.length_append, List.length_singleton, hkp, HZN.out]; exact hput, hL.same _ _ hSW0 (by omega) (.inl (by omega)), hL.same _ _ hAW0 (by omega) (.inl (by omega)), hL.same _ _ hZW0 (by omega) (.inl (by omega)), hw0.trans hbP, Nat.le_trans hs0 hL.size⟩⟩)
            clear hq hput hL hbP hgW hgW0 hSW0 hAW0 hZW0 hw0 hs0 hgs hzs hsl h3 h6 hbe hgb
            gi_wp2
            exact HR.out

        case done =>
          rintro D xs W hD hxs ⟨hgW, hSW, hAW, hZW, hw, hs2⟩ hK
          rw [show xs.length = mb from hxs] at hgW
          obtain ⟨s0, s1, -⟩ := row_cells hSW
          obtain ⟨z0, z1, zf⟩ := row_cells hZW
          have HDB := Lib.hid (show S < D by have := HSZ.out; have := HSL.out; omega)
          have HGS2 := Lib.hid HGS.out
          have hDz : D ≠ B + 1 + 1 := by have := HDB.out; omega
          have hDg : D ≠ gg := by have := HDB.out; omega
          have hgz : gg ≠ B + 1 + 1 := by omega
          have hkX : ((W.setCell ⟨B + 1 + 1, 0, none⟩ (.string tka)).setCell ⟨B + 1 + 1, 1, none⟩ (.slice (some ⟨gg, 0, none⟩) mb mb)).heap[D]? = some (.deferred (some [])) :=
            (Below.heap_setCell _ ⟨B + 1 + 1, 1, none⟩ _ D hDz).trans ((Below.heap_setCell _ ⟨B + 1 + 1, 0, none⟩ (.string tka) D hDz).trans hK)
          have hgX := (Below.heap_setCell (W.setCell ⟨B + 1 + 1, 0, none⟩ (.string tka)) ⟨B + 1 + 1, 1, none⟩ (.slice (some ⟨gg, 0, none⟩) mb mb) gg hgz).trans ((Below.heap_setCell W ⟨B + 1 + 1, 0, none⟩ (.string tka) gg hgz).trans hgW)
          have hwX := (hw.setCell (p := ⟨B + 1 + 1, 0, none⟩) (by have := HBe.out; simp; omega) (.string tka)).setCell (p := ⟨B + 1 + 1, 1, none⟩) (by have := HBe.out; simp; omega) (.slice (some ⟨gg, 0, none⟩) mb mb)
          have HKX := Lib.hid hkX
          have HFB := Lib.hid (hwX.trans (belowK_b (w := w) (Nat.le_refl _) _ D _ (.deferred none) (by have := HDB.out; have := HBe.out; omega) hkX rfl rfl))
          have HFG := Lib.hid ((World.putObj_heap_other (o := .deferred none) (show gg ≠ D from hDg.symm)).trans hgX)
          have HFZ := Lib.hid ((World.putObj_heap_other (o := .deferred none) (show B + 1 + 1 ≠ D from hDz.symm)).trans (row_set hZW tka (.slice (some ⟨gg, 0, none⟩) mb mb)))
          clear hgW hSW hAW hZW hw hs2 hK hkX hgX hwX hxs hDz hDg hgz
          go_wp2
          refine ⟨by simp, .inl ⟨_, _, rfl, run_takeDeferred HKX.out, ?_⟩⟩
          refine ⟨_, res_cell_tmp rfl _ _ (B + 1 + 1) 25 _ (0, 0) _ (.int .i64 0) rfl rfl HFZ.out Tryd.underlying25 rfl (by kernel_rfl), ?_⟩
          rw [HRR.out]
          exact ⟨_, by rw [HTK.out], by rw [hal]; exact own_lit HFG.out HGB.out (by rw [zipN_len]; exact hal) (by omega), HFB.out⟩
        case stop => exact fun D c pre W hD _ hf => hf.elim
    · have h1n : (RB != 0) = true := by simpa using h1
      have HRR := Lib.hid (show RV = ([], [], RB) by rw [HRV.out, if_neg (by simp), if_pos h1])
      clear h1
      go_wp2_with (go_at_call 14; (with_reducible refine (HGB.out _ HBb.out).mono ?_); rintro e9 w3 ⟨rfl, hb3⟩; have HB3 := Lib.hid (HBb.out.trans (hb3.mono HBb.out.size)); have HZ5 := Lib.hid (heap_below HZ4.out hb3); clear hb3 u0 u1; obtain ⟨z0, z1, zf⟩ := row_cells HZ5.out)
      exact ⟨_, res_cell_tmp rfl _ _ (B + 1 + 1) 25 _ (0, 0) _ (.int .i64 RB) rfl rfl (row_set HZ5.out ⟨#[]⟩ (.slice none 0 0)) Tryd.underlying25 rfl (by kernel_rfl), HBAD.out _ HRR.out _ HB3.out⟩
  · have h0n : (RA != 0) = true := by simpa using h0
    have HRR := Lib.hid (show RV = ([], [], RA) by rw [HRV.out, if_pos h0])
    clear h0
    go_wp2_with (go_at_call 14; (with_reducible refine (HGA.out _ HBa.out).mono ?_); rintro e9 w2 ⟨rfl, hb2⟩; have HB2 := Lib.hid (HBa.out.trans (hb2.mono HBa.out.size)); have HZ3 := Lib.hid (heap_below HZ2.out hb2); clear hb2 u0 u1; obtain ⟨z0, z1, zf⟩ := row_cells HZ3.out)
    exact ⟨_, res_cell_tmp rfl _ _ (B + 1 + 1) 25 _ (0, 0) _ (.int .i64 RA) rfl rfl (row_set HZ3.out ⟨#[]⟩ (.slice none 0 0)) Tryd.underlying25 rfl (by kernel_rfl), HBAD.out _ HRR.out _ HB2.out⟩
end Go.Proofs.YtkjpmdpljdgcjaaDoor
end

section
/-
  Row: rows put together.
-/
namespace Go.Proofs.YtkjpmdpljdgcjaaDoor
open Go.RowKit Go Go.Sort
set_option linter.unusedVariables false
set_option maxRecDepth 20000

theorem list_getD {l m : List Cl} (h : l.length = m.length) (hg : ∀ i, i < l.length → l.getD i Cl.zero = m.getD i Cl.zero) : l = m := by
  apply List.ext_getElem h
  intro i h1 h2
  have := hg i h1
  simpa [List.getD_eq_getElem?_getD, List.getElem?_eq_getElem h1, List.getElem?_eq_getElem h2] using this
theorem zip_at (ca cb : List Cl) {i : Nat} (hi : i < ca.length) : (zipN ca cb ca.length).getD i Cl.zero = joinC [ca.getD i Cl.zero, cb.getD i Cl.zero] := by
  rw [zipN_get ca cb i hi, if_pos hi]
/-- What is asked of each cell of a good row. -/
theorem good_at {gs : List Grp} {k : List UInt8} {cs : List Cl} (h : rgoodS gs k cs = 0) {i : Nat} (hi : i < cs.length) : (cs.getD i Cl.zero).good (gs.getD i ([], 0)).2 = true := by
  obtain ⟨_, _, h3, h4⟩ := rgood_inv h
  exact h4 i (by omega)
theorem zip_good {gs : List Grp} {k : List UInt8} {ca cb : List Cl} (ha : rgoodS gs k ca = 0) (hb : rgoodS gs k cb = 0) : rgoodS gs k (zipN ca cb ca.length) = 0 := by
  obtain ⟨h1, h2, h3, h4⟩ := rgood_inv ha
  obtain ⟨_, _, h5, h6⟩ := rgood_inv hb
  refine rgood_yes h1 h2 (by rw [zipN_len]; exact h3) fun j hj => ?_
  show ((zipN ca cb ca.length).getD j Cl.zero).good _ = true
  rw [zip_at ca cb (by omega)]
  refine good_join (pgood_pol h1 j hj) fun c hc => ?_
  simp only [List.mem_cons, List.not_mem_nil, or_false] at hc
  rcases hc with rfl | rfl
  · exact h4 j hj
  · exact h6 j hj
theorem set_getD (cs : List Cl) (i j : Nat) (x : Cl) : (cs.set i x).getD j Cl.zero = if i = j ∧ i < cs.length then x else cs.getD j Cl.zero := by
  simp only [List.getD_eq_getElem?_getD, List.getElem?_set]
  by_cases e : i = j
  · subst e
    by_cases h : i < cs.length
    · simp [h]
    · simp [h]
  · simp [e]
theorem set_good {gs : List Grp} {k : List UInt8} {cs : List Cl} {i : Nat} {c : Cl} (h : rgoodS gs k cs = 0) (hi : i < cs.length) (hc : c.good (gs.getD i ([], 0)).2 = true) : rgoodS gs k (cs.set i (joinC [cs.getD i Cl.zero, c])) = 0 := by
  obtain ⟨h1, h2, h3, h4⟩ := rgood_inv h
  refine rgood_yes h1 h2 (by rw [List.length_set]; exact h3) fun j hj => ?_
  show ((cs.set i (joinC [cs.getD i Cl.zero, c])).getD j Cl.zero).good _ = true
  rw [set_getD]
  by_cases e : i = j
  · subst e
    rw [if_pos ⟨rfl, hi⟩]
    refine good_join (pgood_pol h1 i hj) fun x hx => ?_
    simp only [List.mem_cons, List.not_mem_nil, or_false] at hx
    rcases hx with rfl | rfl
    · exact h4 i hj
    · exact hc
  · rw [if_neg (fun h => e h.1)]
    exact h4 j hj
theorem zip_comm {gs : List Grp} {k : List UInt8} {ca cb : List Cl} (ha : rgoodS gs k ca = 0) (hb : rgoodS gs k cb = 0) : zipN ca cb ca.length = zipN cb ca cb.length := by
  have h3 := (rgood_inv ha).2.2.1
  have h5 := (rgood_inv hb).2.2.1
  refine list_getD (by rw [zipN_len, zipN_len]; omega) fun i hi => ?_
  rw [zipN_len] at hi
  rw [zip_at ca cb hi, zip_at cb ca (by omega)]
  have x1 := good_at ha hi
  have x2 := good_at hb (show i < cb.length by omega)
  exact (lattice x1 x2 x1).1
theorem zip_self {gs : List Grp} {k : List UInt8} {ca : List Cl} (ha : rgoodS gs k ca = 0) : zipN ca ca ca.length = ca := by
  refine list_getD (zipN_len ca ca ca.length) fun i hi => ?_
  rw [zipN_len] at hi
  rw [zip_at ca ca hi]
  have x1 := good_at ha hi
  exact (lattice x1 x1 x1).2.2.2.1
theorem zip_assoc {gs : List Grp} {k : List UInt8} {ca cb cc : List Cl} (ha : rgoodS gs k ca = 0) (hb : rgoodS gs k cb = 0) (hc : rgoodS gs k cc = 0) :
    zipN (zipN ca cb ca.length) cc (zipN ca cb ca.length).length = zipN ca (zipN cb cc cb.length) ca.length := by
  have h3 := (rgood_inv ha).2.2.1
  have h5 := (rgood_inv hb).2.2.1
  have h7 := (rgood_inv hc).2.2.1
  refine list_getD (by rw [zipN_len, zipN_len, zipN_len]) fun i hi => ?_
  rw [zipN_len, zipN_len] at hi
  rw [zip_at _ cc (by rw [zipN_len]; exact hi), zip_at ca cb hi, zip_at ca (zipN cb cc cb.length) hi, zip_at cb cc (by omega)]
  have x1 := good_at ha hi
  have x2 := good_at hb (show i < cb.length by omega)
  have x3 := good_at hc (show i < cc.length by omega)
  exact (lattice x1 x2 x3).2.1
/-- P10.6: a row that adds nothing changes nothing. -/
theorem zip_back {gs : List Grp} {k : List UInt8} {cs : List Cl} {i : Nat} {c : Cl} (h : rgoodS gs k cs = 0) (hi : i < cs.length) (hc : c.good (gs.getD i ([], 0)).2 = true) :
    zipN (cs.set i (joinC [cs.getD i Cl.zero, c])) cs (cs.set i (joinC [cs.getD i Cl.zero, c])).length = cs.set i (joinC [cs.getD i Cl.zero, c]) := by
  refine list_getD (zipN_len _ _ _) fun j hj => ?_
  rw [zipN_len] at hj
  rw [zip_at _ cs hj, set_getD]
  rw [List.length_set] at hj
  have x1 := good_at h hj
  by_cases e : i = j
  · subst e
    rw [if_pos ⟨rfl, hi⟩]
    have l1 := lattice x1 hc x1
    have l2 := lattice (lattice x1 hc x1).2.2.2.2.2.1 x1 x1
    rw [l2.1]
    have l3 := lattice x1 x1 hc
    rw [← l3.2.1, l3.2.2.2.1]
  · rw [if_neg (fun h => e h.1)]
    exact (lattice x1 x1 x1).2.2.2.1
theorem set_back {gs : List Grp} {k : List UInt8} {cs : List Cl} {i : Nat} {c : Cl} (h : rgoodS gs k cs = 0) (hi : i < cs.length) (hc : c.good (gs.getD i ([], 0)).2 = true) :
    (cs.set i (joinC [cs.getD i Cl.zero, c])).set i (joinC [(cs.set i (joinC [cs.getD i Cl.zero, c])).getD i Cl.zero, c]) = cs.set i (joinC [cs.getD i Cl.zero, c]) := by
  rw [List.set_set, set_getD, if_pos ⟨rfl, hi⟩]
  have x1 := good_at h hi
  have l1 := lattice x1 hc hc
  rw [l1.2.1, (lattice hc hc hc).2.2.2.1]
end Go.Proofs.YtkjpmdpljdgcjaaDoor
end

section
/-
  Row: what RowApart wants of writes.
-/
namespace Go.Proofs.YtkjpmdpljdgcjaaDoor
open Go.RowKit Go Go.Sort
set_option linter.unusedVariables false
set_option maxRecDepth 20000

theorem good_short {p : Int} {c : Cl} (h : c.good p = true) : c.t.length ≤ 9223372036854775807 := by
  rw [jgood_parts] at h
  unfold Cl.gw Cl.wrote wroteS at h
  obtain ⟨n, s, a, b, g, t, d, e⟩ := c
  simp at h
  show t.length ≤ _
  rcases h.2.2 with h2 | h2
  · rcases h2 with ⟨_, _, _, _, _, rfl⟩; simp
  · omega
theorem write_cases {gs : List Grp} {key : List UInt8} {cs : List Cl} {k : Int} {c : Cl} :
    (∃ f, rwriteS gs key cs k c = ([], [], f) ∧ f ≠ 0) ∨ (rgoodS gs key cs = 0 ∧ ∃ i : Nat, k = (i : Int) ∧ i < cs.length ∧ c.good (gs.getD i ([], 0)).2 = true ∧ rwriteS gs key cs k c = (key, cs.set i (joinC [cs.getD i Cl.zero, c]), 0)) := by
  by_cases h0 : rgoodS gs key cs = 0
  · obtain ⟨g1, _, g3, _⟩ := rgood_inv h0
    by_cases h1 : (pofS gs k).2 = 0
    · obtain ⟨k0, k1⟩ := of_in g1 h1
      obtain ⟨i, rfl⟩ : ∃ i : Nat, k = (i : Int) := ⟨k.toNat, by omega⟩
      have hp : pofS gs (i : Int) = ((gs.getD i ([], 0)).2, 0) := by
        unfold pofS
        rw [if_pos g1, if_neg (by omega), Int.toNat_natCast]
      cases h2 : c.good (pofS gs (i : Int)).1 with
      | false => exact .inl ⟨80, write_cell h0 h1 h2, by decide⟩
      | true =>
        refine .inr ⟨h0, i, rfl, by omega, ?_, ?_⟩
        · rw [hp] at h2; exact h2
        · rw [write_ok h0 h1 h2, Int.toNat_natCast]
    · exact .inl ⟨_, write_grp h0 h1, h1⟩
  · exact .inl ⟨_, write_bad h0, h0⟩
theorem write_in {gs : List Grp} {key : List UInt8} {cs : List Cl} {i : Nat} {c : Cl} (h0 : rgoodS gs key cs = 0) (hi : i < cs.length) (hc : c.good (gs.getD i ([], 0)).2 = true) :
    rwriteS gs key cs (i : Int) c = (key, cs.set i (joinC [cs.getD i Cl.zero, c]), 0) := by
  obtain ⟨g1, _, g3, _⟩ := rgood_inv h0
  have hp : pofS gs (i : Int) = ((gs.getD i ([], 0)).2, 0) := by
    unfold pofS
    rw [if_pos g1, if_neg (by omega), Int.toNat_natCast]
  rw [write_ok h0 (by rw [hp]) (by rw [hp]; exact hc), Int.toNat_natCast]
theorem row_short {gs : List Grp} {k : List UInt8} {cs : List Cl} (h : rgoodS gs k cs = 0) : ∀ c ∈ cs, c.t.length ≤ 9223372036854775807 := by
  intro c hc
  obtain ⟨i, hi, rfl⟩ := List.getElem_of_mem hc
  have e : cs.getD i Cl.zero = cs[i] := by simp [hi]
  rw [← e]
  exact good_short (good_at h hi)
theorem rowtwo_cells {W : World} {q : Nat} {tk : ByteArray} {x2 : Option Addr} {m cap2 : Nat} {k : Int} (n s a b : Int) (g : Bool) (t : List UInt8) (d e : Int) (h : W.heap[q]? = some (.cells #[.string tk, .slice x2 m cap2, .int .i64 k, .int .i64 n, .int .i64 s, .int .i64 a, .int .i64 b, .bool g, .string (text t), .int .i64 d, .int .i64 e] 52 (0, 0))) :
    (W.cell? ⟨q, 0, none⟩ = some (.string tk) ∧ W.cell? ⟨q, 1, none⟩ = some (.slice x2 m cap2) ∧ W.cell? ⟨q, 2, none⟩ = some (.int .i64 k)) ∧ W.cell? ⟨q, 3, none⟩ = some (.int .i64 n) ∧ W.cell? ⟨q, 4, none⟩ = some (.int .i64 s) ∧ W.cell? ⟨q, 5, none⟩ = some (.int .i64 a) ∧ W.cell? ⟨q, 6, none⟩ = some (.int .i64 b) ∧
    W.cell? ⟨q, 7, none⟩ = some (.bool g) ∧ W.cell? ⟨q, 8, none⟩ = some (.string (text t)) ∧ W.cell? ⟨q, 9, none⟩ = some (.int .i64 d) ∧ W.cell? ⟨q, 10, none⟩ = some (.int .i64 e) := by
  refine ⟨⟨?_, ?_, ?_⟩, ?_, ?_, ?_, ?_, ?_, ?_, ?_, ?_⟩ <;> (rw [cell_of_row _ q _ _ _ (0, 0) h]; rfl)
end Go.Proofs.YtkjpmdpljdgcjaaDoor
end

section
/-
  Boxes of a call's own that a region lays and fills, in whatever order.
-/
namespace Go.Proofs.YtkjpmdpljdgcjaaDoor
open Go.RowKit Go Go.Sort
set_option linter.unusedVariables false
set_option maxRecDepth 20000

/-- A block of a call's own behind a pointer, with its cells. -/
def HeldB (B0 : Nat) (ty : TypeId) (w : World) (v : Value) (cs : Array Value) : Prop := ∃ g, v = .pointer (some ⟨g, 0, none⟩) ∧ B0 ≤ g ∧ w.heap[g]? = some (.cells cs ty (0, 0))
theorem HeldB.kept {B0 : Nat} {ty : TypeId} {w w' : World} {v : Value} {cs : Array Value} (h : HeldB B0 ty w v cs) (hb : Below w.heap.size w w') : HeldB B0 ty w' v cs := by
  obtain ⟨g, h1, h2, h3⟩ := h
  exact ⟨g, h1, h2, heap_below h3 hb⟩
theorem HeldB.other {B0 q : Nat} {ty t : TypeId} {w w' : World} {v : Value} {cs ds : Array Value} (h : HeldB B0 ty w v cs) (hw : Wrote q ds t w w') (hne : v ≠ .pointer (some ⟨q, 0, none⟩)) : HeldB B0 ty w' v cs := by
  obtain ⟨g, rfl, h2, h3⟩ := h
  exact ⟨g, rfl, h2, (hw.rest g (Array.getElem?_eq_some_iff.1 h3).1 (by rintro rfl; exact hne rfl)).trans h3⟩
theorem HeldB.ne {B0 : Nat} {ty : TypeId} {w : World} {v : Value} {cs : Array Value} (h : HeldB B0 ty w v cs) : v ≠ .pointer (some ⟨w.heap.size, 0, none⟩) := by
  obtain ⟨g, rfl, _, h3⟩ := h
  have := (Array.getElem?_eq_some_iff.1 h3).1
  intro e
  simp at e
  try omega
/-- Where the laying of n boxes stands: m operations (and those behind) that tell V, n that make boxes, n that fill them with R. -/
def LayN (m n : Nat) (ty : TypeId) (z : Array Value) (V : Nat → Value) (R : Nat → Array Value) (w0 : World) (L : Nat → Bool) (xs : Nat → Value) (w : World) : Prop :=
  Below w0.heap.size w0 w ∧ (∀ i, (i < m ∨ m + n + n ≤ i) → L i = true → xs i = V i) ∧
  (∀ j, j < n → L (m + j) = true → HeldB w0.heap.size ty w (xs (m + j)) (if L (m + n + j) = true then R j else z)) ∧
  (∀ j k, j < n → k < n → j ≠ k → L (m + j) = true → L (m + k) = true → xs (m + j) ≠ xs (m + k)) ∧
  (∀ j, j < n → L (m + n + j) = true → L (m + j) = true)
section
variable {m n : Nat} {ty : TypeId} {z : Array Value} {V : Nat → Value} {R : Nat → Array Value} {w0 w : World} {L : Nat → Bool} {xs : Nat → Value}
theorem LayN.start (N : Nat) (hN : m + n + n ≤ N) (h : ∀ i, i < N → L i = false) (hz : ∀ i, N ≤ i → xs i = V i) : LayN m n ty z V R w0 L xs { w0 with drawn := w0.drawn + 1 } := by
  have f : ∀ i, i < m + n + n → L i = true → False := fun i hi ht => by rw [h i (by omega)] at ht; cases ht
  refine ⟨⟨rfl, rfl, rfl, Nat.le_refl _, fun _ _ => rfl⟩, fun i hi ht => ?_, fun j hj ht => (f _ (by omega) ht).elim, fun j k hj hk _ ht _ => (f _ (by omega) ht).elim, fun j hj ht => (f _ (by omega) ht).elim⟩
  by_cases hiN : i < N
  · rw [h i hiN] at ht; cases ht
  · exact hz i (by omega)
theorem LayN.below (h : LayN m n ty z V R w0 L xs w) : Below w0.heap.size w0 w := h.1
theorem LayN.set (h : LayN m n ty z V R w0 L xs w) (i : Nat) (hi : i < m ∨ m + n + n ≤ i) {w' : World} (hb : Below w.heap.size w w') : LayN m n ty z V R w0 (fun j => if j = i then true else L j) (fun j => if j = i then V i else xs j) w' := by
  obtain ⟨h0, h1, h2, h3, h4⟩ := h
  refine ⟨h0.trans (hb.mono h0.size), fun j hj ht => ?_, fun j hj ht => ?_, fun j k hj hk => ?_, fun j hj => ?_⟩
  · by_cases e : j = i
    · subst e; simp
    · simp only [if_neg e] at ht ⊢
      exact h1 j hj ht
  · simp only [if_neg (show ¬ m + j = i by omega), if_neg (show ¬ m + n + j = i by omega)] at ht ⊢
    exact (h2 j hj ht).kept hb
  · simp only [if_neg (show ¬ m + j = i by omega), if_neg (show ¬ m + k = i by omega)]
    exact h3 j k hj hk
  · simp only [if_neg (show ¬ m + j = i by omega), if_neg (show ¬ m + n + j = i by omega)]
    exact h4 j hj
theorem LayN.alloc (h : LayN m n ty z V R w0 L xs w) (j : Nat) (hj : j < n) {k : Nat} (hk : k = m + j) (hn : L k = false) : LayN m n ty z V R w0 (fun i => if i = k then true else L i) (fun i => if i = k then .pointer (some ⟨w.heap.size, 0, none⟩) else xs i) (w.alloc (.cells z ty)) := by
  subst hk
  obtain ⟨h0, h1, h2, h3, h4⟩ := h
  have kb := alloc_below w (.cells z ty)
  have hf : L (m + n + j) = false := by
    cases hx : L (m + n + j) with
    | false => rfl
    | true => rw [h4 j hj hx] at hn; cases hn
  refine ⟨h0.trans (kb.mono h0.size), fun i hi ht => ?_, fun i hi ht => ?_, fun i k hi hk hne hti htk => ?_, fun i hi ht => ?_⟩
  · simp only [if_neg (show ¬ i = m + j by omega)] at ht ⊢
    exact h1 i hi ht
  · by_cases e : i = j
    · subst e
      simp only [if_neg (show ¬ m + n + i = m + i by omega), hf, if_pos]
      exact ⟨_, rfl, h0.size, heap_alloc_new w _⟩
    · simp only [if_neg (show ¬ m + i = m + j by omega), if_neg (show ¬ m + n + i = m + j by omega)] at ht ⊢
      exact (h2 i hi ht).kept kb
  · by_cases e1 : i = j
    · subst e1
      simp only [if_neg (show ¬ m + k = m + i by omega), if_pos] at htk ⊢
      exact ((h2 k hk htk).ne).symm
    · by_cases e2 : k = j
      · subst e2
        simp only [if_neg (show ¬ m + i = m + k by omega), if_pos] at hti ⊢
        exact (h2 i hi hti).ne
      · simp only [if_neg (show ¬ m + i = m + j by omega), if_neg (show ¬ m + k = m + j by omega)] at hti htk ⊢
        exact h3 i k hi hk hne hti htk
  · by_cases e : i = j
    · subst e; simp
    · simp only [if_neg (show ¬ m + i = m + j by omega), if_neg (show ¬ m + n + i = m + j by omega)] at ht ⊢
      exact h4 i hi ht
theorem LayN.store (h : LayN m n ty z V R w0 L xs w) (j : Nat) (hj : j < n) {k s : Nat} (hk : k = m + j) (hs : s = m + n + j) (hL : L k = true) {g : Nat} (hg : xs k = .pointer (some ⟨g, 0, none⟩)) (hB : w0.heap.size ≤ g) {w2 : World} (hw : Wrote g (R j) ty w w2) (hl : g ≤ w.heap.size) (v : Value) :
    LayN m n ty z V R w0 (fun i => if i = s then true else L i) (fun i => if i = s then v else xs i) w2 := by
  subst hk hs
  obtain ⟨h0, h1, h2, h3, h4⟩ := h
  refine ⟨h0.trans (hw.below hB hl), fun i hi ht => ?_, fun i hi ht => ?_, fun i k hi hk hne hti htk => ?_, fun i hi ht => ?_⟩
  · simp only [if_neg (show ¬ i = m + n + j by omega)] at ht ⊢
    exact h1 i hi ht
  · simp only [if_neg (show ¬ m + i = m + n + j by omega)] at ht ⊢
    by_cases e : i = j
    · subst e
      simp only [if_pos]
      exact ⟨g, hg, hB, hw.cell⟩
    · simp only [if_neg (show ¬ m + n + i = m + n + j by omega)]
      exact (h2 i hi ht).other hw (hg ▸ h3 i j hi hj e ht hL)
  · simp only [if_neg (show ¬ m + i = m + n + j by omega), if_neg (show ¬ m + k = m + n + j by omega)] at hti htk ⊢
    exact h3 i k hi hk hne hti htk
  · by_cases e : i = j
    · subst e
      simp only [if_neg (show ¬ m + i = m + n + i by omega)]
      exact hL
    · simp only [if_neg (show ¬ m + i = m + n + j by omega), if_neg (show ¬ m + n + i = m + n + j by omega)] at ht ⊢
      exact h4 i hi ht
end
theorem getD_none (l : List Value) {i : Nat} (h : l.length ≤ i) : l.getD i undef = undef := by
  rw [List.getD_eq_getElem?_getD, List.getElem?_eq_none h]; rfl
/-- A row in a block, with its cells. -/
def RowBox (W : World) (g : Nat) (tk : ByteArray) (a : Option Addr) (m c : Nat) (cs : List Cl) : Prop := W.heap[g]? = some (.cells #[.string tk, .slice a m c] 25 (0, 0)) ∧ Cls W a m c cs
theorem RowBox.kept {W W' : World} {g : Nat} {tk : ByteArray} {a : Option Addr} {m c : Nat} {cs : List Cl} (h : RowBox W g tk a m c cs) (hb : Below W.heap.size W W') : RowBox W' g tk a m c cs := ⟨heap_below h.1 hb, h.2.below hb⟩
theorem RowBox.cls {W : World} {g : Nat} {tk : ByteArray} {a : Option Addr} {m c : Nat} {cs : List Cl} (h : RowBox W g tk a m c cs) : Cls W a m c cs := h.2
theorem RowBox.cs {W : World} {g : Nat} {tk : ByteArray} {a : Option Addr} {m c : Nat} {cs : List Cl} (h : RowBox W g tk a m c cs) : W.cell? ⟨g, 0, none⟩ = some (.string tk) ∧ W.cell? ⟨g, 1, none⟩ = some (.slice a m c) ∧ ∀ i, W.frozen? ⟨g, i, none⟩ = false := row_cells h.1
theorem Wrote.row {W : World} {g : Nat} {k0 : ByteArray} {v0 : Value} (h : W.heap[g]? = some (.cells #[.string k0, v0] 25 (0, 0))) (k : ByteArray) (v : Value) :
    Wrote g #[.string k, v] 25 W ((W.setCell ⟨g, 0, none⟩ (.string k)).setCell ⟨g, 1, none⟩ v) := by
  have h1 := Wrote.of_set (Below.refl _ W) h 0 (.string k)
  have h2 := Wrote.of_set (Below.refl _ _) h1.cell 1 v
  exact (h1.trans h2 : Wrote g _ _ _ _)
theorem rowsAt_three {W : World} {q : Nat} {k1 k2 k3 : List UInt8} {t1 t2 t3 : ByteArray} {a1 a2 a3 : Option Addr} {m1 m2 m3 c1 c2 c3 : Nat} {l1 l2 l3 : List Cl} {t : TypeId} (h : W.heap[q]? = some (.cells #[.string t1, .slice a1 m1 c1, .string t2, .slice a2 m2 c2, .string t3, .slice a3 m3 c3] t (0, 0)))
    (e1 : text k1 = t1) (e2 : text k2 = t2) (e3 : text k3 = t3) (h1 : Cls W a1 m1 c1 l1) (h2 : Cls W a2 m2 c2 l2) (h3 : Cls W a3 m3 c3 l3) : RowsAt W q [(k1, l1), (k2, l2), (k3, l3)] := by
  intro i hi
  subst e1 e2 e3
  have : i = 0 ∨ i = 1 ∨ i = 2 := by simp at hi; omega
  rcases this with rfl | rfl | rfl
  · exact ⟨a1, m1, c1, (cell_of_row W q 0 _ _ (0, 0) h).trans rfl, (cell_of_row W q 1 _ _ (0, 0) h).trans rfl, h1⟩
  · exact ⟨a2, m2, c2, (cell_of_row W q 2 _ _ (0, 0) h).trans rfl, (cell_of_row W q 3 _ _ (0, 0) h).trans rfl, h2⟩
  · exact ⟨a3, m3, c3, (cell_of_row W q 4 _ _ (0, 0) h).trans rfl, (cell_of_row W q 5 _ _ (0, 0) h).trans rfl, h3⟩
theorem rowsAt_two {W : World} {q : Nat} {k1 k2 : List UInt8} {t1 t2 : ByteArray} {a1 a2 : Option Addr} {m1 m2 c1 c2 : Nat} {l1 l2 : List Cl} {t : TypeId} (h : W.heap[q]? = some (.cells #[.string t1, .slice a1 m1 c1, .string t2, .slice a2 m2 c2] t (0, 0)))
    (e1 : text k1 = t1) (e2 : text k2 = t2) (h1 : Cls W a1 m1 c1 l1) (h2 : Cls W a2 m2 c2 l2) : RowsAt W q [(k1, l1), (k2, l2)] := by
  intro i hi
  subst e1 e2
  have : i = 0 ∨ i = 1 := by simp at hi; omega
  rcases this with rfl | rfl
  · exact ⟨a1, m1, c1, (cell_of_row W q 0 _ _ (0, 0) h).trans rfl, (cell_of_row W q 1 _ _ (0, 0) h).trans rfl, h1⟩
  · exact ⟨a2, m2, c2, (cell_of_row W q 2 _ _ (0, 0) h).trans rfl, (cell_of_row W q 3 _ _ (0, 0) h).trans rfl, h2⟩
end Go.Proofs.YtkjpmdpljdgcjaaDoor
end

section
/-
  Row: which row bytes begin with, as plain mathematics; there and back.
-/
namespace Go.Proofs.YtkjpmdpljdgcjaaDoor
open Go.RowKit Go Go.Sort
set_option linter.unusedVariables false
set_option maxRecDepth 20000

theorem bys_from {W : World} {a : Option Addr} {n cap : Nat} {l : List UInt8} (h : Bys W a n cap l) {q : Nat} (hq : q ≤ n) :
    ∃ a', (∀ W', (Instr.slice 59 (.slice a n cap) (some (.int .i64 (q : Int))) none none).run Tryd.prog W' = .ok (.slice a' (n - q) (cap - q)) W') ∧
      (∀ W', (Instr.sliceAt 59 (.slice a n cap) (some (.int .i64 (q : Int))) none none).run Tryd.prog W' = .ok (.slice a' (n - q) (cap - q)) W') ∧ Bys W a' (n - q) (cap - q) (l.drop q) := by
  have hle := h.le
  have he : Tryd.prog.elem 59 = 5 := by kernel_rfl
  obtain ⟨i0, hi, hz0, hz1, hz2⟩ := info_parts Tryd.info5
  have key : ∃ a', (∀ W', (Instr.slice 59 (.slice a n cap) (some (.int .i64 (q : Int))) none none).run Tryd.prog W' = .ok (.slice a' (n - q) (cap - q)) W') ∧ Bys W a' (n - q) (cap - q) (l.drop q) := by
    by_cases hc : cap = q
    · refine ⟨a, fun W' => ?_, h.dropEnd hq hc⟩
      rw [run_slice_l W' 59 a n cap (by kernel_rfl) .i64 (q : Int) (by omega) (by omega), he]
      have hsz : (sizeOf 5).run Tryd.prog W' = .ok 1 W' := by simp [sizeOf, typeInfo, hi, hz1, go_sem]
      rw [hsz]
      simp only [Result.andThen_ok, sliced, Int.toNat_natCast, Nat.mul_one]
      rw [if_pos hc]
    · refine ⟨a.map (fun x => x.add q), fun W' => ?_, h.drop hq⟩
      rw [run_slice_l W' 59 a n cap (by kernel_rfl) .i64 (q : Int) (by omega) (by omega), he]
      have hsz : (sizeOf 5).run Tryd.prog W' = .ok 1 W' := by simp [sizeOf, typeInfo, hi, hz1, go_sem]
      rw [hsz]
      simp only [Result.andThen_ok, sliced, Int.toNat_natCast, Nat.mul_one]
      rw [if_neg hc]
  obtain ⟨a', h1, h2⟩ := key
  refine ⟨a', h1, fun W' => ?_, h2⟩
  rw [run_sliceAt_slice _ _ _ _ _ _ (by kernel_rfl)]
  exact h1 W'
theorem textS_ok (l : List UInt8) (m : Int) (h : (textS l m).2.2 = 0) : ∃ q : Nat, (textS l m).2.1 = (q : Int) ∧ q ≤ l.length ∧ ((textS l m).1.length : Int) ≤ m := by
  unfold textS at h ⊢
  by_cases he : (getS l).2.2 = 0
  · obtain ⟨q, hq, hq1, hq2, hv0, hv1⟩ := getS_ok l he
    rw [if_neg (by omega)] at h ⊢
    by_cases c1 : m < (getS l).1
    · rw [if_pos c1] at h; cases h
    · rw [if_neg c1] at h ⊢
      by_cases c2 : (l.length : Int) - (getS l).2.1 < (getS l).1
      · rw [if_pos c2] at h; cases h
      · rw [if_neg c2]
        refine ⟨q + (getS l).1.toNat, ?_, by omega, ?_⟩
        · simp only []; omega
        · simp only [List.length_take]; omega
  · rw [if_pos he] at h; exact absurd h he
/-- The cells behind a place, and where they end. -/
def getN (gs : List Grp) (l : List UInt8) (a0 : Nat) : Nat → Option (List Cl × Nat)
  | 0 => some ([], a0)
  | k + 1 => (getN gs l a0 k).bind fun r => if (cgetS (l.drop r.2) (gs.getD k ([], 0)).2).2.2 = 0 then some (r.1 ++ [(cgetS (l.drop r.2) (gs.getD k ([], 0)).2).1], r.2 + (cgetS (l.drop r.2) (gs.getD k ([], 0)).2).2.1.toNat) else none
theorem getN_none {gs : List Grp} {l : List UInt8} {a0 k : Nat} (h : getN gs l a0 k = none) : ∀ j, k ≤ j → getN gs l a0 j = none
  | 0, hj => by
    obtain rfl : k = 0 := by omega
    exact h
  | j + 1, hj => by
    by_cases e : k = j + 1
    · subst e; exact h
    · have := getN_none h j (by omega)
      show (getN gs l a0 j).bind _ = none
      rw [this]; rfl
theorem getN_bad {gs : List Grp} {l : List UInt8} {a0 k at' : Nat} {cs : List Cl} (h : getN gs l a0 k = some (cs, at')) (hf : ¬ (cgetS (l.drop at') (gs.getD k ([], 0)).2).2.2 = 0) : getN gs l a0 (k + 1) = none := by
  show (getN gs l a0 k).bind _ = none
  rw [h]
  exact if_neg hf
theorem getN_ok {gs : List Grp} {l : List UInt8} {a0 k at' q : Nat} {cs : List Cl} {c : Cl} (h : getN gs l a0 k = some (cs, at')) (hc : cgetS (l.drop at') (gs.getD k ([], 0)).2 = (c, (q : Int), 0)) : getN gs l a0 (k + 1) = some (cs ++ [c], at' + q) := by
  show (getN gs l a0 k).bind _ = _
  rw [h]
  show (if (cgetS (l.drop at') (gs.getD k ([], 0)).2).2.2 = 0 then _ else _) = _
  rw [hc]
  rfl
/-- The row with which bytes begin, how many bytes it has, an error. -/
def rgetS (gs : List Grp) (l : List UInt8) : List UInt8 × List Cl × Int × Int :=
  if ¬ pgoodS gs = 0 then ([], [], 0, pgoodS gs) else if ¬ (textS l 32).2.2 = 0 then ([], [], 0, 100) else if (textS l 32).1 = [] then ([], [], 0, 100)
  else match getN gs l (textS l 32).2.1.toNat gs.length with
    | none => ([], [], 0, 100)
    | some r => ((textS l 32).1, r.1, (r.2 : Int), 0)
theorem rowrget_pol {gs : List Grp} {l : List UInt8} (h : ¬ pgoodS gs = 0) : rgetS gs l = ([], [], 0, pgoodS gs) := by unfold rgetS; rw [if_pos h]
theorem rowrget_key {gs : List Grp} {l : List UInt8} (h : pgoodS gs = 0) (h2 : ¬ (textS l 32).2.2 = 0) : rgetS gs l = ([], [], 0, 100) := by unfold rgetS; rw [if_neg (not_not_intro h), if_pos h2]
theorem rowrget_nil {gs : List Grp} {l : List UInt8} (h : pgoodS gs = 0) (h2 : (textS l 32).2.2 = 0) (h3 : (textS l 32).1 = []) : rgetS gs l = ([], [], 0, 100) := by unfold rgetS; rw [if_neg (not_not_intro h), if_neg (not_not_intro h2), if_pos h3]
theorem rowrget_bad {gs : List Grp} {l t : List UInt8} {q n : Nat} (h : pgoodS gs = 0) (h2 : textS l 32 = (t, (q : Int), 0)) (h3 : ¬ t = []) (hn : gs.length = n) (h4 : getN gs l q n = none) : rgetS gs l = ([], [], 0, 100) := by
  unfold rgetS; rw [if_neg (not_not_intro h), h2, if_neg (by simp), if_neg h3, hn]; simp only [Int.toNat_natCast]; rw [h4]
theorem rowrget_yes {gs : List Grp} {l t : List UInt8} {q n at' : Nat} {cs : List Cl} (h : pgoodS gs = 0) (h2 : textS l 32 = (t, (q : Int), 0)) (h3 : ¬ t = []) (hn : gs.length = n) (h4 : getN gs l q n = some (cs, at')) : rgetS gs l = (t, cs, (at' : Int), 0) := by
  unfold rgetS; rw [if_neg (not_not_intro h), h2, if_neg (by simp), if_neg h3, hn]; simp only [Int.toNat_natCast]; rw [h4]
/-- A row's bytes up to a group are those of the key and of the cells, one behind the other. -/
theorem rlay_step {gs : List Grp} {key : List UInt8} {cs : List Cl} {k : Nat} (h : (cs.getD k Cl.zero).good (gs.getD k ([], 0)).2 = true) : rlayN gs key cs (k + 1) = rlayN gs key cs k ++ layS [] (cs.getD k Cl.zero) := by
  show cputS (rlayN gs key cs k) _ _ = _
  rw [cput_app]
  unfold cputS
  rw [if_pos h]
theorem take_get {cs : List Cl} {k : Nat} (h : k < cs.length) : cs.take (k + 1) = cs.take k ++ [cs.getD k Cl.zero] := by
  rw [List.take_add_one, List.getElem?_eq_getElem h, List.getD_eq_getElem?_getD, List.getElem?_eq_getElem h]
  rfl
theorem getN_back {gs : List Grp} {key : List UInt8} {cs : List Cl} (h : rgoodS gs key cs = 0) : ∀ (k : Nat), k ≤ gs.length → ∀ (t : List UInt8), getN gs (rlayN gs key cs k ++ t) (putTextS [] key).length k = some (cs.take k, (rlayN gs key cs k).length)
  | 0, _, t => rfl
  | k + 1, hk, t => by
    obtain ⟨_, _, h3, h4⟩ := rgood_inv h
    have hg := good_at h (show k < cs.length by omega)
    have ih := getN_back h k (by omega) (layS [] (cs.getD k Cl.zero) ++ t)
    rw [rlay_step hg, List.append_assoc, take_get (by omega), List.length_append]
    refine getN_ok ih ?_
    rw [List.drop_left]
    exact cget_back hg t
theorem key_good {key : List UInt8} (h : keyS key = 0) : ¬ key = [] ∧ key.length ≤ 32 := by
  unfold keyS at h
  split at h
  · cases h
  · split at h
    · cases h
    · rename_i h1 h2; exact ⟨h1, by omega⟩
theorem rowrget_back {gs : List Grp} {key : List UInt8} {cs : List Cl} (h : rgoodS gs key cs = 0) (t : List UInt8) : rgetS gs (rlayN gs key cs gs.length ++ t) = (key, cs, ((rlayN gs key cs gs.length).length : Int), 0) := by
  obtain ⟨h1, h2, h3, _⟩ := rgood_inv h
  obtain ⟨k1, k2⟩ := key_good h2
  have hb := getN_back h gs.length (Nat.le_refl _) t
  rw [← h3, List.take_length, h3] at hb
  have hpre : ∀ k, k ≤ gs.length → ∃ r, rlayN gs key cs k = putTextS [] key ++ r := by
    intro k
    induction k with
    | zero => exact fun _ => ⟨[], by simp [rlayN]⟩
    | succ k ih =>
      intro hk
      obtain ⟨r, hr⟩ := ih (by omega)
      exact ⟨r ++ layS [] (cs.getD k Cl.zero), by rw [rlay_step (good_at h (by omega)), hr, List.append_assoc]⟩
  obtain ⟨r, hr⟩ := hpre gs.length (Nat.le_refl _)
  refine rowrget_yes (q := (putTextS [] key).length) h1 ?_ k1 rfl hb
  rw [hr, List.append_assoc]
  exact tget_back (by omega) (by omega) (r ++ t)
theorem good_few {p : Int} {c : Cl} (h : c.good p = true) : c.t.length ≤ 64 := by
  obtain ⟨_, h2, _, h4⟩ := good_parts h
  cases hw : c.wrote with
  | true => have := (h2 hw).2.2.1; omega
  | false => rw [(h4 hw).2.2.2.2.2]; simp
/-- A good row's bytes are few. -/
theorem rlay_few {gs : List Grp} {key : List UInt8} {cs : List Cl} (h : rgoodS gs key cs = 0) : ∀ k, k ≤ gs.length → (rlayN gs key cs k).length ≤ 40 + 120 * k
  | 0, _ => by
    have := putText_le [] key
    have := (key_good (rgood_inv h).2.1).2
    show (putTextS [] key).length ≤ _
    simp at this ⊢
    have h9 : ([] : List UInt8).length = 0 := rfl
    omega
  | k + 1, hk => by
    have ih := rlay_few h k (by omega)
    have hg := good_at h (show k < cs.length by have := (rgood_inv h).2.2.1; omega)
    rw [rlay_step hg, List.length_append]
    have h1 := lay_le [] (cs.getD k Cl.zero)
    have h2 := good_few hg
    have h9 : ([] : List UInt8).length = 0 := rfl
    omega
theorem rlay_small {gs : List Grp} {key : List UInt8} {cs : List Cl} (h : rgoodS gs key cs = 0) : ∀ k, (k ≤ gs.length → (rlayN gs key cs k).length ≤ 520) ∧ (cs.getD k Cl.zero).t.length ≤ 64 := by
  intro k
  have h4 := pgood_len (rgood_inv h).1
  refine ⟨fun hk => by have := rlay_few h k hk; omega, ?_⟩
  by_cases hc : k < cs.length
  · exact good_few (good_at h hc)
  · rw [List.getD_eq_getElem?_getD, List.getElem?_eq_none (by omega)]; decide
/-- The bytes behind any bytes. -/
theorem rlay_app (b : List UInt8) (gs : List Grp) (key : List UInt8) (cs : List Cl) : ∀ k, b ++ rlayN gs key cs k = match k with | 0 => putTextS b key | k + 1 => cputS (b ++ rlayN gs key cs k) (gs.getD k ([], 0)).2 (cs.getD k Cl.zero)
  | 0 => by
    show b ++ putTextS [] key = putTextS b key
    rw [← putText_app, List.append_nil]
  | k + 1 => by
    show b ++ cputS (rlayN gs key cs k) _ _ = cputS (b ++ rlayN gs key cs k) _ _
    rw [cput_app, cput_app (b ++ _), List.append_assoc]
end Go.Proofs.YtkjpmdpljdgcjaaDoor
end

section
/-
  Row: the program's Get.
-/
namespace Go.Proofs.YtkjpmdpljdgcjaaDoor
open Go.RowKit Go Go.Sort
set_option linter.unusedVariables false
set_option maxRecDepth 20000

/-- A row, how many bytes, an error. -/
def RGetPost (r : List UInt8 × List Cl × Int × Int) (w : World) (e : Ending) (w' : World) : Prop := ∃ v, e = .returned (.tuple #[.agg #[.string (text r.1), v], .int .i64 r.2.2.1, .int .i64 r.2.2.2]) ∧ OwnC w' w.heap.size v r.2.1 ∧ Below w.heap.size w w'
theorem RGetPost.cells {r : List UInt8 × List Cl × Int × Int} {w : World} {e : Ending} {w' : World} (h : RGetPost r w e w') : ∃ a c, e = .returned (.tuple #[.agg #[.string (text r.1), .slice a r.2.1.length c], .int .i64 r.2.2.1, .int .i64 r.2.2.2]) ∧ Cls w' a r.2.1.length c r.2.1 ∧ Below w.heap.size w w' := by
  obtain ⟨v, rfl, ho, hb⟩ := h
  obtain ⟨a, c, rfl, hc⟩ := ho.cls
  exact ⟨a, c, rfl, hc, hb⟩
theorem rgrp_cells {W : World} {q : Nat} {k0 : ByteArray} {p : Int} (h : W.heap[q]? = some (.cells #[.string k0, .int .i64 p] 87 (0, 0))) :
    W.cell? ⟨q, 0, none⟩ = some (.string k0) ∧ W.cell? ⟨q, 1, none⟩ = some (.int .i64 p) ∧ ∀ i, W.frozen? ⟨q, i, none⟩ = false :=
  ⟨by rw [cell_of_row _ q 0 _ _ (0, 0) h]; rfl, by rw [cell_of_row _ q 1 _ _ (0, 0) h]; rfl, fun i => frozen_of_row _ q i _ _ h⟩

set_option maxRecDepth 100000 in
set_option maxHeartbeats 6400000 in
theorem rowget_c {w : World} {ad : Option Addr} {m9 cap9 : Nat} {l : List UInt8} (hy : Bys w ad m9 cap9 l) {x : Option Addr} {n1 cap : Nat} {gs : List Grp} (hg : Grs w x n1 cap gs) (hs : ∀ g ∈ gs, g.1.length ≤ 9223372036854775807) :
    Calls Tryd.prog 27 #[.slice ad m9 cap9, .slice x n1 cap] w (RGetPost (rgetS gs l) w) := by
  have hyl := hy.len
  have hyle := hy.le
  have hymax := hy.max
  have hgl := hg.len
  have hgle := hg.le
  have hgmax := hg.max
  have HPG := Lib.hid (fun W (h : Below w.heap.size w W) => pgood_c (hg.below h) hs)
  have hGT := fun W (h : Below w.heap.size w W) => gettext_c (hy.below h) 32 (by omega) (by omega)
  have hcg := fun W (h : Below w.heap.size w W) (a1 : Option Addr) (q : Nat) (hh : Bys W a1 (m9 - q) (cap9 - q) (l.drop q)) (p : Int) => cget_c hh p
  have htok := textS_ok l 32
  obtain ⟨⟨kt, qt, ft⟩, ht⟩ : ∃ z, textS l 32 = z := ⟨_, rfl⟩
  simp only [ht] at hGT htok
  have hts := text_nilb kt
  obtain ⟨P0, hP⟩ : ∃ z, pgoodS gs = z := ⟨_, rfl⟩
  simp only [hP] at HPG
  obtain ⟨RV, hRV⟩ : ∃ z, rgetS gs l = z := ⟨_, rfl⟩
  rw [hRV]
  obtain ⟨kb, hkb⟩ : ∃ z, (kt == []) = z := ⟨_, rfl⟩
  obtain ⟨tk, htk⟩ : ∃ z, text kt = z := ⟨_, rfl⟩
  rw [hkb, htk] at hts
  unfold RetT at hGT
  simp only [htk] at hGT
  have HTK := Lib.hid htk
  have HKB := Lib.hid hkb
  have HRV := Lib.hid hRV
  have HP := Lib.hid hP
  have HT := Lib.hid ht
  have HGT := Lib.hid hGT
  have HCGA := Lib.hid hcg
  have HTOK := Lib.hid htok
  have HY := Lib.hid hy
  have HG := Lib.hid hg
  have HLN := Lib.hid hgl
  have hb0 := alloc_below w (.cells #[.string ⟨#[]⟩, .slice none 0 0] 25)
  have hz0 := heap_alloc_new w (.cells #[.string ⟨#[]⟩, .slice none 0 0] 25)
  clear hGT hcg htok hRV hkb htk hP ht hg hs hy hgl
  go_enter Tryd.func27, Tryd.ntmps27
  go_upto_region 1 with (fail)
  obtain ⟨B, hB⟩ : ∃ q, w.heap.size = q := ⟨_, rfl⟩
  have HBe := Lib.hid hB
  rw [hB] at hz0 ⊢
  clear hB
  generalize w.alloc (.cells #[.string ⟨#[]⟩, .slice none 0 0] 25) = W1 at *
  have HZ := Lib.hid hz0
  have HB := Lib.hid hb0
  clear hz0 hb0
  go_upto_region 2 with (go_at_call 41; (with_reducible refine (HPG.out _ HB.out).mono ?_); rintro e9 w2 ⟨rfl, hb2⟩)
  have HZ0 := Lib.hid (heap_below HZ.out hb2)
  have HB0 := Lib.hid (HB.out.trans (hb2.mono HB.out.size))
  clear hb2 HZ HB HPG
  have hbad : ∀ (f : Int), RV = ([], [], 0, f) → RGetPost RV w (.returned (.tuple #[.agg #[.string ⟨#[]⟩, .slice none 0 0], .int .i64 0, .int .i64 f])) ((w2.setCell ⟨B, 0, none⟩ (.string ⟨#[]⟩)).setCell ⟨B, 1, none⟩ (.slice none 0 0)) := fun f h => by
    rw [h]
    exact ⟨_, rfl, OwnC.nil _ _, (HB0.out.setCell (p := ⟨B, 0, none⟩) (by have := HBe.out; simp; omega) _).setCell (p := ⟨B, 1, none⟩) (by have := HBe.out; simp; omega) _⟩
  have HBAD := Lib.hid hbad
  have HSB := Lib.hid (row_set HZ0.out ⟨#[]⟩ (.slice none 0 0))
  clear hbad
  by_cases h0 : P0 = 0
  · subst h0
    by_cases h1 : ft = 0
    · subst h1
      cases kb with
      | true =>
        have HRR := Lib.hid (show RV = ([], [], 0, 100) by rw [← HRV.out]; exact rowrget_nil HP.out (by rw [HT.out]) (by rw [HT.out]; simpa using HKB.out))
        obtain ⟨z0, z1, zf⟩ := row_cells HZ0.out
        go_wp2_with (go_at_call 51; (with_reducible refine (HGT.out _ HB0.out).mono ?_); rintro e9 w9 ⟨rfl, rfl⟩)
        refine bodyPost_ret (res_cell_tmp2 rfl _ _ B 25 _ (0, 0) _ (.int .i64 0) (.int .i64 100) rfl rfl rfl HSB.out Tryd.underlying25 rfl (by kernel_rfl)) rfl ?_
        exact HBAD.out _ HRR.out
      | false =>
        have HNE := Lib.hid (show ¬ kt = [] by simpa using HKB.out)
        obtain ⟨q, hq, hql, -⟩ := HTOK.out (by first | rfl | trivial)
        subst hq
        have hqm : q ≤ m9 := by omega
        have HN4 := Lib.hid (pgood_len HP.out)
        clear hql HTOK HBAD HSB HKB
        go_upto_region 9 with (go_at_call 51; (with_reducible refine (HGT.out _ HB0.out).mono ?_); rintro e9 w9 ⟨rfl, rfl⟩)
        go_loopw [9, 11, 38] (fun p v i wr => ∃ (k at0 : Nat) (cs : List Cl), k ≤ n1 ∧ i = .int .i64 ((k : Nat) : Int) ∧ p = .int .i64 (at0 : Int) ∧ at0 ≤ m9 ∧ getN gs l q k = some (cs, at0) ∧ cs.length = k ∧ OwnC wr w.heap.size v cs ∧ Below w.heap.size w wr ∧ wr.heap[B]? = some (.cells #[.string ⟨#[]⟩, .slice none 0 0] 25 (0, 0))) (fun _ _ i _ => n1 - (intOf i).toNat)
        case atStart => exact ⟨0, q, [], by omega, rfl, rfl, hqm, rfl, rfl, OwnC.nil _ _, HB0.out, HZ0.out⟩
        case round =>
          obtain ⟨k, at0, cs, hk, rfl, rfl, hat, hn, hcl, ho, hB, hz⟩ := hrel
          obtain ⟨a9, c9, ev, -⟩ := ho.cls
          rw [hcl] at ev
          subst ev
          have HCL := Lib.hid hcl
          clear hcl
          have HYr := Lib.hid (HY.out.below hB)
          have HN := Lib.hid hn
          have HO := Lib.hid ho
          have HBr := Lib.hid hB
          have HZr := Lib.hid hz
          clear hn ho hB hz
          by_cases hlt : k < n1
          · have hki : (k : Int) < (n1 : Int) := by omega
            have hki1 : (k : Int) < (cap : Int) := by omega
            obtain ⟨bg, og, rfl, hatg⟩ := HG.out.at hlt
            obtain ⟨⟨nm, pk⟩, hgk⟩ : ∃ y, gs.getD k ([], 0) = y := ⟨_, rfl⟩
            rw [hgk] at hatg
            obtain ⟨a1, hs1, hs2, hy1⟩ := bys_from HYr.out (q := at0) hat
            have hok := @cget_ok (l.drop at0) pk
            obtain ⟨⟨c, k2, f2⟩, hc⟩ : ∃ z, cgetS (l.drop at0) pk = z := ⟨_, rfl⟩
            obtain ⟨n, s, a, b, g, t, d, e⟩ := c
            rw [hc] at hok
            simp only at hok
            rw [List.length_drop, hyl] at hok
            have HOK := Lib.hid (fun h => (hok h).imp fun z hz => And.intro hz.1 hz.2.1)
            have HC := Lib.hid (show cgetS (l.drop at0) (gs.getD k ([], 0)).2 = (⟨n, s, a, b, g, t, d, e⟩, k2, f2) by rw [hgk]; exact hc)
            have HS1 := Lib.hid hs1
            have HS2 := Lib.hid hs2
            obtain ⟨p0, p1⟩ := hatg wr HBr.out
            simp only at p0 p1
            have hal := alloc_below wr (.cells #[.string (text nm), .int .i64 pk] 87)
            have HG1 := Lib.hid (heap_alloc_new wr (.cells #[.string (text nm), .int .i64 pk] 87))
            have hk1 := Lib.hid hal
            have HB1 := Lib.hid (HBr.out.trans (hal.mono HBr.out.size))
            have HO1 := Lib.hid (HO.out.kept hal)
            have HZ1 := Lib.hid (heap_below HZr.out hal)
            go_upto_region 11 with (fail)
            obtain ⟨gq, hgq⟩ : ∃ z, wr.heap.size = z := ⟨_, rfl⟩
            rw [hgq] at HG1 ⊢
            clear hgq hal p0 p1
            generalize wr.alloc (.cells #[.string (text nm), .int .i64 pk] 87) = V1 at *
            have HGQ := Lib.hid (fun W (h : Below V1.heap.size V1 W) => rgrp_cells (heap_below HG1.out h))
            have HCG := Lib.hid (fun W (h : Below V1.heap.size V1 W) => show Calls Tryd.prog 52 #[.slice a1 (m9 - at0) (cap9 - at0), .int .i64 pk] W (Tells (.tuple #[.agg #[.int .i64 n, .int .i64 s, .int .i64 a, .int .i64 b, .bool g, .string (text t), .int .i64 d, .int .i64 e], .int .i64 k2, .int .i64 f2]) W) by
              have hh := HCGA.out W (HB1.out.trans (h.mono HB1.out.size)) a1 at0 ((hy1.below hk1.out).below h) pk
              rw [hc] at hh
              exact hh)
            clear hc hok hgk hatg hs1 hs2 hy1 hk1 HYr HO HBr HZr HG1
            refine wp_region_inv [none, none, none, none, none, none, none, none, none, none, none, none, none, none, some 10, some 12, some 13, none, none, none, none, none, none, none, none, none, none, none, none, none, none, none, none, none, none, none, none, none, none, none, none, none, some 6, some 0, some 1, some 2, some 3, some 4, some 5, some 7, some 8, some 9, none, none, none, none, none, none, none, none, none, none, none, none, none, none, none] (fun i => [u43, u44, u45, u46, u47, u48, u42, u49, u50, u51, u14, undef, u15, u16].getD i undef) (LayN 10 1 50 #[.int .i64 0, .int .i64 0, .int .i64 0, .int .i64 0, .bool false, .string ⟨#[]⟩, .int .i64 0, .int .i64 0] (fun i => [.slice ad m9 cap9, .int .i64 (at0 : Int), .slice a1 (m9 - at0) (cap9 - at0), .pointer (some ⟨gq, 1, none⟩), .int .i64 pk, .tuple #[.agg #[.int .i64 n, .int .i64 s, .int .i64 a, .int .i64 b, .bool g, .string (text t), .int .i64 d, .int .i64 e], .int .i64 k2, .int .i64 f2], .tuple #[.agg #[.int .i64 n, .int .i64 s, .int .i64 a, .int .i64 b, .bool g, .string (text t), .int .i64 d, .int .i64 e], .int .i64 k2, .int .i64 f2], .agg #[.int .i64 n, .int .i64 s, .int .i64 a, .int .i64 b, .bool g, .string (text t), .int .i64 d, .int .i64 e], .int .i64 k2, .int .i64 f2, undef, undef, .int .i64 k2, .int .i64 f2].getD i undef) (fun j => [#[.int .i64 n, .int .i64 s, .int .i64 a, .int .i64 b, .bool g, .string (text t), .int .i64 d, .int .i64 e]].getD j #[]) V1) (by kernel_rfl) (by kernel_rfl) rfl rfl (fun L hL => LayN.start 14 (by decide) hL (fun i hi => (getD_none _ (by simp only [List.length_cons, List.length_nil]; omega)).trans (getD_none _ (by simp only [List.length_cons, List.length_nil]; omega)).symm)) ?_ ?_
            · simp only [invOps, and_true]
              refine ⟨?_, ?_, ?_, ?_, ?_, ?_, ?_, ?_, ?_, ?_, ?_, ?_, ?_, ?_⟩
              · intro L xs W hI hL hn
                simp only [flowAct, List.zipWith_cons_cons, List.zipWith_nil_left]
                go_wp2_with (fail)
                exact ⟨rfl, _, rfl, hI.set 0 (.inl (by decide)) (Below.refl _ _)⟩
              · intro L xs W hI hL hn
                simp only [flowAct, List.zipWith_cons_cons, List.zipWith_nil_left]
                go_wp2_with (fail)
                exact ⟨rfl, _, rfl, hI.set 1 (.inl (by decide)) (Below.refl _ _)⟩
              · intro L xs W hI hL hn
                simp [invNeeds, Region.binds] at hn
                have e0 : xs 0 = .slice ad m9 cap9 := hI.2.1 0 (.inl (by decide)) (by simp_all)
                have e1 : xs 1 = .int .i64 (at0 : Int) := hI.2.1 1 (.inl (by decide)) (by simp_all)
                have hs1 := HS1.out
                have hs2 := HS2.out
                simp only [flowAct, List.zipWith_cons_cons, List.zipWith_nil_left]
                simp only [e0, e1]
                go_wp2_with (fail)
                exact ⟨rfl, _, rfl, hI.set 2 (.inl (by decide)) (Below.refl _ _)⟩
              · intro L xs W hI hL hn
                simp only [flowAct, List.zipWith_cons_cons, List.zipWith_nil_left]
                go_wp2_with (fail)
                exact ⟨rfl, _, rfl, hI.set 3 (.inl (by decide)) (Below.refl _ _)⟩
              · intro L xs W hI hL hn
                obtain ⟨-, g1, -⟩ := HGQ.out W hI.1
                simp [invNeeds, Region.binds] at hn
                have e3 : xs 3 = .pointer (some ⟨gq, 1, none⟩) := hI.2.1 3 (.inl (by decide)) (by simp_all)
                simp only [flowAct, List.zipWith_cons_cons, List.zipWith_nil_left]
                simp only [e3]
                go_wp2_with (fail)
                exact ⟨rfl, _, rfl, hI.set 4 (.inl (by decide)) (Below.refl _ _)⟩
              · intro L xs W hI hL hn
                simp [invNeeds, Region.binds] at hn
                have e2 : xs 2 = .slice a1 (m9 - at0) (cap9 - at0) := hI.2.1 2 (.inl (by decide)) (by simp_all)
                have e4 : xs 4 = .int .i64 pk := hI.2.1 4 (.inl (by decide)) (by simp_all)
                simp only [flowAct, List.zipWith_cons_cons, List.zipWith_nil_left]
                simp only [e2, e4]
                go_wp2_with (go_at_call 52; (with_reducible refine (HCG.out _ hI.below).mono ?_); rintro e9 w9 ⟨rfl, hb9⟩)
                exact ⟨rfl, _, rfl, hI.set 5 (.inl (by decide)) (hb9)⟩
              · intro L xs W hI hL hn
                simp [invNeeds, Region.binds] at hn
                have e5 : xs 5 = .tuple #[.agg #[.int .i64 n, .int .i64 s, .int .i64 a, .int .i64 b, .bool g, .string (text t), .int .i64 d, .int .i64 e], .int .i64 k2, .int .i64 f2] := hI.2.1 5 (.inl (by decide)) (by simp_all)
                simp only [flowAct, List.zipWith_cons_cons, List.zipWith_nil_left]
                simp only [e5]
                go_wp2_with (fail)
                exact ⟨rfl, _, rfl, hI.set 6 (.inl (by decide)) (Below.refl _ _)⟩
              · intro L xs W hI hL hn
                simp [invNeeds, Region.binds] at hn
                have e6 : xs 6 = .tuple #[.agg #[.int .i64 n, .int .i64 s, .int .i64 a, .int .i64 b, .bool g, .string (text t), .int .i64 d, .int .i64 e], .int .i64 k2, .int .i64 f2] := hI.2.1 6 (.inl (by decide)) (by simp_all)
                simp only [flowAct, List.zipWith_cons_cons, List.zipWith_nil_left]
                simp only [e6]
                go_wp2_with (fail)
                exact ⟨rfl, _, rfl, hI.set 7 (.inl (by decide)) (Below.refl _ _)⟩
              · intro L xs W hI hL hn
                simp [invNeeds, Region.binds] at hn
                have e6 : xs 6 = .tuple #[.agg #[.int .i64 n, .int .i64 s, .int .i64 a, .int .i64 b, .bool g, .string (text t), .int .i64 d, .int .i64 e], .int .i64 k2, .int .i64 f2] := hI.2.1 6 (.inl (by decide)) (by simp_all)
                simp only [flowAct, List.zipWith_cons_cons, List.zipWith_nil_left]
                simp only [e6]
                go_wp2_with (fail)
                exact ⟨rfl, _, rfl, hI.set 8 (.inl (by decide)) (Below.refl _ _)⟩
              · intro L xs W hI hL hn
                simp [invNeeds, Region.binds] at hn
                have e6 : xs 6 = .tuple #[.agg #[.int .i64 n, .int .i64 s, .int .i64 a, .int .i64 b, .bool g, .string (text t), .int .i64 d, .int .i64 e], .int .i64 k2, .int .i64 f2] := hI.2.1 6 (.inl (by decide)) (by simp_all)
                simp only [flowAct, List.zipWith_cons_cons, List.zipWith_nil_left]
                simp only [e6]
                go_wp2_with (fail)
                exact ⟨rfl, _, rfl, hI.set 9 (.inl (by decide)) (Below.refl _ _)⟩
              · intro L xs W hI hL hn
                simp only [flowAct, List.zipWith_cons_cons, List.zipWith_nil_left]
                go_wp2_with (fail)
                exact ⟨rfl, _, rfl, hI.alloc 0 (by decide) rfl hL⟩
              · intro L xs W hI hL hn
                simp [invNeeds, Region.binds] at hn
                obtain ⟨hk, hv⟩ : L 10 = true ∧ L 7 = true := by simp_all
                have hh := hI.2.2.1 0 (by decide) hk
                rw [if_neg (by rw [show L (10 + 1 + 0) = false from hL]; decide)] at hh
                obtain ⟨g5, eg, lg, hg0⟩ := hh
                have e0 : xs 7 = .agg #[.int .i64 n, .int .i64 s, .int .i64 a, .int .i64 b, .bool g, .string (text t), .int .i64 d, .int .i64 e] := hI.2.1 7 (.inl (by decide)) hv
                have e1 : xs 10 = .pointer (some ⟨g5, 0, none⟩) := eg
                have hgc : Cel W g5 0 0 0 0 false [] 0 0 := hg0
                obtain ⟨p0, p1, p2, p3, p4, p5, p6, p7⟩ := hgc.cs
                have pfz := hgc.fz
                simp only [flowAct, List.zipWith_cons_cons, List.zipWith_nil_left]
                simp only [e0, e1]
                go_wp2_with (fail)
                exact ⟨rfl, undef, rfl, hI.store 0 (by decide) rfl rfl hk eg lg (Wrote.of_put 0 0 0 0 false [] 0 0 (Below.refl _ W) hgc n s a b g t d e) (Nat.le_of_lt hgc.lt) undef⟩
              · intro L xs W hI hL hn
                simp [invNeeds, Region.binds] at hn
                have e8 : xs 8 = .int .i64 k2 := hI.2.1 8 (.inl (by decide)) (by simp_all)
                simp only [flowAct, List.zipWith_cons_cons, List.zipWith_nil_left]
                simp only [e8]
                go_wp2_with (fail)
                exact ⟨rfl, _, rfl, hI.set 12 (.inr (by decide)) (Below.refl _ _)⟩
              · intro L xs W hI hL hn
                simp [invNeeds, Region.binds] at hn
                have e9 : xs 9 = .int .i64 f2 := hI.2.1 9 (.inl (by decide)) (by simp_all)
                simp only [flowAct, List.zipWith_cons_cons, List.zipWith_nil_left]
                simp only [e9]
                go_wp2_with (fail)
                exact ⟨rfl, _, rfl, hI.set 13 (.inr (by decide)) (Below.refl _ _)⟩
            · intro L xs W hI hall
              obtain ⟨hW, hV, hP, -, -⟩ := hI
              obtain ⟨gC, eC, lC, PC⟩ := hP 0 (by decide) (hall 10 (by decide))
              rw [if_pos (hall (10 + 1 + 0) (by decide))] at PC
              replace eC : xs 10 = _ := eC
              have e12 : xs 12 = .int .i64 k2 := hV 12 (.inr (by decide)) (hall 12 (by decide))
              have e13 : xs 13 = .int .i64 f2 := hV 13 (.inr (by decide)) (hall 13 (by decide))
              have hPC : Cel W gC n s a b g t d e := PC
              clear hP hall hV PC lC
              simp only [flowAct, List.zipWith_cons_cons, List.zipWith_nil_left]
              simp only [eC, e12, e13]
              have HB2 := Lib.hid (HB1.out.trans (hW.mono HB1.out.size))
              have HZ2 := Lib.hid (heap_below HZ1.out hW)
              have HO2 := Lib.hid (HO1.out.kept hW)
              have HPC := Lib.hid hPC
              clear eC e12 e13 hW hPC HCG HGQ HB1 HZ1 HO1 HS1 HS2
              rename_i W2i
              obtain ⟨W2, hW2⟩ : ∃ X, W = X := ⟨_, rfl⟩
              rw [hW2] at HB2 HZ2 HO2 HPC ⊢
              clear hW2
              by_cases hf : f2 = 0
              · subst hf
                obtain ⟨q2, hq2, hql⟩ := HOK.out (by first | rfl | trivial)
                subst hq2
                have HN2 := Lib.hid (getN_ok HN.out HC.out)
                have hsum : (at0 : Int) + (q2 : Int) ≤ 9223372036854775807 := by omega
                have hat2 : at0 + q2 ≤ m9 := by omega
                obtain ⟨c0, c1, c2, c3, c4, c5, c6, c7⟩ := HPC.out.cs
                have hlen9 : cs.length ≤ 1000000000 := by have := HN4.out; have := HLN.out; have := HCL.out; omega
                have hbs := HB2.out.size
                have HL9 := Lib.hid hlen9
                clear hlen9 HC HOK
                go_wp2_with (at_builtin; refine wpList_append_cell rfl _ _ rfl (v := .slice a9 k c9) rfl HO2.out n s a b g t d e rfl HL9.out hbs ?_; intro v' w' ho' hg'; obtain ⟨a8, c8, e8, -⟩ := ho'.cls; rw [List.length_append, List.length_singleton, HCL.out] at e8; subst e8)
                have hbw := ((HB2.out.alloc hbs (.cells #[.int .i64 n, .int .i64 s, .int .i64 a, .int .i64 b, .bool g, .string (text t), .int .i64 d, .int .i64 e] 50)).grown hg' (by simp; omega) (fun k e => (HO2.out.lt k e).1))
                have hz' := heap_grown ((Below.heap_alloc W2 (.cells #[.int .i64 n, .int .i64 s, .int .i64 a, .int .i64 b, .bool g, .string (text t), .int .i64 d, .int .i64 e] 50) B (Array.getElem?_eq_some_iff.1 HZ2.out).1).trans HZ2.out) hg' (own_ne HZ2.out (by decide) HO2.out)
                refine ⟨⟨k + 1, at0 + q2, _, by omega, by go_num, by go_num, hat2, HN2.out, by rw [List.length_append, List.length_singleton, HCL.out], ho', hbw, hz'⟩, ?_⟩
                simp [intOf]; omega
              · have hfn : (f2 != 0) = true := by simpa using hf
                have HRR := Lib.hid (show RV = ([], [], 0, 100) by rw [← HRV.out]; exact rowrget_bad HP.out HT.out HNE.out HLN.out (getN_none (getN_bad HN.out (by rw [HC.out]; exact hf)) n1 (by omega)))
                obtain ⟨z0, z1, zf⟩ := row_cells HZ2.out
                have HSB := Lib.hid (row_set HZ2.out ⟨#[]⟩ (.slice none 0 0))
                clear hf HC HOK
                go_wp2
                refine bodyPost_ret (res_cell_tmp2 rfl _ _ B 25 _ (0, 0) _ (.int .i64 0) (.int .i64 100) rfl rfl rfl HSB.out Tryd.underlying25 rfl (by kernel_rfl)) rfl ?_
                rw [HRR.out]
                exact ⟨_, rfl, OwnC.nil _ _, (HB2.out.setCell (p := ⟨B, 0, none⟩) (by have := HBe.out; simp; omega) _).setCell (p := ⟨B, 1, none⟩) (by have := HBe.out; simp; omega) _⟩
          · obtain rfl : k = n1 := by omega
            obtain ⟨z0, z1, zf⟩ := row_cells HZr.out
            have HRR := Lib.hid (show RV = (kt, cs, (at0 : Int), 0) by rw [← HRV.out]; exact rowrget_yes HP.out HT.out HNE.out HLN.out HN.out)
            have HSR := Lib.hid (row_set HZr.out tk (.slice a9 k c9))
            go_wp2
            refine bodyPost_ret (res_cell_tmp2 rfl _ _ B 25 _ (0, 0) _ (.int .i64 (at0 : Int)) (.int .i64 0) rfl rfl rfl HSR.out Tryd.underlying25 rfl (by kernel_rfl)) rfl ?_
            rw [HRR.out]
            refine ⟨_, by rw [HTK.out], ?_, (HBr.out.setCell (p := ⟨B, 0, none⟩) (by have := HBe.out; simp; omega) _).setCell (p := ⟨B, 1, none⟩) (by have := HBe.out; simp; omega) _⟩
            exact own_set (i := 1) (show (wr.setCell ⟨B, 0, none⟩ (.string tk)).heap[B]? = _ from (heap_setCell_same _ _ 0 _ _ _ HZr.out).trans rfl) (by decide) (own_set (i := 0) HZr.out (by decide) HO.out)
    · have h1n : (ft != 0) = true := by simpa using h1
      have HRR := Lib.hid (show RV = ([], [], 0, 100) by rw [← HRV.out]; exact rowrget_key HP.out (by rw [HT.out]; exact h1))
      obtain ⟨z0, z1, zf⟩ := row_cells HZ0.out
      clear h1
      go_wp2_with (go_at_call 51; (with_reducible refine (HGT.out _ HB0.out).mono ?_); rintro e9 w9 ⟨rfl, rfl⟩)
      refine bodyPost_ret (res_cell_tmp2 rfl _ _ B 25 _ (0, 0) _ (.int .i64 0) (.int .i64 100) rfl rfl rfl HSB.out Tryd.underlying25 rfl (by kernel_rfl)) rfl ?_
      exact HBAD.out _ HRR.out
  · have h0n : (P0 != 0) = true := by simpa using h0
    have HRR := Lib.hid (show RV = ([], [], 0, P0) by rw [← HRV.out, ← HP.out]; exact rowrget_pol (by rw [HP.out]; exact h0))
    obtain ⟨z0, z1, zf⟩ := row_cells HZ0.out
    clear h0
    go_wp2
    refine bodyPost_ret (res_cell_tmp2 rfl _ _ B 25 _ (0, 0) _ (.int .i64 0) (.int .i64 P0) rfl rfl rfl HSB.out Tryd.underlying25 rfl (by kernel_rfl)) rfl ?_
    exact HBAD.out _ HRR.out
end Go.Proofs.YtkjpmdpljdgcjaaDoor
end

section
/-
  Row: the reference's Get.
-/
namespace Go.Proofs.YtkjpmdpljdgcjaaDoor
open Go.RowKit Go Go.Sort
set_option linter.unusedVariables false
set_option maxRecDepth 20000

set_option maxRecDepth 100000 in
set_option maxHeartbeats 6400000 in
theorem rrowget_c {w : World} {ad : Option Addr} {m9 cap9 : Nat} {l : List UInt8} (hy : Bys w ad m9 cap9 l) {x : Option Addr} {n1 cap : Nat} {gs : List Grp} (hg : Grs w x n1 cap gs) (hs : ∀ g ∈ gs, g.1.length ≤ 9223372036854775807) :
    Calls Tryd.prog 28 #[.slice ad m9 cap9, .slice x n1 cap] w (RGetPost (rgetS gs l) w) := by
  have hyl := hy.len
  have hyle := hy.le
  have hymax := hy.max
  have hgl := hg.len
  have hgle := hg.le
  have hgmax := hg.max
  have HPG := Lib.hid (fun W (h : Below w.heap.size w W) => rpgood_c (hg.below h) hs)
  have hGT := fun W (h : Below w.heap.size w W) => rgettext_c (hy.below h) 32 (by omega) (by omega)
  have hcg := fun W (h : Below w.heap.size w W) (a1 : Option Addr) (q : Nat) (hh : Bys W a1 (m9 - q) (cap9 - q) (l.drop q)) (p : Int) => rcget_c hh p
  have htok := textS_ok l 32
  obtain ⟨⟨kt, qt, ft⟩, ht⟩ : ∃ z, textS l 32 = z := ⟨_, rfl⟩
  simp only [ht] at hGT htok
  have hts := text_nilb kt
  obtain ⟨P0, hP⟩ : ∃ z, pgoodS gs = z := ⟨_, rfl⟩
  simp only [hP] at HPG
  obtain ⟨RV, hRV⟩ : ∃ z, rgetS gs l = z := ⟨_, rfl⟩
  rw [hRV]
  obtain ⟨kb, hkb⟩ : ∃ z, (kt == []) = z := ⟨_, rfl⟩
  obtain ⟨tk, htk⟩ : ∃ z, text kt = z := ⟨_, rfl⟩
  rw [hkb, htk] at hts
  unfold RetT at hGT
  simp only [htk] at hGT
  have HTK := Lib.hid htk
  have HKB := Lib.hid hkb
  have HRV := Lib.hid hRV
  have HP := Lib.hid hP
  have HT := Lib.hid ht
  have HGT := Lib.hid hGT
  have HCGA := Lib.hid hcg
  have HTOK := Lib.hid htok
  have HY := Lib.hid hy
  have HG := Lib.hid hg
  have HLN := Lib.hid hgl
  have hb0 := alloc_below w (.cells #[.string ⟨#[]⟩, .slice none 0 0] 25)
  have hz0 := heap_alloc_new w (.cells #[.string ⟨#[]⟩, .slice none 0 0] 25)
  clear hGT hcg htok hRV hkb htk hP ht hg hs hy hgl
  go_enter Tryd.func28, Tryd.ntmps28
  go_upto_region 1 with (fail)
  obtain ⟨B, hB⟩ : ∃ q, w.heap.size = q := ⟨_, rfl⟩
  have HBe := Lib.hid hB
  rw [hB] at hz0 ⊢
  clear hB
  generalize w.alloc (.cells #[.string ⟨#[]⟩, .slice none 0 0] 25) = W1 at *
  have HZ := Lib.hid hz0
  have HB := Lib.hid hb0
  clear hz0 hb0
  go_upto_region 2 with (go_at_call 35; (with_reducible refine (HPG.out _ HB.out).mono ?_); rintro e9 w2 ⟨rfl, hb2⟩)
  have HZ0 := Lib.hid (heap_below HZ.out hb2)
  have HB0 := Lib.hid (HB.out.trans (hb2.mono HB.out.size))
  clear hb2 HZ HB HPG
  have hbad : ∀ (f : Int), RV = ([], [], 0, f) → RGetPost RV w (.returned (.tuple #[.agg #[.string ⟨#[]⟩, .slice none 0 0], .int .i64 0, .int .i64 f])) ((w2.setCell ⟨B, 0, none⟩ (.string ⟨#[]⟩)).setCell ⟨B, 1, none⟩ (.slice none 0 0)) := fun f h => by
    rw [h]
    exact ⟨_, rfl, OwnC.nil _ _, (HB0.out.setCell (p := ⟨B, 0, none⟩) (by have := HBe.out; simp; omega) _).setCell (p := ⟨B, 1, none⟩) (by have := HBe.out; simp; omega) _⟩
  have HBAD := Lib.hid hbad
  have HSB := Lib.hid (row_set HZ0.out ⟨#[]⟩ (.slice none 0 0))
  clear hbad
  by_cases h0 : P0 = 0
  · subst h0
    by_cases h1 : ft = 0
    · subst h1
      cases kb with
      | true =>
        have HRR := Lib.hid (show RV = ([], [], 0, 100) by rw [← HRV.out]; exact rowrget_nil HP.out (by rw [HT.out]) (by rw [HT.out]; simpa using HKB.out))
        obtain ⟨z0, z1, zf⟩ := row_cells HZ0.out
        go_wp2_with (go_at_call 53; (with_reducible refine (HGT.out _ HB0.out).mono ?_); rintro e9 w9 ⟨rfl, rfl⟩)
        refine bodyPost_ret (res_cell_tmp2 rfl _ _ B 25 _ (0, 0) _ (.int .i64 0) (.int .i64 100) rfl rfl rfl HSB.out Tryd.underlying25 rfl (by kernel_rfl)) rfl ?_
        exact HBAD.out _ HRR.out
      | false =>
        have HNE := Lib.hid (show ¬ kt = [] by simpa using HKB.out)
        obtain ⟨q, hq, hql, -⟩ := HTOK.out (by first | rfl | trivial)
        subst hq
        have hqm : q ≤ m9 := by omega
        have HN4 := Lib.hid (pgood_len HP.out)
        clear hql HTOK HBAD HSB HKB
        go_upto_region 9 with (go_at_call 53; (with_reducible refine (HGT.out _ HB0.out).mono ?_); rintro e9 w9 ⟨rfl, rfl⟩)
        obtain ⟨R0, hR0⟩ : ∃ z, w2.heap.size = z := ⟨_, rfl⟩
        have hal := alloc_below w2 (.cells #[.string tk, .slice none 0 0] 25)
        have HR0 := Lib.hid (heap_alloc_new w2 (.cells #[.string tk, .slice none 0 0] 25))
        have HBa := Lib.hid (HB0.out.trans (hal.mono HB0.out.size))
        have HZa := Lib.hid (heap_below HZ0.out hal)
        have HBR := Lib.hid (show B < R0 by rw [← hR0]; exact (Array.getElem?_eq_some_iff.1 HZ0.out).1)
        have HRB := Lib.hid (show w.heap.size ≤ R0 by rw [← hR0]; exact HB0.out.size)
        rw [hR0] at HR0 ⊢
        generalize w2.alloc (.cells #[.string tk, .slice none 0 0] 25) = W3 at *
        clear hal hR0 HB0 HZ0
        go_loopw [9, 11] (fun p i wr => ∃ (k at0 : Nat) (cs : List Cl) (v : Value), k ≤ n1 ∧ i = .int .i64 ((k : Nat) : Int) ∧ p = .int .i64 (at0 : Int) ∧ at0 ≤ m9 ∧ getN gs l q k = some (cs, at0) ∧ cs.length = k ∧ OwnC wr w.heap.size v cs ∧ Below w.heap.size w wr ∧ wr.heap[B]? = some (.cells #[.string ⟨#[]⟩, .slice none 0 0] 25 (0, 0)) ∧ wr.heap[R0]? = some (.cells #[.string tk, v] 25 (0, 0))) (fun _ i _ => n1 - (intOf i).toNat)
        case atStart => exact ⟨0, q, [], .slice none 0 0, by omega, rfl, rfl, hqm, rfl, rfl, OwnC.nil _ _, HBa.out, HZa.out, HR0.out⟩
        case round =>
          obtain ⟨k, at0, cs, v, hk, rfl, rfl, hat, hn, hcl, ho, hB, hz, hr⟩ := hrel
          obtain ⟨a9, c9, ev, -⟩ := ho.cls
          rw [hcl] at ev
          subst ev
          have HCL := Lib.hid hcl
          clear hcl
          have HYr := Lib.hid (HY.out.below hB)
          have HN := Lib.hid hn
          have HO := Lib.hid ho
          have HBr := Lib.hid hB
          have HZr := Lib.hid hz
          have HRr := Lib.hid hr
          clear hn ho hB hz hr
          by_cases hlt : k < n1
          · have hki : (k : Int) < (n1 : Int) := by omega
            have hki1 : (k : Int) < (cap : Int) := by omega
            obtain ⟨bg, og, rfl, hatg⟩ := HG.out.at hlt
            obtain ⟨⟨nm, pk⟩, hgk⟩ : ∃ y, gs.getD k ([], 0) = y := ⟨_, rfl⟩
            rw [hgk] at hatg
            obtain ⟨a1, hs1, hs2, hy1⟩ := bys_from HYr.out (q := at0) hat
            have hok := @cget_ok (l.drop at0) pk
            obtain ⟨⟨c, k2, f2⟩, hc⟩ : ∃ z, cgetS (l.drop at0) pk = z := ⟨_, rfl⟩
            obtain ⟨n, s, a, b, g, t, d, e⟩ := c
            rw [hc] at hok
            simp only at hok
            rw [List.length_drop, hyl] at hok
            have HOK := Lib.hid (fun h => (hok h).imp fun z hz => And.intro hz.1 hz.2.1)
            have HC := Lib.hid (show cgetS (l.drop at0) (gs.getD k ([], 0)).2 = (⟨n, s, a, b, g, t, d, e⟩, k2, f2) by rw [hgk]; exact hc)
            have HS1 := Lib.hid hs1
            have HS2 := Lib.hid hs2
            have HB1 := HBr
            have HO1 := HO
            have HZ1 := HZr
            have HR1 := HRr
            have hk1 := Lib.hid (Below.refl wr.heap.size wr)
            go_upto_region 11 with (fail)
            obtain ⟨V1, hV1⟩ : ∃ X, wr = X := ⟨_, rfl⟩
            rw [hV1] at HB1 HO1 HZ1 HR1 hk1 hy1 ⊢
            have HGQ := Lib.hid (fun W (h : Below V1.heap.size V1 W) => (show W.cell? ⟨bg, og + k * 2 + 1, none⟩ = some (.int .i64 pk) from (hatg W (HB1.out.trans (h.mono HB1.out.size))).2))
            clear hV1
            have HCG := Lib.hid (fun W (h : Below V1.heap.size V1 W) => show Calls Tryd.prog 54 #[.slice a1 (m9 - at0) (cap9 - at0), .int .i64 pk] W (Tells (.tuple #[.agg #[.int .i64 n, .int .i64 s, .int .i64 a, .int .i64 b, .bool g, .string (text t), .int .i64 d, .int .i64 e], .int .i64 k2, .int .i64 f2]) W) by
              have hh := HCGA.out W (HB1.out.trans (h.mono HB1.out.size)) a1 at0 ((hy1.below hk1.out).below h) pk
              rw [hc] at hh
              exact hh)
            clear hc hok hgk hatg hs1 hs2 hy1 hk1 HYr HO HBr HZr HRr
            refine wp_region_inv [none, none, none, none, none, none, none, none, none, none, none, none, some 13, some 15, some 16, none, none, none, none, none, none, none, none, none, none, none, none, none, none, none, none, none, none, none, none, none, none, none, none, none, none, none, some 9, some 0, some 1, some 2, some 3, some 4, some 5, some 6, some 7, some 8, some 10, some 11, some 12, none, none, none, none, none, none, none, none, none, none, none, none, none, none] (fun i => [u43, u44, u45, u46, u47, u48, u49, u50, u51, u42, u52, u53, u54, u12, undef, u13, u14].getD i undef) (LayN 13 1 50 #[.int .i64 0, .int .i64 0, .int .i64 0, .int .i64 0, .bool false, .string ⟨#[]⟩, .int .i64 0, .int .i64 0] (fun i => [.slice ad m9 cap9, .int .i64 (at0 : Int), .slice a1 (m9 - at0) (cap9 - at0), .slice (some ⟨bg, og, none⟩) n1 cap, .int .i64 (k : Int), .pointer (some ⟨bg, og + k * 2, none⟩), .pointer (some ⟨bg, og + k * 2 + 1, none⟩), .int .i64 pk, .tuple #[.agg #[.int .i64 n, .int .i64 s, .int .i64 a, .int .i64 b, .bool g, .string (text t), .int .i64 d, .int .i64 e], .int .i64 k2, .int .i64 f2], .tuple #[.agg #[.int .i64 n, .int .i64 s, .int .i64 a, .int .i64 b, .bool g, .string (text t), .int .i64 d, .int .i64 e], .int .i64 k2, .int .i64 f2], .agg #[.int .i64 n, .int .i64 s, .int .i64 a, .int .i64 b, .bool g, .string (text t), .int .i64 d, .int .i64 e], .int .i64 k2, .int .i64 f2, undef, undef, .int .i64 k2, .int .i64 f2].getD i undef) (fun j => [#[.int .i64 n, .int .i64 s, .int .i64 a, .int .i64 b, .bool g, .string (text t), .int .i64 d, .int .i64 e]].getD j #[]) V1) (by kernel_rfl) (by kernel_rfl) rfl rfl (fun L hL => LayN.start 17 (by decide) hL (fun i hi => (getD_none _ (by simp only [List.length_cons, List.length_nil]; omega)).trans (getD_none _ (by simp only [List.length_cons, List.length_nil]; omega)).symm)) ?_ ?_
            · simp only [invOps, and_true]
              refine ⟨?_, ?_, ?_, ?_, ?_, ?_, ?_, ?_, ?_, ?_, ?_, ?_, ?_, ?_, ?_, ?_, ?_⟩
              · intro L xs W hI hL hn
                simp only [flowAct, List.zipWith_cons_cons, List.zipWith_nil_left]
                go_wp2_with (fail)
                exact ⟨rfl, _, rfl, hI.set 0 (.inl (by decide)) (Below.refl _ _)⟩
              · intro L xs W hI hL hn
                simp only [flowAct, List.zipWith_cons_cons, List.zipWith_nil_left]
                go_wp2_with (fail)
                exact ⟨rfl, _, rfl, hI.set 1 (.inl (by decide)) (Below.refl _ _)⟩
              · intro L xs W hI hL hn
                simp [invNeeds, Region.binds] at hn
                have e0 : xs 0 = .slice ad m9 cap9 := hI.2.1 0 (.inl (by decide)) (by simp_all)
                have e1 : xs 1 = .int .i64 (at0 : Int) := hI.2.1 1 (.inl (by decide)) (by simp_all)
                have hs1 := HS1.out
                have hs2 := HS2.out
                simp only [flowAct, List.zipWith_cons_cons, List.zipWith_nil_left]
                simp only [e0, e1]
                go_wp2_with (fail)
                exact ⟨rfl, _, rfl, hI.set 2 (.inl (by decide)) (Below.refl _ _)⟩
              · intro L xs W hI hL hn
                simp only [flowAct, List.zipWith_cons_cons, List.zipWith_nil_left]
                go_wp2_with (fail)
                exact ⟨rfl, _, rfl, hI.set 3 (.inl (by decide)) (Below.refl _ _)⟩
              · intro L xs W hI hL hn
                simp only [flowAct, List.zipWith_cons_cons, List.zipWith_nil_left]
                go_wp2_with (fail)
                exact ⟨rfl, _, rfl, hI.set 4 (.inl (by decide)) (Below.refl _ _)⟩
              · intro L xs W hI hL hn
                simp [invNeeds, Region.binds] at hn
                have e3 : xs 3 = .slice (some ⟨bg, og, none⟩) n1 cap := hI.2.1 3 (.inl (by decide)) (by simp_all)
                have e4 : xs 4 = .int .i64 (k : Int) := hI.2.1 4 (.inl (by decide)) (by simp_all)
                simp only [flowAct, List.zipWith_cons_cons, List.zipWith_nil_left]
                simp only [e3, e4]
                go_wp2_with (fail)
                exact ⟨rfl, _, rfl, hI.set 5 (.inl (by decide)) (Below.refl _ _)⟩
              · intro L xs W hI hL hn
                simp [invNeeds, Region.binds] at hn
                have e5 : xs 5 = .pointer (some ⟨bg, og + k * 2, none⟩) := hI.2.1 5 (.inl (by decide)) (by simp_all)
                simp only [flowAct, List.zipWith_cons_cons, List.zipWith_nil_left]
                simp only [e5]
                go_wp2_with (fail)
                exact ⟨rfl, _, rfl, hI.set 6 (.inl (by decide)) (Below.refl _ _)⟩
              · intro L xs W hI hL hn
                have g1 := HGQ.out W hI.1
                simp [invNeeds, Region.binds] at hn
                have e6 : xs 6 = .pointer (some ⟨bg, og + k * 2 + 1, none⟩) := hI.2.1 6 (.inl (by decide)) (by simp_all)
                simp only [flowAct, List.zipWith_cons_cons, List.zipWith_nil_left]
                simp only [e6]
                go_wp2_with (fail)
                exact ⟨rfl, _, rfl, hI.set 7 (.inl (by decide)) (Below.refl _ _)⟩
              · intro L xs W hI hL hn
                simp [invNeeds, Region.binds] at hn
                have e2 : xs 2 = .slice a1 (m9 - at0) (cap9 - at0) := hI.2.1 2 (.inl (by decide)) (by simp_all)
                have e7 : xs 7 = .int .i64 pk := hI.2.1 7 (.inl (by decide)) (by simp_all)
                simp only [flowAct, List.zipWith_cons_cons, List.zipWith_nil_left]
                simp only [e2, e7]
                go_wp2_with (go_at_call 54; (with_reducible refine (HCG.out _ hI.below).mono ?_); rintro e9 w9 ⟨rfl, hb9⟩)
                exact ⟨rfl, _, rfl, hI.set 8 (.inl (by decide)) (hb9)⟩
              · intro L xs W hI hL hn
                simp [invNeeds, Region.binds] at hn
                have e8 : xs 8 = .tuple #[.agg #[.int .i64 n, .int .i64 s, .int .i64 a, .int .i64 b, .bool g, .string (text t), .int .i64 d, .int .i64 e], .int .i64 k2, .int .i64 f2] := hI.2.1 8 (.inl (by decide)) (by simp_all)
                simp only [flowAct, List.zipWith_cons_cons, List.zipWith_nil_left]
                simp only [e8]
                go_wp2_with (fail)
                exact ⟨rfl, _, rfl, hI.set 9 (.inl (by decide)) (Below.refl _ _)⟩
              · intro L xs W hI hL hn
                simp [invNeeds, Region.binds] at hn
                have e9 : xs 9 = .tuple #[.agg #[.int .i64 n, .int .i64 s, .int .i64 a, .int .i64 b, .bool g, .string (text t), .int .i64 d, .int .i64 e], .int .i64 k2, .int .i64 f2] := hI.2.1 9 (.inl (by decide)) (by simp_all)
                simp only [flowAct, List.zipWith_cons_cons, List.zipWith_nil_left]
                simp only [e9]
                go_wp2_with (fail)
                exact ⟨rfl, _, rfl, hI.set 10 (.inl (by decide)) (Below.refl _ _)⟩
              · intro L xs W hI hL hn
                simp [invNeeds, Region.binds] at hn
                have e9 : xs 9 = .tuple #[.agg #[.int .i64 n, .int .i64 s, .int .i64 a, .int .i64 b, .bool g, .string (text t), .int .i64 d, .int .i64 e], .int .i64 k2, .int .i64 f2] := hI.2.1 9 (.inl (by decide)) (by simp_all)
                simp only [flowAct, List.zipWith_cons_cons, List.zipWith_nil_left]
                simp only [e9]
                go_wp2_with (fail)
                exact ⟨rfl, _, rfl, hI.set 11 (.inl (by decide)) (Below.refl _ _)⟩
              · intro L xs W hI hL hn
                simp [invNeeds, Region.binds] at hn
                have e9 : xs 9 = .tuple #[.agg #[.int .i64 n, .int .i64 s, .int .i64 a, .int .i64 b, .bool g, .string (text t), .int .i64 d, .int .i64 e], .int .i64 k2, .int .i64 f2] := hI.2.1 9 (.inl (by decide)) (by simp_all)
                simp only [flowAct, List.zipWith_cons_cons, List.zipWith_nil_left]
                simp only [e9]
                go_wp2_with (fail)
                exact ⟨rfl, _, rfl, hI.set 12 (.inl (by decide)) (Below.refl _ _)⟩
              · intro L xs W hI hL hn
                simp only [flowAct, List.zipWith_cons_cons, List.zipWith_nil_left]
                go_wp2_with (fail)
                exact ⟨rfl, _, rfl, hI.alloc 0 (by decide) rfl hL⟩
              · intro L xs W hI hL hn
                simp [invNeeds, Region.binds] at hn
                obtain ⟨hk, hv⟩ : L 13 = true ∧ L 10 = true := by simp_all
                have hh := hI.2.2.1 0 (by decide) hk
                rw [if_neg (by rw [show L (13 + 1 + 0) = false from hL]; decide)] at hh
                obtain ⟨g5, eg, lg, hg0⟩ := hh
                have e0 : xs 10 = .agg #[.int .i64 n, .int .i64 s, .int .i64 a, .int .i64 b, .bool g, .string (text t), .int .i64 d, .int .i64 e] := hI.2.1 10 (.inl (by decide)) hv
                have e1 : xs 13 = .pointer (some ⟨g5, 0, none⟩) := eg
                have hgc : Cel W g5 0 0 0 0 false [] 0 0 := hg0
                obtain ⟨p0, p1, p2, p3, p4, p5, p6, p7⟩ := hgc.cs
                have pfz := hgc.fz
                simp only [flowAct, List.zipWith_cons_cons, List.zipWith_nil_left]
                simp only [e0, e1]
                go_wp2_with (fail)
                exact ⟨rfl, undef, rfl, hI.store 0 (by decide) rfl rfl hk eg lg (Wrote.of_put 0 0 0 0 false [] 0 0 (Below.refl _ W) hgc n s a b g t d e) (Nat.le_of_lt hgc.lt) undef⟩
              · intro L xs W hI hL hn
                simp [invNeeds, Region.binds] at hn
                have e11 : xs 11 = .int .i64 k2 := hI.2.1 11 (.inl (by decide)) (by simp_all)
                simp only [flowAct, List.zipWith_cons_cons, List.zipWith_nil_left]
                simp only [e11]
                go_wp2_with (fail)
                exact ⟨rfl, _, rfl, hI.set 15 (.inr (by decide)) (Below.refl _ _)⟩
              · intro L xs W hI hL hn
                simp [invNeeds, Region.binds] at hn
                have e12 : xs 12 = .int .i64 f2 := hI.2.1 12 (.inl (by decide)) (by simp_all)
                simp only [flowAct, List.zipWith_cons_cons, List.zipWith_nil_left]
                simp only [e12]
                go_wp2_with (fail)
                exact ⟨rfl, _, rfl, hI.set 16 (.inr (by decide)) (Below.refl _ _)⟩
            · intro L xs W hI hall
              obtain ⟨hW, hV, hP, -, -⟩ := hI
              obtain ⟨gC, eC, lC, PC⟩ := hP 0 (by decide) (hall 13 (by decide))
              rw [if_pos (hall (13 + 1 + 0) (by decide))] at PC
              replace eC : xs 13 = _ := eC
              have e12 : xs 15 = .int .i64 k2 := hV 15 (.inr (by decide)) (hall 15 (by decide))
              have e13 : xs 16 = .int .i64 f2 := hV 16 (.inr (by decide)) (hall 16 (by decide))
              have hPC : Cel W gC n s a b g t d e := PC
              clear hP hall hV PC lC
              simp only [flowAct, List.zipWith_cons_cons, List.zipWith_nil_left]
              simp only [eC, e12, e13]
              have HB2 := Lib.hid (HB1.out.trans (hW.mono HB1.out.size))
              have HZ2 := Lib.hid (heap_below HZ1.out hW)
              have HO2 := Lib.hid (HO1.out.kept hW)
              have HR2 := Lib.hid (heap_below HR1.out hW)
              have HPC := Lib.hid hPC
              clear eC e12 e13 hW hPC HCG HGQ HB1 HZ1 HO1 HS1 HS2 HR1
              rename_i W2i
              obtain ⟨W2, hW2⟩ : ∃ X, W = X := ⟨_, rfl⟩
              rw [hW2] at HB2 HZ2 HO2 HPC HR2 ⊢
              clear hW2
              by_cases hf : f2 = 0
              · subst hf
                obtain ⟨q2, hq2, hql⟩ := HOK.out (by first | rfl | trivial)
                subst hq2
                have HN2 := Lib.hid (getN_ok HN.out HC.out)
                have hsum : (at0 : Int) + (q2 : Int) ≤ 9223372036854775807 := by omega
                have hat2 : at0 + q2 ≤ m9 := by omega
                obtain ⟨c0, c1, c2, c3, c4, c5, c6, c7⟩ := HPC.out.cs
                have hlen9 : cs.length ≤ 1000000000 := by have := HN4.out; have := HLN.out; have := HCL.out; omega
                have hbs := HB2.out.size
                have HL9 := Lib.hid hlen9
                clear hlen9 HC HOK
                obtain ⟨-, r1, rf⟩ := row_cells HR2.out
                go_wp2_with (at_builtin; refine wpList_append_cell rfl _ _ rfl (v := .slice a9 k c9) rfl HO2.out n s a b g t d e rfl HL9.out hbs ?_; intro v' w' ho' hg'; obtain ⟨a8, c8, e8, -⟩ := ho'.cls; rw [List.length_append, List.length_singleton, HCL.out] at e8; subst e8; have hr' := heap_grown ((Below.heap_alloc W2 (.cells #[.int .i64 n, .int .i64 s, .int .i64 a, .int .i64 b, .bool g, .string (text t), .int .i64 d, .int .i64 e] 50) R0 (Array.getElem?_eq_some_iff.1 HR2.out).1).trans HR2.out) hg' (own_ne HR2.out (by decide) HO2.out); obtain ⟨s0, s1, sf⟩ := row_cells hr')
                have hbw := ((HB2.out.alloc hbs (.cells #[.int .i64 n, .int .i64 s, .int .i64 a, .int .i64 b, .bool g, .string (text t), .int .i64 d, .int .i64 e] 50)).grown hg' (by simp; omega) (fun k e => (HO2.out.lt k e).1))
                have hz' := heap_grown ((Below.heap_alloc W2 (.cells #[.int .i64 n, .int .i64 s, .int .i64 a, .int .i64 b, .bool g, .string (text t), .int .i64 d, .int .i64 e] 50) B (Array.getElem?_eq_some_iff.1 HZ2.out).1).trans HZ2.out) hg' (own_ne HZ2.out (by decide) HO2.out)
                refine ⟨⟨k + 1, at0 + q2, _, _, by omega, by go_num, by go_num, hat2, HN2.out, by rw [List.length_append, List.length_singleton, HCL.out], own_set hr' (by decide) ho', hbw.setCell (p := ⟨R0, 1, none⟩) HRB.out _, (Below.heap_setCell _ ⟨R0, 1, none⟩ _ B (by have := HBR.out; simp; omega)).trans hz', (heap_setCell_same _ R0 1 _ _ _ hr').trans rfl⟩, ?_⟩
                simp [intOf]; omega
              · have hfn : (f2 != 0) = true := by simpa using hf
                have HRR := Lib.hid (show RV = ([], [], 0, 100) by rw [← HRV.out]; exact rowrget_bad HP.out HT.out HNE.out HLN.out (getN_none (getN_bad HN.out (by rw [HC.out]; exact hf)) n1 (by omega)))
                obtain ⟨z0, z1, zf⟩ := row_cells HZ2.out
                have HSB := Lib.hid (row_set HZ2.out ⟨#[]⟩ (.slice none 0 0))
                clear hf HC HOK
                go_wp2
                refine bodyPost_ret (res_cell_tmp2 rfl _ _ B 25 _ (0, 0) _ (.int .i64 0) (.int .i64 100) rfl rfl rfl HSB.out Tryd.underlying25 rfl (by kernel_rfl)) rfl ?_
                rw [HRR.out]
                exact ⟨_, rfl, OwnC.nil _ _, (HB2.out.setCell (p := ⟨B, 0, none⟩) (by have := HBe.out; simp; omega) _).setCell (p := ⟨B, 1, none⟩) (by have := HBe.out; simp; omega) _⟩
          · obtain rfl : k = n1 := by omega
            obtain ⟨z0, z1, zf⟩ := row_cells HZr.out
            obtain ⟨y0, y1, -⟩ := row_cells HRr.out
            have HRR := Lib.hid (show RV = (kt, cs, (at0 : Int), 0) by rw [← HRV.out]; exact rowrget_yes HP.out HT.out HNE.out HLN.out HN.out)
            have HSR := Lib.hid (row_set HZr.out tk (.slice a9 k c9))
            go_wp2
            refine bodyPost_ret (res_cell_tmp2 rfl _ _ B 25 _ (0, 0) _ (.int .i64 (at0 : Int)) (.int .i64 0) rfl rfl rfl HSR.out Tryd.underlying25 rfl (by kernel_rfl)) rfl ?_
            rw [HRR.out]
            refine ⟨_, by rw [HTK.out], ?_, (HBr.out.setCell (p := ⟨B, 0, none⟩) (by have := HBe.out; simp; omega) _).setCell (p := ⟨B, 1, none⟩) (by have := HBe.out; simp; omega) _⟩
            exact own_set (i := 1) (show (wr.setCell ⟨B, 0, none⟩ (.string tk)).heap[B]? = _ from (heap_setCell_same _ _ 0 _ _ _ HZr.out).trans rfl) (by decide) (own_set (i := 0) HZr.out (by decide) HO.out)
    · have h1n : (ft != 0) = true := by simpa using h1
      have HRR := Lib.hid (show RV = ([], [], 0, 100) by rw [← HRV.out]; exact rowrget_key HP.out (by rw [HT.out]; exact h1))
      obtain ⟨z0, z1, zf⟩ := row_cells HZ0.out
      clear h1
      go_wp2_with (go_at_call 53; (with_reducible refine (HGT.out _ HB0.out).mono ?_); rintro e9 w9 ⟨rfl, rfl⟩)
      refine bodyPost_ret (res_cell_tmp2 rfl _ _ B 25 _ (0, 0) _ (.int .i64 0) (.int .i64 100) rfl rfl rfl HSB.out Tryd.underlying25 rfl (by kernel_rfl)) rfl ?_
      exact HBAD.out _ HRR.out
  · have h0n : (P0 != 0) = true := by simpa using h0
    have HRR := Lib.hid (show RV = ([], [], 0, P0) by rw [← HRV.out, ← HP.out]; exact rowrget_pol (by rw [HP.out]; exact h0))
    obtain ⟨z0, z1, zf⟩ := row_cells HZ0.out
    clear h0
    go_wp2
    refine bodyPost_ret (res_cell_tmp2 rfl _ _ B 25 _ (0, 0) _ (.int .i64 0) (.int .i64 P0) rfl rfl rfl HSB.out Tryd.underlying25 rfl (by kernel_rfl)) rfl ?_
    exact HBAD.out _ HRR.out
end Go.Proofs.YtkjpmdpljdgcjaaDoor
end

section
/-
  Row: the reference's Put.
-/
namespace Go.Proofs.YtkjpmdpljdgcjaaDoor
open Go.RowKit Go Go.Sort
set_option linter.unusedVariables false
set_option maxRecDepth 20000

set_option maxRecDepth 100000 in
set_option maxHeartbeats 6400000 in
theorem rrowput_c {w : World} {ad : Option Addr} {m9 cap9 : Nat} {l : List UInt8} (hy : Bys w ad m9 cap9 l) (hm9 : m9 ≤ 5400) {x x2 : Option Addr} {n1 cap m cap2 : Nat} {gs : List Grp} {cs : List Cl} (hg : Grs w x n1 cap gs) (hs : ∀ g ∈ gs, g.1.length ≤ 9223372036854775807)
    (hl : Cls w x2 m cap2 cs) (hx : ∀ c ∈ cs, c.t.length ≤ 9223372036854775807) (key : List UInt8) (hk : key.length ≤ 6000) :
    Calls Tryd.prog 30 #[.slice ad m9 cap9, .slice x n1 cap, .agg #[.string (text key), .slice x2 m cap2]] w (BytesPost (rowputS l gs key cs) w) := by
  obtain ⟨i0, hi, hz0, hz1, hz2⟩ := info_parts Tryd.info5
  have hgl := hg.len
  have hll := hl.len
  have hyl := hy.len
  have hle1 := hg.le
  have hmax1 := hg.max
  have hle2 := hl.le
  have hmax2 := hl.max
  have HGD := Lib.hid (fun W (h : Below w.heap.size w W) => rrowgood_c (hg.below h) hs (hl.below h) hx key (by omega))
  have hPT := fun W (h : Below w.heap.size w W) => rputtext_c (hy.below h) (text key) (by omega) (by rw [text_size]; omega)
  simp only [text_back] at hPT
  have HIV := Lib.hid (@rgood_inv gs key cs)
  have HSM := Lib.hid (@rlay_small gs key cs)
  have HP := Lib.hid (show rgoodS gs key cs = 0 → rowputS l gs key cs = l ++ rlayN gs key cs n1 from fun h => by unfold rowputS; rw [if_pos h, hgl])
  have HQ := Lib.hid (show ¬ rgoodS gs key cs = 0 → rowputS l gs key cs = l from fun h => by unfold rowputS; rw [if_neg h])
  have HAP0 := Lib.hid (rlay_app l gs key cs 0)
  obtain ⟨RV, hRV⟩ : ∃ z, rowputS l gs key cs = z := ⟨_, rfl⟩
  rw [hRV] at HP HQ ⊢
  obtain ⟨R, hR⟩ : ∃ z, rgoodS gs key cs = z := ⟨_, rfl⟩
  rw [hR] at HP HQ HIV HSM
  simp only [hR] at HGD
  obtain ⟨tk, htk⟩ : ∃ z, text key = z := ⟨_, rfl⟩
  simp only [htk] at hPT HGD
  rw [htk]
  have HPT := Lib.hid hPT
  have hr := heap_alloc_new w (.cells #[.string tk, .slice x2 m cap2] 25)
  have hb := alloc_below w (.cells #[.string tk, .slice x2 m cap2] 25)
  have HY := Lib.hid hy
  have HG := Lib.hid hg
  have HL := Lib.hid hl
  clear hPT hRV hR htk hk hg hl hy hs hx
  go_enter Tryd.func30, Tryd.ntmps30
  go_upto_region 1 with (fail)
  obtain ⟨B, hB⟩ : ∃ q, w.heap.size = q := ⟨_, rfl⟩
  have HBe := Lib.hid hB
  rw [hB] at hr ⊢
  clear hB
  generalize w.alloc (.cells #[.string tk, .slice x2 m cap2] 25) = W1 at *
  obtain ⟨r0, r1, -⟩ := row_cells hr
  have HR1 := Lib.hid hr
  have HB1 := Lib.hid hb
  clear hr hb
  by_cases h0 : R = 0
  · subst h0
    have HRR := Lib.hid (HP.out (by first | rfl | trivial))
    obtain ⟨hp0, hk0, hlen, hall⟩ := HIV.out (by first | rfl | trivial)
    have hn4 := pgood_len hp0
    obtain rfl : m = n1 := by omega
    have HSS := Lib.hid (HSM.out (by first | rfl | trivial))
    clear HP HQ HIV HSM hp0 hk0 hall
    go_upto_region 3 with (go_at_call 15; (with_reducible refine (HGD.out _ HB1.out).mono ?_); rintro e9 w2 ⟨rfl, hb2⟩)
    have HB2 := Lib.hid (HB1.out.trans (hb2.mono HB1.out.size))
    have HR2 := Lib.hid (heap_below HR1.out hb2)
    clear hb2 HR1 HB1 HGD r0 r1
    obtain ⟨r0, r1, -⟩ := row_cells HR2.out
    go_upto_region 5 with (go_at_call 57; (with_reducible refine (HPT.out _ HB2.out).mono ?_); rintro e9 w3 ⟨v3, rfl, ho3, hb3⟩)
    have HB3 := Lib.hid (HB2.out.trans (hb3.mono HB2.out.size))
    have HR3 := Lib.hid (heap_below HR2.out hb3)
    have HO3 := Lib.hid (show OwnB w3 w.heap.size 5 v3 (l ++ rlayN gs key cs 0) by rw [HAP0.out]; exact ho3.mono HB2.out.size)
    clear hb3 ho3 HB2 HR2 HPT HAP0 r0 r1
    go_loopw [7, 8] (fun v i wr => ∃ k : Nat, k ≤ m ∧ i = .int .i64 (k : Int) ∧ OwnB wr w.heap.size 5 v (l ++ rlayN gs key cs k) ∧ Below w.heap.size w wr ∧ wr.heap[B]? = some (.cells #[.string tk, .slice x2 m cap2] 25 (0, 0))) (fun _ i _ => m - (intOf i).toNat)
    case atStart => exact ⟨0, by omega, rfl, HO3.out, HB3.out, HR3.out⟩
    case round =>
      clear HB3 HR3 HO3
      obtain ⟨k, hk, rfl, ho, hB, hr⟩ := hrel
      by_cases hlt : k < m
      · have hki : (k : Int) < (m : Int) := by omega
        have hki1 : (k : Int) < (cap : Int) := by omega
        have hki2 : (k : Int) < (cap2 : Int) := by omega
        obtain ⟨bg, og, rfl, hatg⟩ := HG.out.at hlt
        obtain ⟨bk, off, rfl, hat⟩ := HL.out.at hlt
        have hst := rlay_app l gs key cs (k + 1)
        simp only at hst
        have hs1 := (HSS.out k).1 (by omega)
        have hs2 := (HSS.out k).2
        obtain ⟨⟨nm, pk⟩, hgk⟩ : ∃ y, gs.getD k ([], 0) = y := ⟨_, rfl⟩
        obtain ⟨c, hck⟩ : ∃ y, cs.getD k Cl.zero = y := ⟨_, rfl⟩
        rw [hgk] at hatg hst
        rw [hck] at hat hst hs2
        obtain ⟨n, s, a, b, g, t, d, e⟩ := c
        obtain ⟨acc, hac⟩ : ∃ z, l ++ rlayN gs key cs k = z := ⟨_, rfl⟩
        have hacl : acc.length ≤ 6000 := by rw [← hac, List.length_append]; omega
        rw [hac] at hst ho
        obtain ⟨lf, hlf⟩ : ∃ z, cputS acc pk ⟨n, s, a, b, g, t, d, e⟩ = z := ⟨_, rfl⟩
        simp only [hlf] at hst
        obtain ⟨a', c', rfl, hy⟩ := ho.bys
        have hC := fun W (h : Below wr.heap.size wr W) => rcput_c (hy.below h) hacl pk n s a b g t d e (Nat.le_trans hs2 (by decide))
        rw [hlf] at hC
        have HC := Lib.hid hC
        have HST := Lib.hid hst
        have HB := Lib.hid hB
        have HBs := Lib.hid hB.size
        have HATG := Lib.hid (fun W (h : Below wr.heap.size wr W) => hatg W (hB.trans (h.mono hB.size)))
        have HAT := Lib.hid (fun W (h : Below wr.heap.size wr W) => hat W (hB.trans (h.mono hB.size)))
        have HRW := Lib.hid (fun W (h : Below wr.heap.size wr W) => row_cells (heap_below hr h))
        have HR := Lib.hid hr
        clear hatg hat hst hs1 hs2 hgk hck hac hacl ho hlf hy hC hB hr
        go_upto_region 7 with (fail)
        refine wp_region_flow_tail 12 [none, none, none, none, none, none, none, none, none, none, none, none, none, none, none, none, none, none, none, none, none, none, none, none, none, none, some 0, some 1, some 2, some 3, some 4, some 5, some 6, some 7, some 8, some 9, some 10, some 11, none] (fun i => [u26, u27, u28, u29, u30, u31, u32, u33, u34, u35, u36, u37].getD i undef) [(fun v _ => v = .slice a' acc.length c'), (fun v _ => v = .slice (some ⟨bg, og, none⟩) m cap), (fun v _ => v = .int .i64 (k : Int)), (fun v _ => v = .pointer (some ⟨bg, og + k * 2, none⟩)), (fun v _ => v = .pointer (some ⟨bg, og + k * 2 + 1, none⟩)), (fun v _ => v = .int .i64 pk), (fun v _ => v = .pointer (some ⟨B, 1, none⟩)), (fun v _ => v = .slice (some ⟨bk, off, none⟩) m cap2), (fun v _ => v = .int .i64 (k : Int)), (fun v _ => v = .pointer (some ⟨bk, off + k * 8, none⟩)), (fun v _ => v = .agg #[.int .i64 n, .int .i64 s, .int .i64 a, .int .i64 b, .bool g, .string (text t), .int .i64 d, .int .i64 e]), (fun v W => OwnB W w.heap.size 5 v lf)] (fun _ => False) (by kernel_rfl) (by kernel_rfl) (by kernel_rfl) rfl rfl rfl ?_ ?_ ?_
        · intro g hg v X Y hX hY hv
          simp only [List.mem_cons, List.not_mem_nil, or_false] at hg
          rcases hg with rfl | rfl | rfl | rfl | rfl | rfl | rfl | rfl | rfl | rfl | rfl | rfl
          all_goals first
            | exact hv
            | exact hv.kept hY
        · simp only [flowOpsF, List.take_succ_cons, List.take_zero, and_true]
          refine ⟨?_, ?_, ?_, ?_, ?_, ?_, ?_, ?_, ?_, ?_, ?_, ?_⟩
          · intro xs W hW hn
            simp only [flowAct, List.zipWith_cons_cons, List.zipWith_nil_left]
            go_wp2_with (fail)
            exact ⟨rfl, _, rfl, Below.refl _ _, rfl, fun h => h.elim⟩
          · intro xs W hW hn
            simp only [flowAct, List.zipWith_cons_cons, List.zipWith_nil_left]
            go_wp2_with (fail)
            exact ⟨rfl, _, rfl, Below.refl _ _, rfl, fun h => h.elim⟩
          · intro xs W hW hn
            simp only [flowAct, List.zipWith_cons_cons, List.zipWith_nil_left]
            go_wp2_with (fail)
            exact ⟨rfl, _, rfl, Below.refl _ _, rfl, fun h => h.elim⟩
          · intro xs W hW hn
            simp [flowNeeds, Region.binds] at hn
            simp only [flowAct, List.zipWith_cons_cons, List.zipWith_nil_left]
            try simp only [hn]
            go_wp2_with (fail)
            exact ⟨rfl, _, rfl, Below.refl _ _, rfl, fun h => h.elim⟩
          · intro xs W hW hn
            simp [flowNeeds, Region.binds] at hn
            simp only [flowAct, List.zipWith_cons_cons, List.zipWith_nil_left]
            try simp only [hn]
            go_wp2_with (fail)
            exact ⟨rfl, _, rfl, Below.refl _ _, rfl, fun h => h.elim⟩
          · intro xs W hW hn
            have g1 := (HATG.out W hW).2
            simp [flowNeeds, Region.binds] at hn
            simp only [flowAct, List.zipWith_cons_cons, List.zipWith_nil_left]
            try simp only [hn]
            go_wp2_with (fail)
            exact ⟨rfl, _, rfl, Below.refl _ _, rfl, fun h => h.elim⟩
          · intro xs W hW hn
            simp only [flowAct, List.zipWith_cons_cons, List.zipWith_nil_left]
            go_wp2_with (fail)
            exact ⟨rfl, _, rfl, Below.refl _ _, rfl, fun h => h.elim⟩
          · intro xs W hW hn
            obtain ⟨-, f1, -⟩ := HRW.out W hW
            simp [flowNeeds, Region.binds] at hn
            simp only [flowAct, List.zipWith_cons_cons, List.zipWith_nil_left]
            try simp only [hn]
            go_wp2_with (fail)
            exact ⟨rfl, _, rfl, Below.refl _ _, rfl, fun h => h.elim⟩
          · intro xs W hW hn
            simp only [flowAct, List.zipWith_cons_cons, List.zipWith_nil_left]
            go_wp2_with (fail)
            exact ⟨rfl, _, rfl, Below.refl _ _, rfl, fun h => h.elim⟩
          · intro xs W hW hn
            simp [flowNeeds, Region.binds] at hn
            simp only [flowAct, List.zipWith_cons_cons, List.zipWith_nil_left]
            try simp only [hn]
            go_wp2_with (fail)
            exact ⟨rfl, _, rfl, Below.refl _ _, rfl, fun h => h.elim⟩
          · intro xs W hW hn
            obtain ⟨p0, p1, p2, p3, p4, p5, p6, p7⟩ := HAT.out W hW
            simp only at p0 p1 p2 p3 p4 p5 p6 p7
            simp [flowNeeds, Region.binds] at hn
            simp only [flowAct, List.zipWith_cons_cons, List.zipWith_nil_left]
            try simp only [hn]
            go_wp2_with (fail)
            exact ⟨rfl, _, rfl, Below.refl _ _, rfl, fun h => h.elim⟩
          · intro xs W hW hn
            simp [flowNeeds, Region.binds] at hn
            simp only [flowAct, List.zipWith_cons_cons, List.zipWith_nil_left]
            simp only [hn]
            go_wp2_with (go_at_call 58; (with_reducible refine (HC.out _ hW).mono ?_); rintro e9 w9 ⟨v9, rfl, ho9, hb9⟩)
            exact ⟨rfl, _, rfl, hb9, ho9.mono (Nat.le_trans HBs.out hW.size), fun h => h.elim⟩
        · intro xs W hW hall hfr
          clear hfr
          simp only [flowAll, and_true, Nat.zero_add, Nat.reduceAdd] at hall
          obtain ⟨-, -, -, -, -, -, -, -, -, -, -, e11⟩ := hall
          simp only [flowAct, List.zipWith_cons_cons, List.zipWith_nil_left, List.drop_succ_cons, List.drop_zero]
          go_wp2
          go_roundw
          case rel => exact ⟨k + 1, by omega, by go_num, by rw [HST.out]; exact e11, HB.out.trans (hW.mono HB.out.size), heap_below HR.out hW⟩
          case measure => simp [intOf]; omega
      · obtain rfl : k = m := by omega
        have HO := Lib.hid ho
        have HB := Lib.hid hB
        obtain ⟨a', c', rfl, -⟩ := ho.bys
        clear ho hB hr
        go_wp2
        go_ret
        exact ⟨_, rfl, by rw [HRR.out]; exact HO.out, HB.out⟩
  · have h0n : (R != 0) = true := by simpa using h0
    have HRR := Lib.hid (HQ.out h0)
    clear HP HQ HIV HSM h0
    go_upto_region 2 with (go_at_call 15; (with_reducible refine (HGD.out _ HB1.out).mono ?_); rintro e9 w2 ⟨rfl, hb2⟩)
    have HB2 := Lib.hid (HB1.out.trans (hb2.mono HB1.out.size))
    have hla := (HY.out.below HB2.out).below (alloc_below w2 (.cells #[] 5))
    have hoe := OwnB.empty w2 w2.heap.size 5 (Nat.le_refl _)
    clear hb2 HB1 HGD r0 r1
    go_wp2_with (at_builtin; refine wpList_append_bys rfl (.tmp 13) (.tmp 14) 59 rfl Tryd.underlying59 hi hz0 hz1 hz2 rfl rfl hoe rfl hla (by simp; omega) (by simp) ?_; intro v1 w3 ho1 hg1)
    have b1 : Below w2.heap.size w2 w3 := ((Below.refl w2.heap.size w2).alloc (Nat.le_refl _) (.cells #[] 5)).grown hg1 (by simp) (fun k hk => (hoe.lt k hk).1)
    rw [List.nil_append] at ho1
    go_ret
    exact ⟨_, rfl, by rw [HRR.out]; exact ho1.mono HB2.out.size, HB2.out.trans (b1.mono HB2.out.size)⟩
end Go.Proofs.YtkjpmdpljdgcjaaDoor
end

section
/-
  Row: the walk of RowBytes.
-/
namespace Go.Proofs.YtkjpmdpljdgcjaaDoor
open Go.RowKit Go Go.Sort
set_option linter.unusedVariables false
set_option maxRecDepth 20000

theorem light_key {g : Nat} {k : List UInt8} {cs : List Cl} (h : lightN g [(k, cs)] 1 ≤ 5000) : k.length ≤ 5000 := by
  by_cases hk : 5000 < satN (satN (satN 0 g) k.length) cs.length
  · have := cellsN_full (cs := cs) (n := satN (satN (satN 0 g) k.length) cs.length) (k := 0) hk (satN_le _ _) cs.length (Nat.zero_le _)
    have e : lightN g [(k, cs)] 1 = cellsN cs (satN (satN (satN 0 g) k.length) cs.length) cs.length := rfl
    omega
  · have h1 := satN_fits (n := satN (satN 0 g) k.length) (k := cs.length) (by omega)
    have h2 := satN_fits (n := satN 0 g) (k := k.length) (by omega)
    omega

set_option maxRecDepth 100000 in
set_option maxHeartbeats 12800000 in
theorem rbytes_walk {w : World} {x x2 ad : Option Addr} {n1 cap m cap2 m9 cap9 : Nat} {gs : List Grp} {cs : List Cl} {l : List UInt8} (hg : Grs w x n1 cap gs) (hs : ∀ g ∈ gs, g.1.length ≤ 9223372036854775807)
    (hl : Cls w x2 m cap2 cs) (hx : ∀ c ∈ cs, c.t.length ≤ 9223372036854775807) (key : List UInt8) (hk : key.length ≤ 9223372036854775807) (hy : Bys w ad m9 cap9 l) (hT : TabW w) :
    Calls Tryd.prog 5 #[.slice x n1 cap, .agg #[.string (text key), .slice x2 m cap2], .slice ad m9 cap9] w (Tells (.bool true) w) := by
  obtain ⟨i0, hi, hz0, hz1, hz2⟩ := info_parts Tryd.info5
  have hll := hl.len
  have hyl := hy.len
  have hyle := hy.le
  have hymx := hy.max
  have hgl := hg.len
  have HLv := Lib.hid (fun W (h : Below w.heap.size w W) => rlives_c (hT.below h))
  have hLT := fun W (h : Below w.heap.size w W) (q : Nat) (hr : RowsAt W q [(key, cs)]) => light_c (hg.below h) hr (rfl : _ = 1) (by omega) (fun r hr => by rw [List.mem_singleton.1 hr]; exact hk) (fun r hr => by rw [List.mem_singleton.1 hr]; exact hx)
  have hLK := @light_key gs.length key cs
  have hG := fun W (h : Below w.heap.size w W) => rowgood_c (hg.below h) hs (hl.below h) hx key hk
  have hGT := fun W (h : Below w.heap.size w W) => (rowget_c (hy.below h) (hg.below h) hs).mono fun _ _ h => h.cells
  have hRG := fun W (h : Below w.heap.size w W) => (rrowget_c (hy.below h) (hg.below h) hs).mono fun _ _ h => h.cells
  have hGG := fun (l2 : List UInt8) (W : World) (h : Below w.heap.size w W) (a : Option Addr) (n c : Nat) (hh : Bys W a n c l2) => (rowget_c hh (hg.below h) hs).mono fun _ _ h => h.cells
  have hLN : rgoodS gs key cs = 0 → ∀ k, k ≤ m → (rlayN gs key cs k).length ≤ 6000 ∧ (cs.getD k Cl.zero).t.length ≤ 6000 := fun h0 k hk => by
    have h1 := rlay_small h0 k
    have h3 := (rgood_inv h0).2.2.1
    exact ⟨Nat.le_trans (h1.1 (by omega)) (by decide), Nat.le_trans h1.2 (by decide)⟩
  have hP0 := fun (h5 : key.length ≤ 5000) W (h : Below w.heap.size w W) => rowput_c (l := []) (w := W) (ad := none) (m9 := 0) (cap9 := 0) ⟨rfl, Nat.le_refl _, by omega, .inl rfl⟩ (by omega) (hg.below h) hs (hl.below h) hx key (by omega) hLN (hT.below h)
  have hPB := fun (h5 : key.length ≤ 5000) (h9 : m9 ≤ 5000) W (h : Below w.heap.size w W) => rowput_c (hy.below h) (by omega) (hg.below h) hs (hl.below h) hx key (by omega) hLN (hT.below h)
  have hPR := fun (h5 : key.length ≤ 5000) (h9 : m9 ≤ 5000) W (h : Below w.heap.size w W) => rrowput_c (hy.below h) (by omega) (hg.below h) hs (hl.below h) hx key (by omega)
  have hGB : rgoodS gs key cs = 0 → rgetS gs (rowputS [] gs key cs ++ l) = (key, cs, ((rowputS [] gs key cs).length : Int), 0) := fun h0 => by
    have e : rowputS [] gs key cs = rlayN gs key cs gs.length := by unfold rowputS; rw [if_pos h0, List.nil_append]
    rw [e]
    exact rowrget_back h0 l
  have hPE : ¬ rgoodS gs key cs = 0 → (rowputS [] gs key cs).length = 0 := fun h0 => by unfold rowputS; rw [if_neg h0]; rfl
  have hPL : rgoodS gs key cs = 0 → (rowputS [] gs key cs).length ≤ 520 := fun h0 => by
    unfold rowputS
    rw [if_pos h0, List.nil_append]
    exact (rlay_small h0 gs.length).1 (Nat.le_refl _)
  obtain ⟨L, hL⟩ : ∃ q, decide (lightN gs.length [(key, cs)] 1 ≤ 5000) = q := ⟨_, rfl⟩
  simp only [hL] at hLT
  have hLK2 : L = true → key.length ≤ 5000 := fun h => hLK (of_decide_eq_true (hL.trans h))
  obtain ⟨R, hR⟩ : ∃ q, rgoodS gs key cs = q := ⟨_, rfl⟩
  simp only [hR] at hG hGB hPE hPL
  obtain ⟨PL, hPLe⟩ : ∃ q, rowputS [] gs key cs = q := ⟨_, rfl⟩
  simp only [hPLe] at hP0 hGB hPE hPL
  obtain ⟨LP, hLP⟩ : ∃ q, rowputS l gs key cs = q := ⟨_, rfl⟩
  simp only [hLP] at hPB hPR
  obtain ⟨⟨gk, gcs, gn, gf⟩, hgv⟩ : ∃ q, rgetS gs l = q := ⟨_, rfl⟩
  simp only [hgv] at hGT hRG
  obtain ⟨gl, hgle⟩ : ∃ q, gcs.length = q := ⟨_, rfl⟩
  obtain ⟨tg, htg⟩ : ∃ q, text gk = q := ⟨_, rfl⟩
  simp only [hgle, htg] at hGT hRG
  obtain ⟨tk, htk⟩ : ∃ q, text key = q := ⟨_, rfl⟩
  have hG3 := fun (h0 : R = 0) (W : World) (h : Below w.heap.size w W) (a : Option Addr) (n c : Nat) (hh : Bys W a n c (PL ++ l)) => hGG (PL ++ l) W h a n c hh
  have hG3 := fun (h0 : R = 0) => by
    have h1 := hG3 h0
    rw [hGB h0] at h1
    simp only [htk, hll] at h1
    exact h1
  simp only [htk] at hG hP0 hPB hPR
  rw [htk]
  have hcv := fun (W : World) (a3 : Option Addr) (c3 : Nat) (n3 : Nat) (h3 : Bys W a3 n3 c3 LP) => conv_bys (P := Tryd.prog) h3 Tryd.underlying59 Tryd.underlying5 Tryd.underlying9
  have htb : ((text LP).toList == (text LP).toList) = true := by simp
  obtain ⟨T, hTX⟩ : ∃ q, text LP = q := ⟨_, rfl⟩
  rw [hTX] at hcv htb
  have HCV := Lib.hid hcv
  have HTK := Lib.hid htk
  have HL := Lib.hid hl
  have HY := Lib.hid hy
  have HLT := Lib.hid hLT
  have HLK := Lib.hid hLK2
  have HG := Lib.hid hG
  have HGT := Lib.hid hGT
  have HRG := Lib.hid hRG
  have HP0 := Lib.hid hP0
  have HPB := Lib.hid hPB
  have HPR := Lib.hid hPR
  have HG3 := Lib.hid hG3
  have HPE := Lib.hid hPE
  have HPL := Lib.hid hPL
  have hB := alloc_below w (.cells #[.string tk, .slice x2 m cap2] 25)
  have hr := heap_alloc_new w (.cells #[.string tk, .slice x2 m cap2] 25)
  clear hLT hLK hLK2 hG hGT hRG hGG hP0 hPB hPR hG3 hPE hPL hGB hLN hcv hTX hL hR hPLe hLP hgv hgle htg htk hg hs hl hx hk hy hT
  go_enter Tryd.func5, Tryd.ntmps5
  go_upto_region 1 with (fail)
  obtain ⟨B, hBe⟩ : ∃ q, w.heap.size = q := ⟨_, rfl⟩
  have HBe := Lib.hid hBe
  rw [hBe] at hr ⊢
  clear hBe
  generalize w.alloc (.cells #[.string tk, .slice x2 m cap2] 25) = W1 at *
  have bR1 := Lib.hid (show RowBox W1 B tk x2 m cap2 cs from ⟨hr, HL.out.below hB⟩)
  obtain ⟨r0, r1, -⟩ := bR1.out.cs
  have HB1 := Lib.hid hB
  clear hB hr
  have hal := alloc_below W1 (.cells #[.string tk, .slice x2 m cap2] 25)
  have HB2 := Lib.hid (HB1.out.trans (hal.mono HB1.out.size))
  have HLC := Lib.hid (HLT.out _ HB2.out _ (rowsAt_one (heap_alloc_new W1 (.cells #[.string tk, .slice x2 m cap2] 25)) HTK.out (HL.out.below HB2.out)))
  have bR2 := Lib.hid (bR1.out.kept hal)
  clear hal HLT
  cases L with
  | false =>
    go_wp2_with (first
      | (go_at_call 8; (with_reducible refine HLC.out.mono ?_); rintro e9 w9 ⟨rfl, hb9⟩; have bR3 := Lib.hid (bR2.out.kept hb9); have HB3 := Lib.hid (HB2.out.trans (hb9.mono HB2.out.size)); clear hb9)
      | (go_at_call 9; (with_reducible refine (HLv.out _ HB3.out).mono ?_); rintro e9 w8 ⟨rfl, hb9⟩; have HB4 := Lib.hid (HB3.out.trans (hb9.mono HB3.out.size)); clear hb9))
    go_ret
    exact ⟨rfl, HB4.out⟩
  | true =>
    have hk5 := HLK.out (by first | rfl | trivial)
    by_cases h9 : 5000 < m9
    · have h9i : (5000 : Int) < (m9 : Int) := by omega
      clear hk5
      go_wp2_with (first
        | (go_at_call 8; (with_reducible refine HLC.out.mono ?_); rintro e9 w9 ⟨rfl, hb9⟩; have bR3 := Lib.hid (bR2.out.kept hb9); have HB3 := Lib.hid (HB2.out.trans (hb9.mono HB2.out.size)); clear hb9)
        | (go_at_call 9; (with_reducible refine (HLv.out _ HB3.out).mono ?_); rintro e9 w8 ⟨rfl, hb9⟩; have HB4 := Lib.hid (HB3.out.trans (hb9.mono HB3.out.size)); clear hb9))
      go_ret
      exact ⟨rfl, HB4.out⟩
    · have h9i : ¬ (5000 : Int) < (m9 : Int) := by omega
      have hm9 : m9 ≤ 5000 := by omega
      have HP0 := Lib.hid (HP0.out hk5)
      have HPB := Lib.hid (HPB.out hk5 hm9)
      have HPR := Lib.hid (HPR.out hk5 hm9)
      have HM9 := Lib.hid hm9
      clear hk5 hm9 h9 HLK
      go_upto_region 3 with (go_at_call 8; (with_reducible refine HLC.out.mono ?_); rintro e9 w9 ⟨rfl, hb9⟩; have bR3 := Lib.hid (bR2.out.kept hb9); have HB3 := Lib.hid (HB2.out.trans (hb9.mono HB2.out.size)); clear hb9)
      clear r0 r1 bR1 bR2 HB1 HB2 HLC
      go_upto_region 4 with (go_at_call 27; (with_reducible refine (HGT.out _ HB3.out).mono ?_); rintro e9 w9 ⟨a4, c4, rfl, hX, hb9⟩; have HBm := Lib.hid (HB3.out.trans (hb9.mono HB3.out.size)); have hXm := Lib.hid hX; have bRm := Lib.hid (bR3.out.kept hb9); clear hb9 hX)
      have hal := alloc_below w9 (.cells #[.string tg, .slice a4 gl c4] 25)
      have bR4 := Lib.hid (bRm.out.kept hal)
      have HB4 := Lib.hid (HBm.out.trans (hal.mono HBm.out.size))
      have hnew : RowBox (w9.alloc (.cells #[.string tg, .slice a4 gl c4] 25)) w9.heap.size tg a4 gl c4 gcs := ⟨heap_alloc_new w9 (.cells #[.string tg, .slice a4 gl c4] 25), hXm.out.below hal⟩
      obtain ⟨q4, hq⟩ : ∃ q, w9.heap.size = q := ⟨_, rfl⟩
      rw [hq] at hnew ⊢
      have bX4 := Lib.hid hnew
      generalize w9.alloc (.cells #[.string tg, .slice a4 gl c4] 25) = V4 at *
      clear hal hq hnew hXm HBm HB3 bR3 bRm
      go_upto_region 5 with (go_at_call 28; (with_reducible refine (HRG.out _ HB4.out).mono ?_); rintro e9 w9 ⟨a5, c5, rfl, hX, hb9⟩; have HBm := Lib.hid (HB4.out.trans (hb9.mono HB4.out.size)); have hXm := Lib.hid hX; have bRm := Lib.hid (bR4.out.kept hb9); have bXm := Lib.hid (bX4.out.kept hb9); clear hb9 hX)
      have hal := alloc_below w9 (.cells #[.string tg, .slice a5 gl c5] 25)
      have bR5 := Lib.hid (bRm.out.kept hal)
      have bX5 := Lib.hid (bXm.out.kept hal)
      have HB5 := Lib.hid (HBm.out.trans (hal.mono HBm.out.size))
      have hnew : RowBox (w9.alloc (.cells #[.string tg, .slice a5 gl c5] 25)) w9.heap.size tg a5 gl c5 gcs := ⟨heap_alloc_new w9 (.cells #[.string tg, .slice a5 gl c5] 25), hXm.out.below hal⟩
      obtain ⟨q5, hq⟩ : ∃ q, w9.heap.size = q := ⟨_, rfl⟩
      rw [hq] at hnew ⊢
      have bY5 := Lib.hid hnew
      generalize w9.alloc (.cells #[.string tg, .slice a5 gl c5] 25) = V5 at *
      clear hal hq hnew hXm HBm HB4 bR4 bRm bX4 bXm
      clear HGT HRG
      obtain ⟨r0, r1, -⟩ := bR5.out.cs
      go_upto_region 6 with (go_at_call 29; (with_reducible refine (HP0.out _ HB5.out).mono ?_); rintro e9 w6 ⟨v6, rfl, ho6, hb9⟩; have HB6 := Lib.hid (HB5.out.trans (hb9.mono HB5.out.size)); have bR6 := Lib.hid (bR5.out.kept hb9); have bX6 := Lib.hid (bX5.out.kept hb9); have bY6 := Lib.hid (bY5.out.kept hb9); have HO6 := Lib.hid (ho6.mono HB5.out.size); obtain ⟨ap, cp, rfl, -⟩ := ho6.bys; clear hb9 ho6)
      clear HP0 HB5 bR5 bX5 bY5 r0 r1
      have HSM := Lib.hid (fun W (h : Below w6.heap.size w6 W) => rrowsame_c (bX6.out.cls.below h) (bY6.out.cls.below h) tg)
      have HCX := Lib.hid (fun W (h : Below w6.heap.size w6 W) => And.intro (bX6.out.kept h).cs (And.intro (bY6.out.kept h).cs (bR6.out.kept h).cs))
      refine wp_region_flow [none, none, none, none, none, none, none, none, none, none, none, none, none, none, none, none, none, none, none, none, none, none, none, none, none, none, none, none, none, none, none, none, none, none, none, none, none, none, none, none, none, none, none, none, none, some 0, some 1, some 2, some 3, some 4, some 5, some 6, some 7, some 8, some 9, some 10, some 11, some 12, some 13, some 14, some 15, some 16, some 17, some 18, some 19, some 20, some 21, some 22, some 23, some 24, some 25, some 26, none, none, none, none, none, none, none, none, none, none, none, none, none, none, none, none, none, none, none, none, none, none, none, none, none, none, none, none, none, none, none, none, none, none, none, none, none] (fun i => [undef, undef, undef, undef, undef, undef, undef, undef, undef, undef, undef, undef, undef, undef, undef, undef, undef, undef, undef, undef, undef, undef, undef, undef, undef, undef, undef].getD i undef) [(fun v _ => v = .agg #[.string tg, .slice a4 gl c4]), (fun v _ => v = .agg #[.string tg, .slice a5 gl c5]), (fun v _ => v = .bool true), (fun v _ => v = .bool false), (fun v _ => v = .bool false), (fun v _ => v = .int .i64 gn), (fun v _ => v = .int .i64 gn), (fun v _ => v = .bool false), (fun v _ => v = .bool false), (fun v _ => v = .bool false), (fun v _ => v = .int .i64 gf), (fun v _ => v = .int .i64 gf), (fun v _ => v = .bool false), (fun v _ => v = .bool false), (fun v _ => v = .bool false), (fun v _ => v = .slice ad m9 cap9), (fun v _ => v = .slice x n1 cap), (fun v _ => v = .agg #[.string tk, .slice x2 m cap2]), (fun v W => OwnB W 0 5 v LP), (fun v _ => v = .string T), (fun v _ => v = .slice ad m9 cap9), (fun v _ => v = .slice x n1 cap), (fun v _ => v = .agg #[.string tk, .slice x2 m cap2]), (fun v W => OwnB W 0 5 v LP), (fun v _ => v = .string T), (fun v _ => v = .bool false), (fun v _ => v = .bool false)] (by kernel_rfl) (by kernel_rfl) rfl rfl rfl ?_ ?_ ?_
      · intro g hg v X Y hX hY hv
        simp only [List.mem_cons, List.not_mem_nil, or_false] at hg
        rcases hg with rfl | rfl | rfl | rfl | rfl | rfl | rfl | rfl | rfl | rfl | rfl | rfl | rfl | rfl | rfl | rfl | rfl | rfl | rfl | rfl | rfl | rfl | rfl | rfl | rfl | rfl | rfl
        all_goals first
          | exact hv
          | exact hv.kept hY
      · simp only [flowOps, and_true]
        refine ⟨?_, ?_, ?_, ?_, ?_, ?_, ?_, ?_, ?_, ?_, ?_, ?_, ?_, ?_, ?_, ?_, ?_, ?_, ?_, ?_, ?_, ?_, ?_, ?_, ?_, ?_, ?_⟩
        · intro xs W hW hn
          obtain ⟨⟨f0, f1, -⟩, ⟨g0, g1, -⟩, k0, k1, -⟩ := HCX.out W hW
          simp only [flowAct, List.zipWith_cons_cons, List.zipWith_nil_left]
          go_wp2_with (fail)
          exact ⟨rfl, _, rfl, Below.refl _ _, rfl⟩
        · intro xs W hW hn
          obtain ⟨⟨f0, f1, -⟩, ⟨g0, g1, -⟩, k0, k1, -⟩ := HCX.out W hW
          simp only [flowAct, List.zipWith_cons_cons, List.zipWith_nil_left]
          go_wp2_with (fail)
          exact ⟨rfl, _, rfl, Below.refl _ _, rfl⟩
        · intro xs W hW hn
          simp [flowNeeds, Region.binds] at hn
          simp only [flowAct, List.zipWith_cons_cons, List.zipWith_nil_left]
          simp only [hn]
          go_wp2_with (go_at_call 16; (with_reducible refine (HSM.out _ hW).mono ?_); rintro e9 w9 ⟨rfl, hb9⟩)
          exact ⟨rfl, _, rfl, hb9, rfl⟩
        · intro xs W hW hn
          simp [flowNeeds, Region.binds] at hn
          simp only [flowAct, List.zipWith_cons_cons, List.zipWith_nil_left]
          try simp only [hn]
          go_wp2_with (fail)
          exact ⟨rfl, _, rfl, Below.refl _ _, rfl⟩
        · intro xs W hW hn
          simp [flowNeeds, Region.binds] at hn
          simp only [flowAct, List.zipWith_cons_cons, List.zipWith_nil_left]
          try simp only [hn]
          go_wp2_with (fail)
          exact ⟨rfl, _, rfl, Below.refl _ _, rfl⟩
        · intro xs W hW hn
          simp [flowNeeds, Region.binds] at hn
          simp only [flowAct, List.zipWith_cons_cons, List.zipWith_nil_left]
          try simp only [hn]
          go_wp2_with (fail)
          exact ⟨rfl, _, rfl, Below.refl _ _, rfl⟩
        · intro xs W hW hn
          simp [flowNeeds, Region.binds] at hn
          simp only [flowAct, List.zipWith_cons_cons, List.zipWith_nil_left]
          try simp only [hn]
          go_wp2_with (fail)
          exact ⟨rfl, _, rfl, Below.refl _ _, rfl⟩
        · intro xs W hW hn
          simp [flowNeeds, Region.binds] at hn
          simp only [flowAct, List.zipWith_cons_cons, List.zipWith_nil_left]
          try simp only [hn]
          go_wp2_with (fail)
          exact ⟨rfl, _, rfl, Below.refl _ _, rfl⟩
        · intro xs W hW hn
          simp [flowNeeds, Region.binds] at hn
          simp only [flowAct, List.zipWith_cons_cons, List.zipWith_nil_left]
          try simp only [hn]
          go_wp2_with (fail)
          exact ⟨rfl, _, rfl, Below.refl _ _, rfl⟩
        · intro xs W hW hn
          simp [flowNeeds, Region.binds] at hn
          simp only [flowAct, List.zipWith_cons_cons, List.zipWith_nil_left]
          try simp only [hn]
          go_wp2_with (fail)
          exact ⟨rfl, _, rfl, Below.refl _ _, rfl⟩
        · intro xs W hW hn
          simp [flowNeeds, Region.binds] at hn
          simp only [flowAct, List.zipWith_cons_cons, List.zipWith_nil_left]
          try simp only [hn]
          go_wp2_with (fail)
          exact ⟨rfl, _, rfl, Below.refl _ _, rfl⟩
        · intro xs W hW hn
          simp [flowNeeds, Region.binds] at hn
          simp only [flowAct, List.zipWith_cons_cons, List.zipWith_nil_left]
          try simp only [hn]
          go_wp2_with (fail)
          exact ⟨rfl, _, rfl, Below.refl _ _, rfl⟩
        · intro xs W hW hn
          simp [flowNeeds, Region.binds] at hn
          simp only [flowAct, List.zipWith_cons_cons, List.zipWith_nil_left]
          try simp only [hn]
          go_wp2_with (fail)
          exact ⟨rfl, _, rfl, Below.refl _ _, rfl⟩
        · intro xs W hW hn
          simp [flowNeeds, Region.binds] at hn
          simp only [flowAct, List.zipWith_cons_cons, List.zipWith_nil_left]
          try simp only [hn]
          go_wp2_with (fail)
          exact ⟨rfl, _, rfl, Below.refl _ _, rfl⟩
        · intro xs W hW hn
          simp [flowNeeds, Region.binds] at hn
          simp only [flowAct, List.zipWith_cons_cons, List.zipWith_nil_left]
          try simp only [hn]
          go_wp2_with (fail)
          exact ⟨rfl, _, rfl, Below.refl _ _, rfl⟩
        · intro xs W hW hn
          simp [flowNeeds, Region.binds] at hn
          simp only [flowAct, List.zipWith_cons_cons, List.zipWith_nil_left]
          try simp only [hn]
          go_wp2_with (fail)
          exact ⟨rfl, _, rfl, Below.refl _ _, rfl⟩
        · intro xs W hW hn
          simp [flowNeeds, Region.binds] at hn
          simp only [flowAct, List.zipWith_cons_cons, List.zipWith_nil_left]
          try simp only [hn]
          go_wp2_with (fail)
          exact ⟨rfl, _, rfl, Below.refl _ _, rfl⟩
        · intro xs W hW hn
          obtain ⟨⟨f0, f1, -⟩, ⟨g0, g1, -⟩, k0, k1, -⟩ := HCX.out W hW
          simp [flowNeeds, Region.binds] at hn
          simp only [flowAct, List.zipWith_cons_cons, List.zipWith_nil_left]
          try simp only [hn]
          go_wp2_with (fail)
          exact ⟨rfl, _, rfl, Below.refl _ _, rfl⟩
        · intro xs W hW hn
          simp [flowNeeds, Region.binds] at hn
          simp only [flowAct, List.zipWith_cons_cons, List.zipWith_nil_left]
          simp only [hn]
          go_wp2_with (go_at_call 29; (with_reducible refine (HPB.out _ (HB6.out.trans (hW.mono HB6.out.size))).mono ?_); rintro e9 w9 ⟨v9, rfl, ho9, hb9⟩)
          exact ⟨rfl, _, rfl, hb9, ho9.mono (Nat.zero_le _)⟩
        · intro xs W hW hn
          simp [flowNeeds, Region.binds] at hn
          simp only [flowAct, List.zipWith_cons_cons, List.zipWith_nil_left]
          obtain ⟨hn1, hn2⟩ := hn
          obtain ⟨a3, c3, e3, hy3⟩ := OwnB.bys hn1
          have hcv := HCV.out _ _ _ _ hy3
          simp only [e3, hn2]
          go_wp2_with (fail)
          exact ⟨rfl, _, rfl, Below.refl _ _, rfl⟩
        · intro xs W hW hn
          simp [flowNeeds, Region.binds] at hn
          simp only [flowAct, List.zipWith_cons_cons, List.zipWith_nil_left]
          try simp only [hn]
          go_wp2_with (fail)
          exact ⟨rfl, _, rfl, Below.refl _ _, rfl⟩
        · intro xs W hW hn
          simp [flowNeeds, Region.binds] at hn
          simp only [flowAct, List.zipWith_cons_cons, List.zipWith_nil_left]
          try simp only [hn]
          go_wp2_with (fail)
          exact ⟨rfl, _, rfl, Below.refl _ _, rfl⟩
        · intro xs W hW hn
          obtain ⟨⟨f0, f1, -⟩, ⟨g0, g1, -⟩, k0, k1, -⟩ := HCX.out W hW
          simp [flowNeeds, Region.binds] at hn
          simp only [flowAct, List.zipWith_cons_cons, List.zipWith_nil_left]
          try simp only [hn]
          go_wp2_with (fail)
          exact ⟨rfl, _, rfl, Below.refl _ _, rfl⟩
        · intro xs W hW hn
          simp [flowNeeds, Region.binds] at hn
          simp only [flowAct, List.zipWith_cons_cons, List.zipWith_nil_left]
          simp only [hn]
          go_wp2_with (go_at_call 30; (with_reducible refine (HPR.out _ (HB6.out.trans (hW.mono HB6.out.size))).mono ?_); rintro e9 w9 ⟨v9, rfl, ho9, hb9⟩)
          exact ⟨rfl, _, rfl, hb9, ho9.mono (Nat.zero_le _)⟩
        · intro xs W hW hn
          simp [flowNeeds, Region.binds] at hn
          simp only [flowAct, List.zipWith_cons_cons, List.zipWith_nil_left]
          obtain ⟨hn1, hn2⟩ := hn
          obtain ⟨a3, c3, e3, hy3⟩ := OwnB.bys hn1
          have hcv := HCV.out _ _ _ _ hy3
          simp only [e3, hn2]
          go_wp2_with (fail)
          exact ⟨rfl, _, rfl, Below.refl _ _, rfl⟩
        · intro xs W hW hn
          simp [flowNeeds, Region.binds] at hn
          simp only [flowAct, List.zipWith_cons_cons, List.zipWith_nil_left]
          try simp only [hn]
          go_wp2_with (fail)
          exact ⟨rfl, _, rfl, Below.refl _ _, rfl⟩
        · intro xs W hW hn
          simp [flowNeeds, Region.binds] at hn
          simp only [flowAct, List.zipWith_cons_cons, List.zipWith_nil_left]
          try simp only [hn]
          go_wp2_with (fail)
          exact ⟨rfl, _, rfl, Below.refl _ _, rfl⟩
      · intro xs W hW hall
        simp only [flowAll, and_true, Nat.zero_add, Nat.reduceAdd] at hall
        obtain ⟨-, -, -, -, -, -, -, -, -, -, -, -, -, -, -, -, -, -, -, -, -, -, -, -, -, -, e26⟩ := hall
        simp only [flowAct, List.zipWith_cons_cons, List.zipWith_nil_left]
        simp only [e26]
        have HB7 := Lib.hid (HB6.out.trans (hW.mono HB6.out.size))
        have bR7 := Lib.hid (bR6.out.kept hW)
        have HO7 := Lib.hid (HO6.out.kept hW)
        clear e26 hW HB6 bR6 bX6 bY6 HO6 HSM HCX HPB HPR HCV htb
        rename_i W7i
        obtain ⟨W7, hW7⟩ : ∃ X, W = X := ⟨_, rfl⟩
        rw [hW7] at HB7 bR7 HO7 ⊢
        clear hW7
        obtain ⟨r0, r1, -⟩ := bR7.out.cs
        by_cases h0 : R = 0
        · subst h0
          have HG4 := Lib.hid (HG3.out (by first | rfl | trivial))
          have hpl := HPL.out (by first | rfl | trivial)
          go_upto_region 10 with (go_at_call 14; (with_reducible refine (HG.out _ HB7.out).mono ?_); rintro e9 w8 ⟨rfl, hb9⟩; have HB8 := Lib.hid (HB7.out.trans (hb9.mono HB7.out.size)); have bR8 := Lib.hid (bR7.out.kept hb9); have HO8 := Lib.hid (HO7.out.kept hb9); clear hb9)
          clear HB7 bR7 HO7 HG HPE HPL r0 r1
          have hal := alloc_below w8 (.cells #[] 5)
          obtain ⟨a6, c6, e6, hy6⟩ := HO8.out.bys
          have ee := HO8.out.bys
          cases e6
          have hoe := OwnB.empty w8 w8.heap.size 5 (Nat.le_refl _)
          have hyp := hy6.below hal
          have hm9 := HM9.out
          go_wp2_with (first
            | (at_builtin; refine wpList_append_bys rfl (.tmp 83) (.tmp 84) 59 rfl Tryd.underlying59 hi hz0 hz1 hz2 rfl rfl hoe rfl hyp (by simp; omega) hal.size ?_; intro v1 w9 ho9 hg9; rw [List.nil_append] at ho9; have hb9 := Lib.hid (((Below.refl w8.heap.size w8).alloc (Nat.le_refl _) (.cells #[] 5)).grown hg9 (by simp) (fun k hk => (hoe.lt k hk).1)); have hyq := (HY.out.below HB8.out).below hb9.out)
            | (at_builtin; refine wpList_append_bys rfl (.tmp 85) (.tmp 86) 59 rfl Tryd.underlying59 hi hz0 hz1 hz2 rfl rfl ho9 rfl hyq (by omega) hb9.out.size ?_; intro v2 w10 ho10 hg10; have hb10 := Lib.hid (hb9.out.grown hg10 hb9.out.size (fun k hk => (ho9.lt k hk).1)); obtain ⟨a7, c7, ev, hy7⟩ := ho10.bys; rw [List.length_append, hyl] at ev hy7; subst ev; have HBa := Lib.hid (HB8.out.trans (hb10.out.mono HB8.out.size)); have bRa := Lib.hid (bR8.out.kept hb10.out))
            | (go_at_call 27; (with_reducible refine (HG4.out _ HBa.out _ _ _ hy7).mono ?_); rintro e9 w11 ⟨a8, c8, rfl, hX, hb11⟩; have HBb := Lib.hid (HBa.out.trans (hb11.mono HBa.out.size)); have bRb := Lib.hid (bRa.out.kept hb11); have HXb := Lib.hid hX; clear hb11 hX; have HBc := Lib.hid (HBb.out.alloc HBb.out.size (.cells #[.string tk, .slice a8 m c8] 25)); have bRc := Lib.hid (bRb.out.kept (alloc_below w11 (.cells #[.string tk, .slice a8 m c8] 25))); have bZc := Lib.hid (show RowBox (w11.alloc (.cells #[.string tk, .slice a8 m c8] 25)) w11.heap.size tk a8 m c8 cs from ⟨heap_alloc_new w11 _, HXb.out.below (alloc_below w11 _)⟩); obtain ⟨z0, z1, -⟩ := bZc.out.cs; obtain ⟨r0, r1, -⟩ := bRc.out.cs)
            | (go_at_call 16; (with_reducible refine (rrowsame_c bZc.out.cls bRc.out.cls tk).mono ?_); rintro e9 w12 ⟨rfl, hb12⟩; have HBd := Lib.hid (HBc.out.trans (hb12.mono HBc.out.size)); clear hb12)
            | (go_at_call 9; (with_reducible refine (HLv.out _ HBd.out).mono ?_); rintro e9 we ⟨rfl, hbe⟩; have HBz := Lib.hid (HBd.out.trans (hbe.mono HBd.out.size)); clear hbe))
          go_ret
          exact ⟨rfl, HBz.out⟩
        · have h0n : (R != 0) = true := by simpa using h0
          have hpe := HPE.out h0
          have hpi : ((PL.length : Int) == 0) = true := by rw [hpe]; rfl
          clear h0 hpe
          go_wp2_with (first
            | (go_at_call 14; (with_reducible refine (HG.out _ HB7.out).mono ?_); rintro e9 w8 ⟨rfl, hb9⟩; have HB8 := Lib.hid (HB7.out.trans (hb9.mono HB7.out.size)); clear hb9)
            | (go_at_call 9; (with_reducible refine (HLv.out _ HB8.out).mono ?_); rintro e9 we ⟨rfl, hbe⟩; have HBz := Lib.hid (HB8.out.trans (hbe.mono HB8.out.size)); clear hbe))
          go_ret
          exact ⟨rfl, HBz.out⟩

end Go.Proofs.YtkjpmdpljdgcjaaDoor
end

