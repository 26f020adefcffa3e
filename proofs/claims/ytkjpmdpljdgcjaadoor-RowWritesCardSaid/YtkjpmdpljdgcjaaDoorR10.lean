/-
  Merged: DJ YP JO MV MW MX MY MZ N1 N3 B3 B4 B5 B2 B7.
-/
import Derived.Test.YtkjpmdpljdgcjaaDoorDF
import Derived.Test.YtkjpmdpljdgcjaaDoorR0
import Derived.Test.YtkjpmdpljdgcjaaDoorQ0
import Derived.Test.YtkjpmdpljdgcjaaDoorBO
import Derived.WideShapes
import Derived.ChangeSame
import Derived.OpenShut
import Derived.Deep.Slices
import Derived.ChangeArms
import Derived.Test.YtkjpmdpljdgcjaaDoorR11
import Derived.Laws.CopyOwn
import Derived.Deep.AppendSrc
import Derived.Test.YtkjpmdpljdgcjaaDoorR2

section
/-
  A REGION THAT DRAWS ITS ORDER, by an invariant over which operations have been: for regions whose stores and loads may come in any order. No program is named here.
-/
namespace Go.Proofs.YtkjpmdpljdgcjaaDoor
open Go Go.RowKit
set_option linter.unusedVariables false

section
variable {P : Program} {ops : Array Oper} {md : Region.Mode}

/-- How one operation ends: the invariant holds with it. -/
def InvEnd (Inv : (Nat → Bool) → (Nat → Value) → World → Prop) (a : Act) (o : Oper) (i : Nat) (L : Nat → Bool) (xs : Nat → Value) (e : Exit) (a' : Act) (w' : World) : Prop :=
  e = .normal ∧ ∃ v, a' = a.put o.dst v ∧ Inv (fun j => if j = i then true else L j) (fun j => if j = i then v else xs j) w'

theorem wpAny_inv {Q : Exit → Act → World → Prop} (act : (Nat → Value) → Act) (Inv : (Nat → Bool) → (Nat → Value) → World → Prop)
    (hwf : ∀ i o, ops[i]? = some o → ∀ e ∈ o.after, Region.binds md e = true → e.on < i)
    (hput : ∀ i o xs v, ops[i]? = some o → (act xs).put o.dst v = act (fun j => if j = i then v else xs j))
    (hop : ∀ i o, ops[i]? = some o → ∀ L xs w, Inv L xs w → L i = false → (∀ e ∈ o.after, Region.binds md e = true → L e.on = true) → wpList P ops (InvEnd Inv (act xs) o i L xs) [o] (act xs) w)
    (hend : ∀ L xs w, Inv L xs w → (∀ i, i < ops.size → L i = true) → Q .normal (act xs) w) :
    ∀ (f : Nat) (listed : Array Bool) (xs : Nat → Value) (w : World), Inv (fun i => listed.getD i true) xs w → listed.size = ops.size → listed.toList.count false ≤ f → wpAny P md ops Q f listed (act xs) w := by
  have hnone : ∀ (listed : Array Bool), listed.size = ops.size → Region.ready md ops listed = [] → ∀ i, i < ops.size → listed.getD i true = true := by
    intro listed hs hr i
    induction i using Nat.strongRecOn with
    | _ i ih =>
      intro hi
      cases hl : listed.getD i true with
      | true => rfl
      | false =>
        have : i ∈ Region.ready md ops listed := by
          refine mem_ready.2 ⟨hl, ops[i], by simp [hi], fun e he hb => ?_⟩
          have hlt := hwf i ops[i] (by simp [hi]) e he hb
          have h1 := ih e.on hlt (by omega)
          have h2 : e.on < listed.size := by omega
          simp only [Array.getD_eq_getD_getElem?, Array.getElem?_eq_getElem h2, Option.getD_some] at h1 ⊢
          exact h1
        rw [hr] at this
        cases this
  intro f
  induction f with
  | zero =>
    intro listed xs w hI hs hc
    have hall : ∀ i, i < ops.size → listed.getD i true = true := by
      intro i hi
      cases hl : listed.getD i true with
      | true => rfl
      | false =>
        have h2 : i < listed.size := by omega
        have h3 : listed[i] = false := by simpa [Array.getD_eq_getD_getElem?, Array.getElem?_eq_getElem h2] using hl
        have : false ∈ listed.toList := by rw [← h3]; simp
        have := List.count_pos_iff.2 this
        omega
    refine ⟨?_, hend _ xs w hI hall⟩
    cases hr : Region.ready md ops listed with
    | nil => rfl
    | cons i r =>
      have hm : i ∈ Region.ready md ops listed := by rw [hr]; simp
      obtain ⟨hun, o, ho, _⟩ := mem_ready.1 hm
      have := hall i (Array.getElem?_eq_some_iff.1 ho).1
      rw [hun] at this
      cases this
  | succ f ih =>
    intro listed xs w hI hs hc
    refine ⟨fun hr => hend _ xs w hI (hnone listed hs hr), fun i hi => ?_⟩
    obtain ⟨hun, o, ho, hall⟩ := mem_ready.1 hi
    have hilt := (Array.getElem?_eq_some_iff.1 ho).1
    have h2 : i < listed.size := by omega
    refine wpOp_of_one ho (fun a' w' h => ?_) (fun e a' w' h => h.1) (hop i o ho _ xs w hI hun fun e he hb => ?_)
    · obtain ⟨_, v, rfl, hI'⟩ := h
      rw [hput i o xs v ho]
      refine ih _ _ w' ?_ (by simpa using hs) ?_
      · have hfe : (fun j => (listed.setIfInBounds i true).getD j true) = (fun j => if j = i then true else listed.getD j true) := by
          funext j
          by_cases hji : j = i
          · subst hji
            simp [Array.getD_eq_getD_getElem?, h2]
          · rw [getD_set_ne true (Ne.symm hji), if_neg hji]
        rw [hfe]
        exact hI'
      · have h3 : listed[i] = false := by simpa [Array.getD_eq_getD_getElem?, Array.getElem?_eq_getElem h2] using hun
        have := count_set_lt listed.toList i (by simp [h2, h3])
        rw [Array.toList_setIfInBounds]
        omega
    · have h1 := hall e he hb
      have h3 : e.on < listed.size := by have := hwf i o ho e he hb; omega
      simp only [Array.getD_eq_getD_getElem?, Array.getElem?_eq_getElem h3, Option.getD_some] at h1 ⊢
      exact h1

def invNeeds (md : Region.Mode) (L : Nat → Bool) : List Edge → Prop
  | [] => True
  | e :: l => (Region.binds md e = true → L e.on = true) ∧ invNeeds md L l
theorem invNeeds_of {L : Nat → Bool} : ∀ (l : List Edge), (∀ e ∈ l, Region.binds md e = true → L e.on = true) → invNeeds md L l
  | [], _ => trivial
  | e :: l, h => ⟨h e (by simp), invNeeds_of l fun e' he => h e' (by simp [he])⟩
def invOps (P : Program) (md : Region.Mode) (ops : Array Oper) (a : Act) (srcs : List (Option Nat)) (Inv : (Nat → Bool) → (Nat → Value) → World → Prop) : List Oper → Nat → Prop
  | [], _ => True
  | o :: l, k => (∀ L xs w, Inv L xs w → L k = false → invNeeds md L o.after.toList → wpList P ops (InvEnd Inv (flowAct a srcs xs) o k L xs) [o] (flowAct a srcs xs) w) ∧ invOps P md ops a srcs Inv l (k + 1)
theorem invOps_get {a : Act} {srcs : List (Option Nat)} {Inv : (Nat → Bool) → (Nat → Value) → World → Prop} : ∀ (l : List Oper) (k : Nat), invOps P md ops a srcs Inv l k → ∀ i o, l[i]? = some o →
    ∀ L xs w, Inv L xs w → L (k + i) = false → invNeeds md L o.after.toList → wpList P ops (InvEnd Inv (flowAct a srcs xs) o (k + i) L xs) [o] (flowAct a srcs xs) w
  | [], _, _, i, o, h => by simp at h
  | o' :: l, k, hh, 0, o, h => by
    obtain rfl : o' = o := by simpa using h
    exact hh.1
  | o' :: l, k, hh, i + 1, o, h => by
    have := invOps_get l (k + 1) hh.2 i o (by simpa using h)
    rwa [show k + 1 + i = k + (i + 1) by omega] at this
theorem wp_region_inv {id : Nat} {Q : Exit → Act → World → Prop} {l : List Oper} {a : Act} {w : World} (srcs : List (Option Nat)) (xs0 : Nat → Value) (Inv : (Nat → Bool) → (Nat → Value) → World → Prop) (hm : P.follows .mixedOrders = true)
    (hB : flowB .any l.toArray srcs = true) (hl : a.tmps.size = srcs.length) (h0 : flowAct a srcs xs0 = a)
    (hI0 : ∀ L, (∀ i, i < l.length → L i = false) → Inv L xs0 { w with drawn := w.drawn + 1 })
    (hops : invOps P .any l.toArray a srcs Inv l 0)
    (hend : ∀ L xs w', Inv L xs w' → (∀ i, i < l.length → L i = true) → Q .normal (flowAct a srcs xs) w') : (Code.region id l.toArray true).wp P Q a w := by
  refine wp_region_any hm ?_
  have := wpAny_inv (P := P) (ops := l.toArray) (md := .any) (Q := Q) (flowAct a srcs) Inv
    (fun i o ho => (flowB_spec hB ho).1) (fun i o xs v ho => flowAct_put hB hl ho xs v)
    (fun i o ho L xs x hI hL hn => by
      have := invOps_get l 0 hops i o (by simpa using ho) L xs x hI (by rwa [Nat.zero_add]) (invNeeds_of _ fun e he hb => hn e (by simpa using he) hb)
      rwa [Nat.zero_add] at this)
    (fun L xs x hI hL => hend L xs x hI (fun i hi => hL i (by simpa using hi)))
    l.toArray.size (Array.replicate l.toArray.size false) xs0 { w with drawn := w.drawn + 1 } (hI0 _ fun i hi => by
      rw [Array.getD_eq_getD_getElem?, Array.getElem?_eq_getElem (by simpa using hi)]; simp) (by simp) (by simp)
  rwa [h0] at this
end
end Go.Proofs.YtkjpmdpljdgcjaaDoor
end

section
/-
  Lists of cells that came in.
-/
namespace Go.Proofs.YtkjpmdpljdgcjaaDoor
open Go.RowKit Go Go.Sort Go.Deep
set_option linter.unusedVariables false
set_option maxRecDepth 20000

theorem choose_at {α : Type} {n : Nat} {p : Nat → α → Prop} (h : ∀ i, i < n → ∃ q, p i q) : ∃ V : Nat → Option α, ∀ i, i < n → ∃ q, V i = some q ∧ p i q := by
  induction n with
  | zero => exact ⟨fun _ => none, fun i hi => by omega⟩
  | succ n ih =>
    obtain ⟨V, hV⟩ := ih fun i hi => h i (by omega)
    obtain ⟨q, hq⟩ := h n (by omega)
    refine ⟨fun i => if i = n then some q else V i, fun i hi => ?_⟩
    by_cases e : i = n
    · subst e; exact ⟨q, by simp, hq⟩
    · simp only [if_neg e]; exact hV i (by omega)
/-- A list of cells that came in. -/
theorem open_cls {H : Type} {enc : TypeId × Value → H} {W : World} {a : Option Addr} {len cap : Nat} {d : DataW H} {p : List MemPlace} (h : DataW.Trod enc Tryd.prog W 0 (fun _ => true) true 23 (.slice a len cap) d p) :
    ∃ l, Cls W a len cap l ∧ ∀ c ∈ l, c.t.length ≤ 9223372036854775807 := by
  have hc : Tryd.prog.cellsOf 50 = 8 := by kernel_rfl
  obtain ⟨fuel, hf⟩ := h
  rcases open_slice Tryd.underlying23 hf with ⟨hcs, hx⟩ | ⟨x, l, c, m, n, D, Pl, hcs, _, hl, hm, hmm, hx, hcell⟩
  · simp [Value.cells] at hcs
    obtain ⟨rfl, rfl, rfl⟩ := hcs
    exact ⟨[], ⟨rfl, Nat.le_refl _, by omega, .inl rfl⟩, by simp⟩
  · simp [Value.cells] at hcs
    obtain ⟨rfl, rfl, rfl⟩ := hcs
    simp only [if_true] at hmm
    subst hmm
    rw [hc] at hcell
    have key : ∀ i, i < m → ∃ q : Cl, (∀ j u, q.arr[j]? = some u → W.cell? ((x.add (i * 8)).add j) = some u) ∧ q.t.length ≤ 9223372036854775807 := by
      intro i hi
      obtain ⟨cs', h1, h2⟩ := hcell i hi
      obtain ⟨_, h3l, h3⟩ := World.cells?_some h1
      obtain ⟨n', s', a', b', g', t', d', e', rfl, _, _, _, _, ht, _, _⟩ := cell_cells (sp := true) h2
      refine ⟨⟨n', s', a', b', g', t', d', e'⟩, fun j u hj => ?_, by unfold maxLen at ht; exact ht⟩
      have hjl : j < 8 := by
        have := (Array.getElem?_eq_some_iff.1 hj).1
        simpa [Cl.arr] using this
      have h4 := h3 j hjl
      rw [h4]
      rw [← hj]
      simp [Cl.arr]
    obtain ⟨V0, hV0⟩ := choose_at key
    obtain ⟨V, hV⟩ : ∃ V : Nat → Cl, ∀ i, i < m → ((∀ j u, (V i).arr[j]? = some u → W.cell? ((x.add (i * 8)).add j) = some u) ∧ (V i).t.length ≤ 9223372036854775807) := by
      refine ⟨fun i => (V0 i).getD Cl.zero, fun i hi => ?_⟩
      obtain ⟨q, hq, hp⟩ := hV0 i hi
      simp only [hq, Option.getD_some]
      exact hp
    have hgd : ∀ i, i < len → ((List.range len).map V).getD i Cl.zero = V i := fun i hi => by simp [List.getD, hi]
    refine ⟨(List.range len).map V, ⟨by simp, hl, by unfold maxLen at hm; omega, ?_⟩, ?_⟩
    · by_cases hz : m = 0
      · exact .inl hz
      · right
        obtain ⟨b, off, spot⟩ := x
        have h0 := (hV 0 (by omega)).1 0 _ rfl
        have hspot : spot = none := by simpa [Addr.add] using World.cell?_spot h0
        subst hspot
        refine ⟨b, off, rfl, fun i hi => ?_⟩
        rw [hgd i hi]
        have hq := (hV i (by omega)).1
        have e1 : (⟨b, off, none⟩ : Addr).add (i * 8) = ⟨b, off + i * 8, none⟩ := by
          by_cases h0 : i * 8 = 0
          · rw [h0]; rfl
          · simp [Addr.add, h0]
        rw [e1] at hq
        exact ⟨hq 0 _ rfl, hq 1 _ rfl, hq 2 _ rfl, hq 3 _ rfl, hq 4 _ rfl, hq 5 _ rfl, hq 6 _ rfl, hq 7 _ rfl⟩
    · intro g hg
      obtain ⟨i, hi, rfl⟩ := List.mem_map.1 hg
      exact (hV i (by have := List.mem_range.1 hi; omega)).2
end Go.Proofs.YtkjpmdpljdgcjaaDoor
end

section
/-
  Groups that came in, in lists.
-/
namespace Go.Proofs.YtkjpmdpljdgcjaaDoor
open Go.RowKit Go Go.Sort Go.Deep
set_option linter.unusedVariables false
set_option maxRecDepth 20000

theorem text_of (s : ByteArray) : s = text s.data.toList := rfl
theorem grp_cells {H : Type} {enc : TypeId × Value → H} {W : World} {base : Nat} {sp held : Bool} {fuel : Nat} {cs : List Value} {x : DataW H × List MemPlace} (h : DataW.trod enc Tryd.prog W base (fun _ => sp) held fuel 87 cs = some x) :
    ∃ (s : List UInt8) (p : Int), cs = [.string (text s), .int .i64 p] ∧ s.length ≤ maxLen ∧ -9223372036854775808 ≤ p ∧ p ≤ 9223372036854775807 := by
  obtain ⟨xs, m, _, rfl, hl, hlen, hf⟩ := DataW.trod_struct Tryd.underlying87 h
  have h2 : Tryd.prog.cellsOf 87 = 2 := by kernel_rfl
  have h1 : Tryd.prog.cellsOf 3 = 1 := by kernel_rfl
  have h9 : Tryd.prog.cellsOf 9 = 1 := by kernel_rfl
  rw [h2] at hl
  match xs, hlen with
  | [y0, y1], _ =>
    have i0 := hf 0 _ rfl
    have i1 := hf 1 _ rfl
    match cs, hl with
    | [c0, c1], _ =>
      have j0 : DataW.trod enc Tryd.prog W base (fun _ => sp) held m 9 (([c0, c1].drop 0).take (Tryd.prog.cellsOf 9)) = some y0 := i0
      have j1 : DataW.trod enc Tryd.prog W base (fun _ => sp) held m 3 (([c0, c1].drop 1).take (Tryd.prog.cellsOf 3)) = some y1 := i1
      rw [h9] at j0
      rw [h1] at j1
      obtain ⟨s, hs, _, ws⟩ := DataW.trod_string Tryd.underlying9 j0
      obtain ⟨b, hb, _, wb⟩ := DataW.trod_int Tryd.underlying3 j1
      simp at hs hb
      subst hs
      subst hb
      exact ⟨s.data.toList, b, rfl, by simpa using ws, i64_of_wf wb⟩
/-- A list of groups that came in. -/
theorem open_grs {H : Type} {enc : TypeId × Value → H} {W : World} {a : Option Addr} {len cap : Nat} {d : DataW H} {p : List MemPlace} (h : DataW.Trod enc Tryd.prog W 0 (fun _ => true) true 22 (.slice a len cap) d p) :
    ∃ l, Grs W a len cap l ∧ ∀ g ∈ l, g.1.length ≤ 9223372036854775807 := by
  have hc : Tryd.prog.cellsOf 87 = 2 := by kernel_rfl
  obtain ⟨fuel, hf⟩ := h
  rcases open_slice Tryd.underlying22 hf with ⟨hcs, hx⟩ | ⟨x, l, c, m, n, D, Pl, hcs, _, hl, hm, hmm, hx, hcell⟩
  · simp [Value.cells] at hcs
    obtain ⟨rfl, rfl, rfl⟩ := hcs
    exact ⟨[], ⟨rfl, Nat.le_refl _, by omega, .inl rfl⟩, by simp⟩
  · simp [Value.cells] at hcs
    obtain ⟨rfl, rfl, rfl⟩ := hcs
    simp only [if_true] at hmm
    subst hmm
    rw [hc] at hcell
    have key : ∀ i, i < m → ∃ q : Grp, W.cell? (x.add (i * 2)) = some (.string (text q.1)) ∧ W.cell? ((x.add (i * 2)).add 1) = some (.int .i64 q.2) ∧ q.1.length ≤ 9223372036854775807 := by
      intro i hi
      obtain ⟨cs', h1, h2⟩ := hcell i hi
      obtain ⟨_, _, h3⟩ := World.cells?_some h1
      obtain ⟨u, v, rfl, hu, hv⟩ := grp_cells (sp := true) h2
      have k0 := h3 0 (by omega)
      have k1 := h3 1 (by omega)
      refine ⟨(u, v), ?_, ?_, by unfold maxLen at hu; exact hu⟩
      · simpa [Addr.add] using k0
      · simpa using k1
    obtain ⟨V, hV⟩ := choose_lt (α := Grp) (p := fun i q => W.cell? (x.add (i * 2)) = some (.string (text q.1)) ∧ W.cell? ((x.add (i * 2)).add 1) = some (.int .i64 q.2) ∧ q.1.length ≤ 9223372036854775807) key
    have hgd : ∀ i, i < len → ((List.range len).map V).getD i ([], 0) = V i := fun i hi => by simp [List.getD, hi]
    refine ⟨(List.range len).map V, ⟨by simp, hl, by unfold maxLen at hm; omega, ?_⟩, ?_⟩
    · by_cases hz : m = 0
      · exact .inl hz
      · right
        obtain ⟨b, off, spot⟩ := x
        have h0 := (hV 0 (by omega)).1
        have hspot : spot = none := by simpa [Addr.add] using World.cell?_spot h0
        subst hspot
        refine ⟨b, off, rfl, fun i hi => ?_⟩
        rw [hgd i hi]
        obtain ⟨q1, q2, _⟩ := hV i (by omega)
        have e1 : (⟨b, off, none⟩ : Addr).add (i * 2) = ⟨b, off + i * 2, none⟩ := by
          by_cases h0 : i * 2 = 0
          · rw [h0]; rfl
          · simp [Addr.add, h0]
        rw [e1] at q1 q2
        exact ⟨q1, q2⟩
    · intro g hg
      obtain ⟨i, hi, rfl⟩ := List.mem_map.1 hg
      exact (hV i (by have := List.mem_range.1 hi; omega)).2.2
end Go.Proofs.YtkjpmdpljdgcjaaDoor
end

section
/-
  Row: rows that came in.
-/
namespace Go.Proofs.YtkjpmdpljdgcjaaDoor
open Go.RowKit Go Go.Sort Go.Deep
set_option linter.unusedVariables false
set_option maxRecDepth 20000

theorem trod_row {H : Type} {enc : TypeId × Value → H} {W : World} {fuel : Nat} {cs : List Value} {x : DataW H × List MemPlace} (h : DataW.trod enc Tryd.prog W 0 (fun _ => true) true fuel 25 cs = some x) :
    ∃ (k : List UInt8) (a : Option Addr) (len cap : Nat) (l : List Cl), cs = [.string (text k), .slice a len cap] ∧ k.length ≤ maxLen ∧ Cls W a len cap l ∧ ∀ c ∈ l, c.t.length ≤ 9223372036854775807 := by
  obtain ⟨xs, m, _, rfl, hl, hlen, hf⟩ := DataW.trod_struct Tryd.underlying25 h
  have h2 : Tryd.prog.cellsOf 25 = 2 := by kernel_rfl
  have h9 : Tryd.prog.cellsOf 9 = 1 := by kernel_rfl
  have hc : Tryd.prog.cellsOf 23 = 1 := by kernel_rfl
  rw [h2] at hl
  match xs, hlen with
  | [y0, y1], _ =>
    have i0 := hf 0 _ rfl
    have i1 := hf 1 _ rfl
    match cs, hl with
    | [c0, c1], _ =>
      have j0 : DataW.trod enc Tryd.prog W 0 (fun _ => true) true m 9 (([c0, c1].drop 0).take (Tryd.prog.cellsOf 9)) = some y0 := i0
      have j1 : DataW.trod enc Tryd.prog W 0 (fun _ => true) true m 23 (([c0, c1].drop 1).take (Tryd.prog.cellsOf 23)) = some y1 := i1
      rw [h9] at j0
      rw [hc] at j1
      obtain ⟨s, hs, _, ws⟩ := DataW.trod_string Tryd.underlying9 j0
      simp at hs
      subst hs
      have hv : ∃ a len cap, c1 = .slice a len cap := by
        rcases open_slice Tryd.underlying23 j1 with ⟨hcs, hx⟩ | ⟨x, l, c, m, n, D, Pl, hcs, _⟩
        · simp at hcs; exact ⟨_, _, _, hcs⟩
        · simp at hcs; exact ⟨_, _, _, hcs⟩
      obtain ⟨a, len, cap, rfl⟩ := hv
      obtain ⟨l, h1, h2⟩ := open_cls (d := y1.1) (p := y1.2) (W := W) (enc := enc) (a := a) (len := len) (cap := cap) ⟨m, j1⟩
      exact ⟨s.data.toList, a, len, cap, l, rfl, by simpa using ws, h1, h2⟩
/-- A row that came in. -/
theorem open_row {H : Type} {enc : TypeId × Value → H} {W : World} {base : Nat} {v : Value} {x : DataW H} {p : List MemPlace} (hv : Value.okWide Tryd.prog W .any base 25 v)
    (h : DataW.Trod enc Tryd.prog W 0 (fun _ => true) true 25 v x p) : ∃ (k : List UInt8) (a : Option Addr) (len cap : Nat) (l : List Cl), v = .agg #[.string (text k), .slice a len cap] ∧ k.length ≤ 9223372036854775807 ∧ Cls W a len cap l ∧ ∀ c ∈ l, c.t.length ≤ 9223372036854775807 := by
  simp only [Value.okWide, Tryd.underlying25] at hv
  obtain ⟨cs, rfl, hs, _⟩ := hv
  obtain ⟨m, hm⟩ := h
  obtain ⟨k, a, len, cap, l, hc, h1, h2, h3⟩ := trod_row hm
  refine ⟨k, a, len, cap, l, ?_, by unfold maxLen at h1; exact h1, h2, h3⟩
  congr 1
  apply Array.toList_inj.1
  exact hc
theorem trod_two {H : Type} {enc : TypeId × Value → H} {W : World} {fuel : Nat} {cs : List Value} {x : DataW H × List MemPlace} (h : DataW.trod enc Tryd.prog W 0 (fun _ => true) true fuel 52 cs = some x) :
    ∃ (k : List UInt8) (ad : Option Addr) (len cap : Nat) (l : List Cl) (i : Int) (n s a b : Int) (g : Bool) (t : List UInt8) (d e : Int), cs = [.string (text k), .slice ad len cap, .int .i64 i, .int .i64 n, .int .i64 s, .int .i64 a, .int .i64 b, .bool g, .string (text t), .int .i64 d, .int .i64 e] ∧ k.length ≤ maxLen ∧ Cls W ad len cap l ∧ (∀ c ∈ l, c.t.length ≤ 9223372036854775807) ∧ t.length ≤ maxLen ∧ IsI64 i := by
  obtain ⟨xs, m, _, rfl, hl, hlen, hf⟩ := DataW.trod_struct Tryd.underlying52 h
  have h11 : Tryd.prog.cellsOf 52 = 11 := by kernel_rfl
  have h2 : Tryd.prog.cellsOf 25 = 2 := by kernel_rfl
  have h3 : Tryd.prog.cellsOf 3 = 1 := by kernel_rfl
  have h8 : Tryd.prog.cellsOf 50 = 8 := by kernel_rfl
  rw [h11] at hl
  match xs, hlen with
  | [y0, y1, y2], _ =>
    have i0 := hf 0 _ rfl
    have i1 := hf 1 _ rfl
    have i2 := hf 2 _ rfl
    match cs, hl with
    | [c0, c1, c2, c3, c4, c5, c6, c7, c8, c9, c10], _ =>
      have j0 : DataW.trod enc Tryd.prog W 0 (fun _ => true) true m 25 (([c0, c1, c2, c3, c4, c5, c6, c7, c8, c9, c10].drop 0).take (Tryd.prog.cellsOf 25)) = some y0 := i0
      have j1 : DataW.trod enc Tryd.prog W 0 (fun _ => true) true m 3 (([c0, c1, c2, c3, c4, c5, c6, c7, c8, c9, c10].drop 2).take (Tryd.prog.cellsOf 3)) = some y1 := i1
      have j2 : DataW.trod enc Tryd.prog W 0 (fun _ => true) true m 50 (([c0, c1, c2, c3, c4, c5, c6, c7, c8, c9, c10].drop 3).take (Tryd.prog.cellsOf 50)) = some y2 := i2
      rw [h2] at j0
      rw [h3] at j1
      rw [h8] at j2
      obtain ⟨k, ad, len, cap, l, e0, w1, w2, w3⟩ := trod_row j0
      obtain ⟨i, e1, _, wi⟩ := DataW.trod_int Tryd.underlying3 j1
      obtain ⟨n, s, a, b, g, t, d, e, e2, _, _, _, _, wt, _, _⟩ := cell_cells (sp := true) j2
      simp at e0 e1 e2
      obtain ⟨rfl, rfl⟩ := e0
      subst e1
      obtain ⟨rfl, rfl, rfl, rfl, rfl, rfl, rfl, rfl⟩ := e2
      exact ⟨k, ad, len, cap, l, i, n, s, a, b, g, t, d, e, rfl, w1, w2, w3, wt, i64_of_wf wi⟩
/-- A row with a cell that came in. -/
theorem open_two {H : Type} {enc : TypeId × Value → H} {W : World} {base : Nat} {v : Value} {x : DataW H} {p : List MemPlace} (hv : Value.okWide Tryd.prog W .any base 52 v)
    (h : DataW.Trod enc Tryd.prog W 0 (fun _ => true) true 52 v x p) : ∃ (k : List UInt8) (ad : Option Addr) (len cap : Nat) (l : List Cl) (i : Int) (n s a b : Int) (g : Bool) (t : List UInt8) (d e : Int), v = .agg #[.string (text k), .slice ad len cap, .int .i64 i, .int .i64 n, .int .i64 s, .int .i64 a, .int .i64 b, .bool g, .string (text t), .int .i64 d, .int .i64 e] ∧ k.length ≤ 9223372036854775807 ∧ Cls W ad len cap l ∧ (∀ c ∈ l, c.t.length ≤ 9223372036854775807) ∧ t.length ≤ 9223372036854775807 ∧ IsI64 i := by
  simp only [Value.okWide, Tryd.underlying52] at hv
  obtain ⟨cs, rfl, hs, _⟩ := hv
  obtain ⟨m, hm⟩ := h
  obtain ⟨k, ad, len, cap, l, i, n, s, a, b, g, t, d, e, hc, h1, h2, h3, h4, h5⟩ := trod_two hm
  refine ⟨k, ad, len, cap, l, i, n, s, a, b, g, t, d, e, ?_, by unfold maxLen at h1; exact h1, h2, h3, by unfold maxLen at h4; exact h4, h5⟩
  congr 1
  apply Array.toList_inj.1
  exact hc
end Go.Proofs.YtkjpmdpljdgcjaaDoor
end

section
/-
  Row: the program's copied.
-/
namespace Go.Proofs.YtkjpmdpljdgcjaaDoor
open Go.RowKit Go Go.Sort
set_option linter.unusedVariables false
set_option maxRecDepth 20000

theorem run_copy_wide (P : Program) (w : World) (dT sT ty elem : TypeId) (g dLen dCap : Nat) (sp : Option Addr) (sLen sCap sz : Nat) (cur : Array Value) (t : TypeId) (cs : List Value)
    (hu : P.underlying dT = some (.slice elem)) (hs : (P.info? elem).map (·.size) = some sz)
    (hg : w.heap[g]? = some (.cells cur t (0, 0))) (hn : cs.length = Nat.min sLen dLen * sz)
    (hsrc : cs = [] ∧ sLen = 0 ∨ ∃ a, sp = some a ∧ ∀ j v, cs[j]? = some v → w.cell? (a.add j) = some v) (hfit : cs.length ≤ cur.size) (h1 : ∀ v ∈ cs, v.oneCell' = true) :
    (Builtin.copy_ #[dT, sT] ty #[.slice (some ⟨g, 0, none⟩) dLen dCap, .slice sp sLen sCap]).run P w =
      .ok (goInt (Nat.min sLen dLen)) (w.setRow g (cs ++ cur.toList.drop cs.length).toArray) := by
  have hst := run_storeCells_at P g 0 t cs 0 cur w hg (by simpa using hfit) h1
  simp only [Nat.zero_add, List.take_zero, List.nil_append] at hst
  cases hq : P.info? elem with
  | none => simp [hq] at hs
  | some i =>
    have hi : i.size = sz := by simpa [hq] using hs
    rcases hsrc with ⟨rfl, rfl⟩ | ⟨a, rfl, hsrc⟩
    · have e0 : Nat.min 0 dLen = 0 := Nat.zero_min _
      cases sp with
      | none => simp [Builtin.copy_, run_underlying hu, Builtin.lenOf, Builtin.firstCells, sizeOf, typeInfo, hq, e0, hst]
      | some a =>
        have hl := run_loadCells_list (P := P) w a [] (by simp)
        simp only [List.length_nil] at hl
        simp [Builtin.copy_, run_underlying hu, Builtin.lenOf, Builtin.firstCells, sizeOf, typeInfo, hq, e0, hl, hst]
    · have hl := run_loadCells_list (P := P) w a cs hsrc
      rw [hn] at hl
      simp [Builtin.copy_, run_underlying hu, Builtin.lenOf, Builtin.firstCells, sizeOf, typeInfo, hq, hi, hl, hst]

theorem wpList_copy_wide {P : Program} {w : World} {ops : Array Oper} {rest : List Oper} {o : Oper} {a : Act} {Q : Exit → Act → World → Prop} (hgd : o.guard = none) (d s : Operand) (dT sT : TypeId)
    (ho : o.op = .call { callee := .builtin .copy, args := #[d, s], argTypes := #[dT, sT] }) (elem : TypeId) (hu : P.underlying dT = some (.slice elem)) (sz : Nat) (hsz : (P.info? elem).map (·.size) = some sz)
    (g dLen dCap : Nat) (sp : Option Addr) (sLen sCap : Nat) (hd : a.eval d = .slice (some ⟨g, 0, none⟩) dLen dCap) (hs : a.eval s = .slice sp sLen sCap)
    (cur : Array Value) (t : TypeId) (hg : w.heap[g]? = some (.cells cur t (0, 0))) (cs : List Value) (hn : cs.length = Nat.min sLen dLen * sz)
    (hsrc : cs = [] ∧ sLen = 0 ∨ ∃ a, sp = some a ∧ ∀ j v, cs[j]? = some v → w.cell? (a.add j) = some v) (hfit : cs.length ≤ cur.size) (h1 : ∀ v ∈ cs, v.oneCell' = true)
    (h : wpList P ops Q rest (a.put o.dst (goInt (Nat.min sLen dLen))) (w.setRow g (cs ++ cur.toList.drop cs.length).toArray)) : wpList P ops Q (o :: rest) a w := by
  refine wpList_plain hgd fun K hK => ?_
  have hrun := run_copy_wide P w dT sT o.type elem g dLen dCap sp sLen sCap sz cur t cs hu hsz hg hn hsrc hfit h1
  unfold Oper.wp
  simp [execOp, ho, resolve, invoke, builtin, hd, hs, hrun, Result.andThen]
  exact hK _ _ h
theorem Cls.src {w : World} {x : Option Addr} {m cap : Nat} {cs : List Cl} (h : Cls w x m cap cs) : cCells cs = [] ∧ m = 0 ∨ ∃ a, x = some a ∧ ∀ j v, (cCells cs)[j]? = some v → w.cell? (a.add j) = some v := by
  have hl := h.len
  by_cases h0 : m = 0
  · left
    obtain rfl : cs = [] := List.eq_nil_of_length_eq_zero (by omega)
    exact ⟨rfl, h0⟩
  · right
    obtain ⟨b, off, rfl, _⟩ := h.at (k := 0) (by omega)
    refine ⟨_, rfl, fun j v hj => ?_⟩
    have hjl := (List.getElem?_eq_some_iff.1 hj).1
    rw [cCells_length] at hjl
    have hk : j / 8 < m := by omega
    obtain ⟨b', off', e, hat⟩ := h.at hk
    obtain ⟨rfl, rfl⟩ : b = b' ∧ off = off' := by
      have := Option.some.inj e
      injection this with e1 e2
      exact ⟨e1, e2⟩
    have hc := hat w (Below.refl _ _)
    have hg := cCells_get cs (j / 8) (j % 8) (by omega) (Nat.mod_lt _ (by omega))
    have e8 : j / 8 * 8 + j % 8 = j := by omega
    rw [e8, hj] at hg
    rw [addr_add]
    obtain ⟨c0, c1, c2, c3, c4, c5, c6, c7⟩ := hc
    have hm : j % 8 < 8 := Nat.mod_lt _ (by omega)
    obtain ⟨r, hr⟩ : ∃ r, j % 8 = r := ⟨_, rfl⟩
    rw [hr] at hg hm e8
    rw [show off + j = off + j / 8 * 8 + r by omega]
    generalize cs.getD (j / 8) Cl.zero = c at *
    generalize off + j / 8 * 8 = z at *
    rcases (by omega : r = 0 ∨ r = 1 ∨ r = 2 ∨ r = 3 ∨ r = 4 ∨ r = 5 ∨ r = 6 ∨ r = 7) with rfl | rfl | rfl | rfl | rfl | rfl | rfl | rfl
    · rw [Nat.add_zero, c0, hg]; rfl
    · rw [c1, hg]; rfl
    · rw [c2, hg]; rfl
    · rw [c3, hg]; rfl
    · rw [c4, hg]; rfl
    · rw [c5, hg]; rfl
    · rw [c6, hg]; rfl
    · rw [c7, hg]; rfl
theorem cCells_one (cs : List Cl) : ∀ v ∈ cCells cs, v.oneCell' = true := by
  intro v hv
  obtain ⟨c, _, h⟩ := List.mem_flatMap.1 hv
  simp [Cl.arr] at h
  rcases h with rfl | rfl | rfl | rfl | rfl | rfl | rfl | rfl <;> rfl

set_option maxRecDepth 100000 in
set_option maxHeartbeats 3200000 in
theorem copied_c {w : World} {x : Option Addr} {m cap : Nat} {cs : List Cl} (hl : Cls w x m cap cs) (hm : m ≤ 1000000) (key : ByteArray) :
    Calls Tryd.prog 49 #[.agg #[.string key, .slice x m cap]] w (fun e w' => ∃ g, e = .returned (.agg #[.string key, .slice (some ⟨g, 0, none⟩) m m]) ∧ w.heap.size ≤ g ∧ w'.heap[g]? = some (.cells (cCells cs).toArray 50 (0, 0)) ∧ Below w.heap.size w w') := by
  have hll := hl.len
  have hle := hl.le
  have hmax := hl.max
  obtain ⟨i0, hi, hz0, hz1, hz2⟩ := info_parts Tryd.infoC
  have hb := (alloc_below w (.cells #[.string key, .slice x m cap] 25)).alloc (by simp) (.cells #[.string ⟨#[]⟩, .slice none 0 0] 25)
  have hr0 : ((w.alloc (.cells #[.string key, .slice x m cap] 25)).alloc (.cells #[.string ⟨#[]⟩, .slice none 0 0] 25)).heap[w.heap.size]? = some (.cells #[.string key, .slice x m cap] 25 (0, 0)) := (Below.heap_alloc _ _ _ (by simp)).trans (heap_alloc_new w _)
  have hr1 := heap_alloc_new (w.alloc (.cells #[.string key, .slice x m cap] 25)) (.cells #[.string ⟨#[]⟩, .slice none 0 0] 25)
  rw [World.size_alloc] at hr1
  have HL := Lib.hid hl
  clear hl
  go_enter Tryd.func49, Tryd.ntmps49
  go_upto_region 1 with (fail)
  obtain ⟨B, hB⟩ : ∃ q, w.heap.size = q := ⟨_, rfl⟩
  have HBe := Lib.hid hB
  rw [hB] at hr0 hr1 ⊢
  clear hB
  generalize (w.alloc (.cells #[.string key, .slice x m cap] 25)).alloc (.cells #[.string ⟨#[]⟩, .slice none 0 0] 25) = W1 at *
  obtain ⟨r0, r1, -⟩ := row_cells hr0
  have HR0 := Lib.hid hr0
  have HR1 := Lib.hid hr1
  have HB1 := Lib.hid hb
  clear hr0 hr1 hb
  go_upto_region 2 with (refine wpList_make_full _ rfl _ _ _ rfl w.heap.size 50 i0 _ 8 Tryd.underlying23 hi hz0 hz1 .i64 .i64 _ _ m rfl rfl rfl rfl (by rw [hz2]; omega) (by unfold maxLen; omega) HB1.out.size ?_; intro w2 ho2 hg2)
  obtain ⟨-, ⟨ev, -⟩ | ⟨g, c, cur, ev, hBg, hgc, -, -, hcs, -⟩⟩ := ho2
  · cases ev
  · injection ev with e1 e2 e3
    injection e1 with e1
    injection e1 with e1
    subst e3
    rw [e1]
    have hlt := (Array.getElem?_eq_some_iff.1 hgc).1
    have hb2 := HB1.out.grown hg2 HB1.out.size (fun k e => by cases e)
    have hr2 := heap_grown HR0.out hg2 (by simp)
    have he2 := heap_grown HR1.out hg2 (by simp)
    have hgB : g ≠ B := fun e => by rw [e, hr2] at hgc; cases hgc
    have hgB1 : g ≠ B + 1 := fun e => by rw [e, he2] at hgc; cases hgc
    have hsrc := (HL.out.below hb2).src
    have hccl := cCells_length cs
    rw [hll] at hccl
    have h1c := cCells_one cs
    obtain ⟨r0, r1, -⟩ := row_cells hr2
    obtain ⟨X, hX⟩ : ∃ X, cCells cs = X := ⟨_, rfl⟩
    rw [hX] at hsrc hccl h1c
    have HX := Lib.hid hX
    clear hX
    have hdr : (X ++ cur.toList.drop X.length).toArray = X.toArray := by rw [List.drop_of_length_le (by simp; omega), List.append_nil]
    have HB3 := Lib.hid (below_setRow hb2 hBg X.toArray)
    have hr3 := (setRow_other w2 g B X.toArray (fun e => hgB e.symm)).trans hr2
    have he3 := (setRow_other w2 g (B + 1) X.toArray (fun e => hgB1 e.symm)).trans he2
    have HG3 := Lib.hid (setRow_heap w2 g cur X.toArray _ _ hgc)
    have hbg := hBg
    go_upto_region 3 with (refine wpList_copy_wide rfl _ _ 23 23 rfl 50 Tryd.underlying23 8 (by kernel_rfl) g m m x m cap rfl rfl cur 50 hgc X (by rw [hccl]; congr 1; exact (Nat.min_self m).symm) hsrc (by omega) h1c ?_; rw [hdr])
    obtain ⟨s0, s1, -⟩ := row_cells hr3
    obtain ⟨z0, z1, zf⟩ := row_cells he3
    have HS := Lib.hid (row_set he3 key (.slice (some ⟨g, 0, none⟩) m m))
    have HW := Lib.hid ((HB3.out.setCell (p := ⟨B + 1, 0, none⟩) (by have := HBe.out; simp; omega) (.string key)).setCell (p := ⟨B + 1, 1, none⟩) (by have := HBe.out; simp; omega) (.slice (some ⟨g, 0, none⟩) m m))
    have HGW := Lib.hid ((Below.heap_setCell ((w2.setRow g X.toArray).setCell ⟨B + 1, 0, none⟩ (.string key)) ⟨B + 1, 1, none⟩ (.slice (some ⟨g, 0, none⟩) m m) g (by simp; omega)).trans ((Below.heap_setCell (w2.setRow g X.toArray) ⟨B + 1, 0, none⟩ (.string key) g (by simp; omega)).trans HG3.out))
    clear hr3 he3 hr2 he2 hgc hsrc h1c hdr hb2 hg2 r0 r1
    go_wp2
    exact bodyPost_ret (results_cell_row rfl _ _ (B + 1) 25 _ (0, 0) _ rfl HS.out Tryd.underlying25 rfl (by kernel_rfl)) rfl ⟨g, rfl, hbg, by rw [HX.out]; exact HGW.out, HW.out⟩
end Go.Proofs.YtkjpmdpljdgcjaaDoor
end

section
/-
  Row: the program's Write.
-/
namespace Go.Proofs.YtkjpmdpljdgcjaaDoor
open Go.RowKit Go Go.Sort
set_option linter.unusedVariables false
set_option maxRecDepth 20000

theorem cells_put {W : World} {g k : Nat} {cs : List Cl} (hg : W.heap[g]? = some (.cells (cCells cs).toArray 50 (0, 0))) (hk : k < cs.length) (n9 s9 a9 b9 : Int) (g9 : Bool) (t9 : List UInt8) (d9 e9 : Int) :
    (((((((((W.setCell ⟨g, k * 8, none⟩ (.int .i64 n9)).setCell ⟨g, k * 8 + 1, none⟩ (.int .i64 s9)).setCell ⟨g, k * 8 + 2, none⟩ (.int .i64 a9)).setCell ⟨g, k * 8 + 3, none⟩ (.int .i64 b9)).setCell ⟨g, k * 8 + 4, none⟩ (.bool g9)).setCell ⟨g, k * 8 + 5, none⟩ (.string (text t9))).setCell ⟨g, k * 8 + 6, none⟩ (.int .i64 d9)).setCell ⟨g, k * 8 + 7, none⟩ (.int .i64 e9))).heap[g]? = some (.cells (cCells (cs.set k ⟨n9, s9, a9, b9, g9, t9, d9, e9⟩)).toArray 50 (0, 0)) := by
  have h0 := heap_setCell_same W g (k * 8) _ _ (.int .i64 n9) hg
  have h1 := heap_setCell_same _ g (k * 8 + 1) _ _ (.int .i64 s9) h0
  have h2 := heap_setCell_same _ g (k * 8 + 2) _ _ (.int .i64 a9) h1
  have h3 := heap_setCell_same _ g (k * 8 + 3) _ _ (.int .i64 b9) h2
  have h4 := heap_setCell_same _ g (k * 8 + 4) _ _ (.bool g9) h3
  have h5 := heap_setCell_same _ g (k * 8 + 5) _ _ (.string (text t9)) h4
  have h6 := heap_setCell_same _ g (k * 8 + 6) _ _ (.int .i64 d9) h5
  have h7 := heap_setCell_same _ g (k * 8 + 7) _ _ (.int .i64 e9) h6
  rw [h7]
  refine congrArg (fun z => some (Obj.cells z 50 (0, 0))) ?_
  apply Array.ext_getElem?
  intro j
  have hl := cCells_length cs
  have hl2 := cCells_length (cs.set k ⟨n9, s9, a9, b9, g9, t9, d9, e9⟩)
  rw [List.length_set] at hl2
  simp only [Array.getElem?_setIfInBounds, List.getElem?_toArray, Array.size_setIfInBounds, List.size_toArray, hl]
  by_cases hj : j < cs.length * 8
  · have hd : j / 8 < cs.length := by omega
    have hm : j % 8 < 8 := Nat.mod_lt _ (by omega)
    have e8 : j / 8 * 8 + j % 8 = j := by omega
    have g1 := cCells_get cs (j / 8) (j % 8) hd hm
    have g2 := cCells_get (cs.set k ⟨n9, s9, a9, b9, g9, t9, d9, e9⟩) (j / 8) (j % 8) (by rw [List.length_set]; exact hd) hm
    rw [e8] at g1 g2
    rw [g2, g1]
    obtain ⟨r, hr⟩ : ∃ r, j % 8 = r := ⟨_, rfl⟩
    rw [hr] at hm e8 ⊢
    by_cases hq : j / 8 = k
    · rw [hq] at e8 ⊢
      have e9 : (cs.set k ⟨n9, s9, a9, b9, g9, t9, d9, e9⟩).getD k Cl.zero = ⟨n9, s9, a9, b9, g9, t9, d9, e9⟩ := by simp [hk]
      rw [e9]
      subst e8
      have hk8 : k * 8 + 7 < cs.length * 8 := by omega
      rcases (by omega : r = 0 ∨ r = 1 ∨ r = 2 ∨ r = 3 ∨ r = 4 ∨ r = 5 ∨ r = 6 ∨ r = 7) with rfl | rfl | rfl | rfl | rfl | rfl | rfl | rfl
      all_goals
        repeat rw [if_neg (by omega)]
        rw [if_pos (by omega), if_pos (by omega)]
        rfl
    · have e9 : (cs.set k ⟨n9, s9, a9, b9, g9, t9, d9, e9⟩).getD (j / 8) Cl.zero = cs.getD (j / 8) Cl.zero := by
        simp only [List.getD_eq_getElem?_getD, List.getElem?_set]
        rw [if_neg (fun e => hq e.symm)]
      rw [e9]
      repeat rw [if_neg (by omega)]
  · rw [List.getElem?_eq_none (by omega), List.getElem?_eq_none (by omega)]
    repeat rw [if_neg (by omega)]
theorem cells_put_other {W : World} {g k q : Nat} (hq : q ≠ g) (n9 s9 a9 b9 : Int) (g9 : Bool) (t9 : List UInt8) (d9 e9 : Int) : (((((((((W.setCell ⟨g, k * 8, none⟩ (.int .i64 n9)).setCell ⟨g, k * 8 + 1, none⟩ (.int .i64 s9)).setCell ⟨g, k * 8 + 2, none⟩ (.int .i64 a9)).setCell ⟨g, k * 8 + 3, none⟩ (.int .i64 b9)).setCell ⟨g, k * 8 + 4, none⟩ (.bool g9)).setCell ⟨g, k * 8 + 5, none⟩ (.string (text t9))).setCell ⟨g, k * 8 + 6, none⟩ (.int .i64 d9)).setCell ⟨g, k * 8 + 7, none⟩ (.int .i64 e9))).heap[q]? = W.heap[q]? :=
  (Below.heap_setCell _ ⟨g, k * 8 + 7, none⟩ _ q hq).trans ((Below.heap_setCell _ ⟨g, k * 8 + 6, none⟩ _ q hq).trans ((Below.heap_setCell _ ⟨g, k * 8 + 5, none⟩ _ q hq).trans ((Below.heap_setCell _ ⟨g, k * 8 + 4, none⟩ _ q hq).trans ((Below.heap_setCell _ ⟨g, k * 8 + 3, none⟩ _ q hq).trans ((Below.heap_setCell _ ⟨g, k * 8 + 2, none⟩ _ q hq).trans ((Below.heap_setCell _ ⟨g, k * 8 + 1, none⟩ _ q hq).trans (Below.heap_setCell _ ⟨g, k * 8, none⟩ _ q hq)))))))
theorem cells_put_below {w W : World} {B g k : Nat} (hb : Below B w W) (hg : B ≤ g) (n9 s9 a9 b9 : Int) (g9 : Bool) (t9 : List UInt8) (d9 e9 : Int) : Below B w (((((((((W.setCell ⟨g, k * 8, none⟩ (.int .i64 n9)).setCell ⟨g, k * 8 + 1, none⟩ (.int .i64 s9)).setCell ⟨g, k * 8 + 2, none⟩ (.int .i64 a9)).setCell ⟨g, k * 8 + 3, none⟩ (.int .i64 b9)).setCell ⟨g, k * 8 + 4, none⟩ (.bool g9)).setCell ⟨g, k * 8 + 5, none⟩ (.string (text t9))).setCell ⟨g, k * 8 + 6, none⟩ (.int .i64 d9)).setCell ⟨g, k * 8 + 7, none⟩ (.int .i64 e9))) :=
  (((((((hb.setCell (p := ⟨g, k * 8, none⟩) hg _).setCell (p := ⟨g, k * 8 + 1, none⟩) hg _).setCell (p := ⟨g, k * 8 + 2, none⟩) hg _).setCell (p := ⟨g, k * 8 + 3, none⟩) hg _).setCell (p := ⟨g, k * 8 + 4, none⟩) hg _).setCell (p := ⟨g, k * 8 + 5, none⟩) hg _).setCell (p := ⟨g, k * 8 + 6, none⟩) hg _).setCell (p := ⟨g, k * 8 + 7, none⟩) hg _
def ClsV (l : List Cl) (v : Value) (W : World) : Prop := ∃ a n c, v = .slice a n c ∧ Cls W a n c l
theorem ClsV.kept {l : List Cl} {v : Value} {X Y : World} (h : ClsV l v X) (hb : Below X.heap.size X Y) : ClsV l v Y := by
  obtain ⟨a, n, c, rfl, h⟩ := h
  exact ⟨a, n, c, rfl, h.below hb⟩
/-- A cell written into a row, or why not. -/
def rwriteS (gs : List Grp) (key : List UInt8) (cs : List Cl) (k : Int) (c : Cl) : List UInt8 × List Cl × Int :=
  if ¬ rgoodS gs key cs = 0 then ([], [], rgoodS gs key cs) else if ¬ (pofS gs k).2 = 0 then ([], [], (pofS gs k).2) else if c.good (pofS gs k).1 = false then ([], [], 80) else (key, cs.set k.toNat (joinC [cs.getD k.toNat Cl.zero, c]), 0)
theorem write_bad {gs : List Grp} {key : List UInt8} {cs : List Cl} {k : Int} {c : Cl} (h : ¬ rgoodS gs key cs = 0) : rwriteS gs key cs k c = ([], [], rgoodS gs key cs) := by unfold rwriteS; rw [if_pos h]
theorem write_grp {gs : List Grp} {key : List UInt8} {cs : List Cl} {k : Int} {c : Cl} (h : rgoodS gs key cs = 0) (h2 : ¬ (pofS gs k).2 = 0) : rwriteS gs key cs k c = ([], [], (pofS gs k).2) := by unfold rwriteS; rw [if_neg (by simp [h]), if_pos h2]
theorem write_cell {gs : List Grp} {key : List UInt8} {cs : List Cl} {k : Int} {c : Cl} (h : rgoodS gs key cs = 0) (h2 : (pofS gs k).2 = 0) (h3 : c.good (pofS gs k).1 = false) : rwriteS gs key cs k c = ([], [], 80) := by unfold rwriteS; rw [if_neg (by simp [h]), if_neg (by simp [h2]), if_pos h3]
theorem write_ok {gs : List Grp} {key : List UInt8} {cs : List Cl} {k : Int} {c : Cl} (h : rgoodS gs key cs = 0) (h2 : (pofS gs k).2 = 0) (h3 : c.good (pofS gs k).1 = true) : rwriteS gs key cs k c = (key, cs.set k.toNat (joinC [cs.getD k.toNat Cl.zero, c]), 0) := by unfold rwriteS; rw [if_neg (by simp [h]), if_neg (by simp [h2]), if_neg (by simp [h3])]
theorem of_in {gs : List Grp} {k : Int} (h0 : pgoodS gs = 0) (h : (pofS gs k).2 = 0) : 0 ≤ k ∧ k < (gs.length : Int) := by
  unfold pofS at h
  rw [if_pos h0] at h
  split at h
  · cases h
  · rename_i hh; omega
theorem own_lit {W : World} {g B m : Nat} {cs : List Cl} (hg : W.heap[g]? = some (.cells (cCells cs).toArray 50 (0, 0))) (hB : B ≤ g) (hm : cs.length = m) (h : m ≤ 1000000) : OwnC W B (.slice (some ⟨g, 0, none⟩) m m) cs := by
  subst hm
  refine ⟨by simp [cCells_length], .inr ⟨g, cs.length, (cCells cs).toArray, rfl, hB, hg, Nat.le_refl _, by unfold maxLen; omega, by simp [cCells_length], ?_⟩⟩
  rw [List.take_of_length_le (by simp [cCells_length])]

set_option maxRecDepth 100000 in
set_option maxHeartbeats 12800000 in
theorem rowwrite_c {w : World} {x x2 : Option Addr} {n1 cap m cap2 : Nat} {gs : List Grp} {cs : List Cl} (hg : Grs w x n1 cap gs) (hs : ∀ g ∈ gs, g.1.length ≤ 9223372036854775807)
    (hl : Cls w x2 m cap2 cs) (hx : ∀ c ∈ cs, c.t.length ≤ 9223372036854775807) (key : List UInt8) (hk : key.length ≤ 9223372036854775807) (k : Int) (n s a b : Int) (g : Bool) (t : List UInt8) (d e : Int) (ht : t.length ≤ 9223372036854775807) :
    Calls Tryd.prog 23 #[.slice x n1 cap, .agg #[.string (text key), .slice x2 m cap2], .int .i64 k, .agg #[.int .i64 n, .int .i64 s, .int .i64 a, .int .i64 b, .bool g, .string (text t), .int .i64 d, .int .i64 e]] w (RowPost (rwriteS gs key cs k ⟨n, s, a, b, g, t, d, e⟩) w) := by
  have hgl := hg.len
  have hll := hl.len
  have hle2 := hl.le
  have hmax2 := hl.max
  have hGD := fun W (h : Below w.heap.size w W) => rowgood_c (hg.below h) hs (hl.below h) hx key hk
  have hOF := fun W (h : Below w.heap.size w W) => pof_c (hg.below h) hs k
  have hCG := fun p W => cgood_c p n s a b g t d e ht W
  have hCP := fun (hm : m ≤ 1000000) W (h : Below w.heap.size w W) => copied_c (hl.below h) hm (text key)
  have H0 := Lib.hid (@write_bad gs key cs k ⟨n, s, a, b, g, t, d, e⟩)
  have H1 := Lib.hid (@write_grp gs key cs k ⟨n, s, a, b, g, t, d, e⟩)
  have H2 := Lib.hid (@write_cell gs key cs k ⟨n, s, a, b, g, t, d, e⟩)
  have H3 := Lib.hid (@write_ok gs key cs k ⟨n, s, a, b, g, t, d, e⟩)
  have HIN := Lib.hid (@rgood_inv gs key cs)
  have HOI := Lib.hid (@of_in gs k)
  have HL := Lib.hid hl
  obtain ⟨RV, hRV⟩ : ∃ z, rwriteS gs key cs k ⟨n, s, a, b, g, t, d, e⟩ = z := ⟨_, rfl⟩
  obtain ⟨R, hR⟩ : ∃ z, rgoodS gs key cs = z := ⟨_, rfl⟩
  obtain ⟨⟨po, pe⟩, hpo⟩ : ∃ z, pofS gs k = z := ⟨_, rfl⟩
  obtain ⟨C, hC⟩ : ∃ z, (⟨n, s, a, b, g, t, d, e⟩ : Cl).good po = z := ⟨_, rfl⟩
  have hCG := fun W => hCG po W
  rw [hR, hRV] at H0
  rw [hR, hRV, hpo] at H1 H2 H3
  simp only at H1 H2 H3
  rw [hC] at H2 H3
  rw [hR] at HIN
  rw [hpo] at HOI
  simp only [hR] at hGD
  simp only [hpo] at hOF
  rw [show cgoodS po n s a b g t d e = C from hC] at hCG
  rw [hRV]
  obtain ⟨tk, htk⟩ : ∃ z, text key = z := ⟨_, rfl⟩
  rw [htk] at hGD hCP ⊢
  have HTK := Lib.hid htk
  have hb := ((alloc_below w (.cells #[.string tk, .slice x2 m cap2] 25)).alloc (by simp) (.cells #[.int .i64 n, .int .i64 s, .int .i64 a, .int .i64 b, .bool g, .string (text t), .int .i64 d, .int .i64 e] 50)).alloc (by simp; omega) (.cells #[.string ⟨#[]⟩, .slice none 0 0] 25)
  have hr : (((w.alloc (.cells #[.string tk, .slice x2 m cap2] 25)).alloc (.cells #[.int .i64 n, .int .i64 s, .int .i64 a, .int .i64 b, .bool g, .string (text t), .int .i64 d, .int .i64 e] 50)).alloc (.cells #[.string ⟨#[]⟩, .slice none 0 0] 25)).heap[w.heap.size]? = some (.cells #[.string tk, .slice x2 m cap2] 25 (0, 0)) := (Below.heap_alloc _ _ _ (by simp; omega)).trans ((Below.heap_alloc _ _ _ (by simp)).trans (heap_alloc_new w _))
  have hc : Cel (((w.alloc (.cells #[.string tk, .slice x2 m cap2] 25)).alloc (.cells #[.int .i64 n, .int .i64 s, .int .i64 a, .int .i64 b, .bool g, .string (text t), .int .i64 d, .int .i64 e] 50)).alloc (.cells #[.string ⟨#[]⟩, .slice none 0 0] 25)) (w.heap.size + 1) n s a b g t d e := by
    have := (Cel.new (w.alloc (.cells #[.string tk, .slice x2 m cap2] 25)) n s a b g t d e).kept (alloc_below _ (.cells #[.string ⟨#[]⟩, .slice none 0 0] 25))
    rwa [World.size_alloc] at this
  have hz := heap_alloc_new ((w.alloc (.cells #[.string tk, .slice x2 m cap2] 25)).alloc (.cells #[.int .i64 n, .int .i64 s, .int .i64 a, .int .i64 b, .bool g, .string (text t), .int .i64 d, .int .i64 e] 50)) (.cells #[.string ⟨#[]⟩, .slice none 0 0] 25)
  simp only [World.size_alloc] at hz
  have HGD := Lib.hid hGD
  have HOF := Lib.hid hOF
  have HCG := Lib.hid hCG
  have HCP := Lib.hid hCP
  clear hGD hOF hCG hCP hRV hR hpo hC htk hg hs hl hx hk ht
  go_enter Tryd.func23, Tryd.ntmps23
  go_upto_region 1 with (fail)
  obtain ⟨B, hB⟩ : ∃ q, w.heap.size = q := ⟨_, rfl⟩
  have HBe := Lib.hid hB
  rw [hB] at hr hc hz ⊢
  clear hB
  generalize ((w.alloc (.cells #[.string tk, .slice x2 m cap2] 25)).alloc (.cells #[.int .i64 n, .int .i64 s, .int .i64 a, .int .i64 b, .bool g, .string (text t), .int .i64 d, .int .i64 e] 50)).alloc (.cells #[.string ⟨#[]⟩, .slice none 0 0] 25) = W1 at *
  obtain ⟨r0, r1, -⟩ := row_cells hr
  have HR1 := Lib.hid hr
  have HC1 := Lib.hid hc
  have HZ1 := Lib.hid hz
  have HB1 := Lib.hid hb
  clear hr hc hz hb
  have hbad : ∀ (f : Int), RV = ([], [], f) → ∀ (W : World), Below W1.heap.size W1 W → RowPost RV w (.returned (.tuple #[.agg #[.string ⟨#[]⟩, .slice none 0 0], .int .i64 f])) ((W.setCell ⟨B + 1 + 1, 0, none⟩ (.string ⟨#[]⟩)).setCell ⟨B + 1 + 1, 1, none⟩ (.slice none 0 0)) := fun f h W hW => by
    rw [h]
    exact ⟨_, rfl, OwnC.nil _ _, ((HB1.out.trans (hW.mono HB1.out.size)).setCell (p := ⟨B + 1 + 1, 0, none⟩) (by have := HBe.out; simp; omega) _).setCell (p := ⟨B + 1 + 1, 1, none⟩) (by have := HBe.out; simp; omega) _⟩
  have HBAD := Lib.hid hbad
  clear hbad
  by_cases h0 : R = 0
  · subst h0
    have hpg := (HIN.out rfl).1
    have hlen := (HIN.out rfl).2.2.1
    have h4 := pgood_len hpg
    by_cases h1 : pe = 0
    · subst h1
      obtain ⟨hk0, hk1⟩ := HOI.out hpg (by first | rfl | trivial)
      obtain ⟨i, rfl⟩ : ∃ i : Nat, k = (i : Int) := ⟨k.toNat, by omega⟩
      cases C with
      | true =>
        have HRR := Lib.hid (H3.out (by first | rfl | trivial) (by first | rfl | trivial) (by first | rfl | trivial))
        simp only [Int.toNat_natCast] at HRR
        have hlk : i < cs.length := by omega
        have hlm : i < m := by omega
        have hm4 : m ≤ 4 := by omega
        have hkim : (i : Int) < (m : Int) := by omega
        have hkic : (i : Int) < (cap2 : Int) := by omega
        clear H0 H1 H2 H3 HIN HOI hpg hlen
        go_upto_region 9 with (first
          | (go_at_call 14; (with_reducible refine (HGD.out _ HB1.out).mono ?_); rintro e9 w2 ⟨rfl, hb2⟩; have HX2 := Lib.hid hb2; have HBx := Lib.hid (HB1.out.trans (hb2.mono HB1.out.size)); clear hb2)
          | (go_at_call 48; (with_reducible refine (HOF.out _ HBx.out).mono ?_); rintro e9 w3 ⟨rfl, hb3⟩; have HX3 := Lib.hid (HX2.out.trans (hb3.mono HX2.out.size)); clear hb3; obtain ⟨c0, c1, c2, c3, c4, c5, c6, c7⟩ := (HC1.out.kept HX3.out).cs)
          | (go_at_call 42; (with_reducible refine (HCG.out _).mono ?_); rintro e9 w4 ⟨rfl, hb4⟩; have HX4 := Lib.hid (HX3.out.trans (hb4.mono HX3.out.size)); clear hb4))
        have HB4 := Lib.hid (HB1.out.trans (HX4.out.mono HB1.out.size))
        have hr4 := heap_below HR1.out HX4.out
        have hc4 := HC1.out.kept HX4.out
        have hz4 := heap_below HZ1.out HX4.out
        clear r0 r1 c0 c1 c2 c3 c4 c5 c6 c7 HX2 HX3 HX4 HBx HR1 HC1 HZ1 HB1 HGD HOF HCG HBAD
        obtain ⟨r0, r1, -⟩ := row_cells hr4
        have HR4 := Lib.hid hr4
        have HC4 := Lib.hid hc4
        have HZ4 := Lib.hid hz4
        clear hr4 hc4 hz4
        go_upto_region 10 with (go_at_call 49; (with_reducible refine (HCP.out (by omega) _ HB4.out).mono ?_); rintro e9 w5 ⟨gg, rfl, hgg, hgc, hb5⟩)
        have hal := alloc_below w5 (.cells #[.string tk, .slice (some ⟨gg, 0, none⟩) m m] 25)
        have HS := Lib.hid (heap_alloc_new w5 (.cells #[.string tk, .slice (some ⟨gg, 0, none⟩) m m] 25))
        have HG := Lib.hid (heap_below hgc hal)
        have HO := Lib.hid (heap_below (heap_below HR4.out hb5) hal)
        have HC5 := Lib.hid ((HC4.out.kept hb5).kept hal)
        have HZ5 := Lib.hid (heap_below (heap_below HZ4.out hb5) hal)
        have HB3 := Lib.hid ((HB4.out.trans (hb5.mono HB4.out.size)).trans (hal.mono (Nat.le_trans HB4.out.size hb5.size)))
        have HGB := Lib.hid (Nat.le_trans HB4.out.size hgg)
        have HGS := Lib.hid (show gg < w5.heap.size from (Array.getElem?_eq_some_iff.1 hgc).1)
        have HZS := Lib.hid (show B + 1 + 1 < gg from Nat.lt_of_lt_of_le (Array.getElem?_eq_some_iff.1 HZ4.out).1 hgg)
        obtain ⟨S, hS⟩ : ∃ q, w5.heap.size = q := ⟨_, rfl⟩
        rw [hS] at HS HGS ⊢
        generalize w5.alloc (.cells #[.string tk, .slice (some ⟨gg, 0, none⟩) m m] 25) = W5 at *
        clear hal hb5 hgc hgg hS r0 r1 HR4 HC4 HZ4 HCP
        obtain ⟨bk, off, rfl, hat⟩ := HL.out.at hlm
        obtain ⟨y, hck⟩ : ∃ y, cs.getD i Cl.zero = y := ⟨_, rfl⟩
        rw [hck] at hat HRR
        obtain ⟨n', s', a', b', g', t', d', e'⟩ := y
        obtain ⟨y, hj⟩ : ∃ y, joinC [⟨n', s', a', b', g', t', d', e'⟩, ⟨n, s, a, b, g, t, d, e⟩] = y := ⟨_, rfl⟩
        rw [hj] at HRR
        obtain ⟨n9, s9, a9, b9, g9, t9, d9, e9⟩ := y
        have HJ9 := Lib.hid hj
        have HCK := Lib.hid hck
        have HPW := Lib.hid (fun W (h : Below W5.heap.size W5 W) => hat W (HB3.out.trans (h.mono HB3.out.size)))
        have HSW := Lib.hid (fun W (h : Below W5.heap.size W5 W) => row_cells (heap_below HS.out h))
        have HRW := Lib.hid (fun W (h : Below W5.heap.size W5 W) => row_cells (heap_below HO.out h))
        have HCW := Lib.hid (fun W (h : Below W5.heap.size W5 W) => (HC5.out.kept h).cs)
        clear hat hj hck
        refine wp_region_flow_tail 12 [none, none, none, none, none, none, none, none, none, none, none, none, none, none, none, none, none, none, none, none, none, none, none, none, none, none, none, none, none, none, none, none, none, none, none, none, none, none, none, none, some 0, some 1, some 2, some 3, some 4, some 5, some 6, some 7, some 8, some 9, some 10, some 11, none] (fun i => [undef, undef, undef, undef, undef, undef, undef, undef, undef, undef, undef, undef].getD i undef) [(fun v _ => v = .pointer (some ⟨S, 1, none⟩)), (fun v _ => v = .slice (some ⟨gg, 0, none⟩) m m), (fun v _ => v = .int .i64 (i : Int)), (fun v _ => v = .pointer (some ⟨B, 1, none⟩)), (fun v _ => v = .slice (some ⟨bk, off, none⟩) m cap2), (fun v _ => v = .int .i64 (i : Int)), (fun v _ => v = .pointer (some ⟨bk, off + i * 8, none⟩)), (fun v _ => v = .agg #[.int .i64 n', .int .i64 s', .int .i64 a', .int .i64 b', .bool g', .string (text t'), .int .i64 d', .int .i64 e']), (fun v _ => v = .agg #[.int .i64 n, .int .i64 s, .int .i64 a, .int .i64 b, .bool g, .string (text t), .int .i64 d, .int .i64 e]), (ClsV [⟨n', s', a', b', g', t', d', e'⟩, ⟨n, s, a, b, g, t, d, e⟩]), (fun v _ => v = .agg #[.int .i64 n9, .int .i64 s9, .int .i64 a9, .int .i64 b9, .bool g9, .string (text t9), .int .i64 d9, .int .i64 e9]), (fun v _ => v = .pointer (some ⟨gg, i * 8, none⟩))] (fun _ => False) (by kernel_rfl) (by kernel_rfl) (by kernel_rfl) rfl rfl rfl ?_ ?_ ?_
        · intro g hg v X Y hX hY hv
          simp only [List.mem_cons, List.not_mem_nil, or_false] at hg
          rcases hg with rfl | rfl | rfl | rfl | rfl | rfl | rfl | rfl | rfl | rfl | rfl | rfl
          all_goals first
            | exact hv
            | exact hv.kept hY
        · simp only [flowOpsF, List.take_succ_cons, List.take_zero, and_true]
          refine ⟨?_, ?_, ?_, ?_, ?_, ?_, ?_, ?_, ?_, ?_, ?_, ?_⟩
          · intro xs W hW hn
            simp only [flowAct, List.zipWith_cons_cons, List.zipWith_nil_left]
            go_wp2_with (fail)
            exact ⟨rfl, _, rfl, Below.refl _ _, rfl, fun h => h.elim⟩
          · intro xs W hW hn
            obtain ⟨-, f1, -⟩ := HSW.out W hW
            simp [flowNeeds, Region.binds] at hn
            simp only [flowAct, List.zipWith_cons_cons, List.zipWith_nil_left]
            try simp only [hn]
            go_wp2_with (fail)
            exact ⟨rfl, _, rfl, Below.refl _ _, rfl, fun h => h.elim⟩
          · intro xs W hW hn
            simp only [flowAct, List.zipWith_cons_cons, List.zipWith_nil_left]
            go_wp2_with (fail)
            exact ⟨rfl, _, rfl, Below.refl _ _, rfl, fun h => h.elim⟩
          · intro xs W hW hn
            simp only [flowAct, List.zipWith_cons_cons, List.zipWith_nil_left]
            go_wp2_with (fail)
            exact ⟨rfl, _, rfl, Below.refl _ _, rfl, fun h => h.elim⟩
          · intro xs W hW hn
            obtain ⟨-, f2, -⟩ := HRW.out W hW
            simp [flowNeeds, Region.binds] at hn
            simp only [flowAct, List.zipWith_cons_cons, List.zipWith_nil_left]
            try simp only [hn]
            go_wp2_with (fail)
            exact ⟨rfl, _, rfl, Below.refl _ _, rfl, fun h => h.elim⟩
          · intro xs W hW hn
            simp only [flowAct, List.zipWith_cons_cons, List.zipWith_nil_left]
            go_wp2_with (fail)
            exact ⟨rfl, _, rfl, Below.refl _ _, rfl, fun h => h.elim⟩
          · intro xs W hW hn
            simp [flowNeeds, Region.binds] at hn
            simp only [flowAct, List.zipWith_cons_cons, List.zipWith_nil_left]
            try simp only [hn]
            go_wp2_with (fail)
            exact ⟨rfl, _, rfl, Below.refl _ _, rfl, fun h => h.elim⟩
          · intro xs W hW hn
            obtain ⟨p0, p1, p2, p3, p4, p5, p6, p7⟩ := HPW.out W hW
            simp only at p0 p1 p2 p3 p4 p5 p6 p7
            simp [flowNeeds, Region.binds] at hn
            simp only [flowAct, List.zipWith_cons_cons, List.zipWith_nil_left]
            try simp only [hn]
            go_wp2_with (fail)
            exact ⟨rfl, _, rfl, Below.refl _ _, rfl, fun h => h.elim⟩
          · intro xs W hW hn
            obtain ⟨c0, c1, c2, c3, c4, c5, c6, c7⟩ := HCW.out W hW
            simp only [flowAct, List.zipWith_cons_cons, List.zipWith_nil_left]
            go_wp2_with (fail)
            exact ⟨rfl, _, rfl, Below.refl _ _, rfl, fun h => h.elim⟩
          · intro xs W hW hn
            simp [flowNeeds, Region.binds] at hn
            simp only [flowAct, List.zipWith_cons_cons, List.zipWith_nil_left]
            simp only [hn]
            go_wp2_with (fail)
            exact ⟨rfl, _, rfl, alloc_below _ _, ⟨_, _, _, rfl, cls2 _ _ _ _ _ _ _ _ _ _ _ _ _ _ _ _ _⟩, fun h => h.elim⟩
          · intro xs W hW hn
            simp [flowNeeds, Region.binds] at hn
            obtain ⟨a8, n8, k8, hv8, hc8⟩ := hn
            have HJJ := Lib.hid (join_c hc8)
            rw [HJ9.out] at HJJ
            clear hc8
            simp only [flowAct, List.zipWith_cons_cons, List.zipWith_nil_left]
            simp only [hv8]
            go_wp2_with (go_at_call 31; (with_reducible refine HJJ.out.mono ?_); rintro e9 w9 ⟨rfl, hb9⟩)
            exact ⟨rfl, _, rfl, hb9, rfl, fun h => h.elim⟩
          · intro xs W hW hn
            simp [flowNeeds, Region.binds] at hn
            simp only [flowAct, List.zipWith_cons_cons, List.zipWith_nil_left]
            try simp only [hn]
            go_wp2_with (fail)
            exact ⟨rfl, _, rfl, Below.refl _ _, rfl, fun h => h.elim⟩
        · intro xs W hW hall hfr
          clear hfr
          simp only [flowAll, and_true, Nat.zero_add, Nat.reduceAdd] at hall
          obtain ⟨-, -, -, -, -, -, -, -, -, -, y10, y11⟩ := hall
          simp only [flowAct, List.zipWith_cons_cons, List.zipWith_nil_left, List.drop_succ_cons, List.drop_zero]
          simp only [y10, y11]
          have hgW := heap_below HG.out hW
          have hrW := heap_below HO.out hW
          have hsW := heap_below HS.out hW
          have hbW := HB3.out.trans (hW.mono HB3.out.size)
          have hput := cells_put hgW hlk n9 s9 a9 b9 g9 t9 d9 e9
          have hq : ∀ j, j < 8 → W.cell? ⟨gg, i * 8 + j, none⟩ = (cs.getD i Cl.zero).arr[j]? := fun j hj => by
            rw [cell_of_row W gg _ _ _ (0, 0) hgW, List.getElem?_toArray, cCells_get cs i j hlk hj]
          rw [HCK.out] at hq
          have q0 : W.cell? ⟨gg, i * 8, none⟩ = some (.int .i64 n') := hq 0 (by omega)
          have q1 : W.cell? ⟨gg, i * 8 + 1, none⟩ = some (.int .i64 s') := hq 1 (by omega)
          have q2 : W.cell? ⟨gg, i * 8 + 2, none⟩ = some (.int .i64 a') := hq 2 (by omega)
          have q3 : W.cell? ⟨gg, i * 8 + 3, none⟩ = some (.int .i64 b') := hq 3 (by omega)
          have q4 : W.cell? ⟨gg, i * 8 + 4, none⟩ = some (.bool g') := hq 4 (by omega)
          have q5 : W.cell? ⟨gg, i * 8 + 5, none⟩ = some (.string (text t')) := hq 5 (by omega)
          have q6 : W.cell? ⟨gg, i * 8 + 6, none⟩ = some (.int .i64 d') := hq 6 (by omega)
          have q7 : W.cell? ⟨gg, i * 8 + 7, none⟩ = some (.int .i64 e') := hq 7 (by omega)
          have hqf : ∀ j, W.frozen? ⟨gg, j, none⟩ = false := fun j => frozen_of_row _ gg j _ _ hgW
          have hgs := HGS.out
          have hzs := HZS.out
          have hsP := (cells_put_other (W := W) (g := gg) (k := i) (q := S) (by omega) n9 s9 a9 b9 g9 t9 d9 e9).trans hsW
          have hzP := (cells_put_other (W := W) (g := gg) (k := i) (q := B + 1 + 1) (by omega) n9 s9 a9 b9 g9 t9 d9 e9).trans (heap_below HZ5.out hW)
          have hbP := cells_put_below (k := i) hbW HGB.out n9 s9 a9 b9 g9 t9 d9 e9
          have HPUT := Lib.hid hput
          have HSP := Lib.hid hsP
          have HZP := Lib.hid hzP
          have HBP := Lib.hid hbP
          clear hq hput hsP hzP hbP hgW hrW hsW hbW hgs hzs
          go_upto_region 11 with (fail)
          obtain ⟨Wp, hWp⟩ : ∃ X, ((((((((W.setCell ⟨gg, i * 8, none⟩ (.int .i64 n9)).setCell ⟨gg, i * 8 + 1, none⟩ (.int .i64 s9)).setCell ⟨gg, i * 8 + 2, none⟩ (.int .i64 a9)).setCell ⟨gg, i * 8 + 3, none⟩ (.int .i64 b9)).setCell ⟨gg, i * 8 + 4, none⟩ (.bool g9)).setCell ⟨gg, i * 8 + 5, none⟩ (.string (text t9))).setCell ⟨gg, i * 8 + 6, none⟩ (.int .i64 d9)).setCell ⟨gg, i * 8 + 7, none⟩ (.int .i64 e9)) = X := ⟨_, rfl⟩
          rw [hWp] at HPUT HSP HZP HBP ⊢
          clear hWp q0 q1 q2 q3 q4 q5 q6 q7 hqf
          obtain ⟨s0, s1, -⟩ := row_cells HSP.out
          obtain ⟨z0, z1, zf⟩ := row_cells HZP.out
          have hzs := HZS.out
          have HFIN := Lib.hid (row_set HZP.out tk (.slice (some ⟨gg, 0, none⟩) m m))
          have HFB := Lib.hid ((HBP.out.setCell (p := ⟨B + 1 + 1, 0, none⟩) (by have := HBe.out; simp; omega) (.string tk)).setCell (p := ⟨B + 1 + 1, 1, none⟩) (by have := HBe.out; simp; omega) (.slice (some ⟨gg, 0, none⟩) m m))
          have HFG := Lib.hid ((Below.heap_setCell (Wp.setCell ⟨B + 1 + 1, 0, none⟩ (.string tk)) ⟨B + 1 + 1, 1, none⟩ (.slice (some ⟨gg, 0, none⟩) m m) gg (by simp; omega)).trans ((Below.heap_setCell Wp ⟨B + 1 + 1, 0, none⟩ (.string tk) gg (by simp; omega)).trans HPUT.out))
          go_wp2
          refine bodyPost_ret (res_cell_tmp rfl _ _ (B + 1 + 1) 25 _ (0, 0) _ (.int .i64 0) rfl rfl HFIN.out Tryd.underlying25 rfl (by kernel_rfl)) rfl ?_
          rw [HRR.out]
          exact ⟨_, by rw [HTK.out], own_lit HFG.out HGB.out (by rw [List.length_set]; exact hll) (by omega), HFB.out⟩
      | false =>
        have HRR := Lib.hid (H2.out (by first | rfl | trivial) (by first | rfl | trivial) (by first | rfl | trivial))
        clear H0 H1 H2 H3 HIN HOI hpg hlen
        go_wp2_with (first
          | (go_at_call 14; (with_reducible refine (HGD.out _ HB1.out).mono ?_); rintro e9 w2 ⟨rfl, hb2⟩; have HX2 := Lib.hid hb2; have HBx := Lib.hid (HB1.out.trans (hb2.mono HB1.out.size)); clear hb2)
          | (go_at_call 48; (with_reducible refine (HOF.out _ HBx.out).mono ?_); rintro e9 w3 ⟨rfl, hb3⟩; have HX3 := Lib.hid (HX2.out.trans (hb3.mono HX2.out.size)); clear hb3; obtain ⟨c0, c1, c2, c3, c4, c5, c6, c7⟩ := (HC1.out.kept HX3.out).cs)
          | (go_at_call 42; (with_reducible refine (HCG.out _).mono ?_); rintro e9 w4 ⟨rfl, hb4⟩; have HX4 := Lib.hid (HX3.out.trans (hb4.mono HX3.out.size)); clear hb4; obtain ⟨z0, z1, zf⟩ := row_cells (heap_below HZ1.out HX4.out)))
        exact bodyPost_ret (res_cell_tmp rfl _ _ (B + 1 + 1) 25 _ (0, 0) _ (.int .i64 80) rfl rfl (row_set (heap_below HZ1.out HX4.out) ⟨#[]⟩ (.slice none 0 0)) Tryd.underlying25 rfl (by kernel_rfl)) rfl (HBAD.out _ HRR.out _ HX4.out)
    · have h1n : (pe != 0) = true := by simpa using h1
      have HRR := Lib.hid (H1.out (by first | rfl | trivial) h1)
      clear H0 H1 H2 H3 HIN HOI hpg hlen h1
      go_wp2_with (first
        | (go_at_call 14; (with_reducible refine (HGD.out _ HB1.out).mono ?_); rintro e9 w2 ⟨rfl, hb2⟩; have HX2 := Lib.hid hb2; have HBx := Lib.hid (HB1.out.trans (hb2.mono HB1.out.size)); clear hb2)
        | (go_at_call 48; (with_reducible refine (HOF.out _ HBx.out).mono ?_); rintro e9 w3 ⟨rfl, hb3⟩; have HX3 := Lib.hid (HX2.out.trans (hb3.mono HX2.out.size)); clear hb3; obtain ⟨z0, z1, zf⟩ := row_cells (heap_below HZ1.out HX3.out)))
      exact bodyPost_ret (res_cell_tmp rfl _ _ (B + 1 + 1) 25 _ (0, 0) _ (.int .i64 pe) rfl rfl (row_set (heap_below HZ1.out HX3.out) ⟨#[]⟩ (.slice none 0 0)) Tryd.underlying25 rfl (by kernel_rfl)) rfl (HBAD.out _ HRR.out _ HX3.out)
  · have h0n : (R != 0) = true := by simpa using h0
    have HRR := Lib.hid (H0.out h0)
    clear H0 H1 H2 H3 HIN HOI h0
    go_wp2_with (go_at_call 14; (with_reducible refine (HGD.out _ HB1.out).mono ?_); rintro e9 w2 ⟨rfl, hb2⟩; have HX2 := Lib.hid hb2; clear hb2; obtain ⟨z0, z1, zf⟩ := row_cells (heap_below HZ1.out HX2.out))
    exact bodyPost_ret (res_cell_tmp rfl _ _ (B + 1 + 1) 25 _ (0, 0) _ (.int .i64 R) rfl rfl (row_set (heap_below HZ1.out HX2.out) ⟨#[]⟩ (.slice none 0 0)) Tryd.underlying25 rfl (by kernel_rfl)) rfl (HBAD.out _ HRR.out _ HX2.out)
end Go.Proofs.YtkjpmdpljdgcjaaDoor
end

section
/-
  Row: the program's Join.
-/
namespace Go.Proofs.YtkjpmdpljdgcjaaDoor
open Go.RowKit Go Go.Sort
set_option linter.unusedVariables false
set_option maxRecDepth 20000

attribute [local go_sem] Oper.semAt_some
/-- The cells of a join, up to a place. -/
def zipN (ca cb : List Cl) : Nat → List Cl
  | 0 => ca
  | k + 1 => (zipN ca cb k).set k (joinC [ca.getD k Cl.zero, cb.getD k Cl.zero])
theorem zipN_len (ca cb : List Cl) : ∀ k, (zipN ca cb k).length = ca.length
  | 0 => rfl
  | k + 1 => by show ((zipN ca cb k).set k _).length = _; rw [List.length_set]; exact zipN_len ca cb k
theorem zipN_get (ca cb : List Cl) (i : Nat) (hi : i < ca.length) : ∀ k, (zipN ca cb k).getD i Cl.zero = if i < k then joinC [ca.getD i Cl.zero, cb.getD i Cl.zero] else ca.getD i Cl.zero
  | 0 => by simp [zipN]
  | k + 1 => by
    have ih := zipN_get ca cb i hi k
    have hl := zipN_len ca cb k
    show ((zipN ca cb k).set k _).getD i Cl.zero = _
    rw [List.getD_eq_getElem?_getD, List.getElem?_set]
    by_cases e : k = i
    · subst e; simp [hl, hi]
    · rw [if_neg e, ← List.getD_eq_getElem?_getD, ih]
      by_cases h : i < k
      · rw [if_pos h, if_pos (by omega)]
      · rw [if_neg h, if_neg (by omega)]
theorem rowidx0 (a b : ByteArray) (xa xb : Option Addr) (m n c e : Nat) (W : World) : (Instr.index 96 (.agg #[.string a, .slice xa m c, .string b, .slice xb n e]) (.int .i64 0)).run Tryd.prog W = .ok (.agg #[.string a, .slice xa m c]) W := by kernel_rfl
theorem rowidx1 (a b : ByteArray) (xa xb : Option Addr) (m n c e : Nat) (W : World) : (Instr.index 96 (.agg #[.string a, .slice xa m c, .string b, .slice xb n e]) (.int .i64 1)).run Tryd.prog W = .ok (.agg #[.string b, .slice xb n e]) W := by kernel_rfl
/-- Two rows of one key, put together, or why not. -/
def rjoinS (gs : List Grp) (ka : List UInt8) (ca : List Cl) (kb : List UInt8) (cb : List Cl) : List UInt8 × List Cl × Int :=
  if ¬ rgoodS gs ka ca = 0 then ([], [], rgoodS gs ka ca) else if ¬ rgoodS gs kb cb = 0 then ([], [], rgoodS gs kb cb) else if ¬ ka = kb then ([], [], 100) else (ka, zipN ca cb ca.length, 0)

/-- Between two rounds. -/
def JoinI (ca cb : List Cl) (oS oA oZ : Obj) (n₀ gg S B Z base : Nat) (w : World) (xs : List Nat) (W : World) : Prop :=
  W.heap[gg]? = some (.cells (cCells (zipN ca cb xs.length)).toArray 50 (0, 0)) ∧ W.heap[S]? = some oS ∧ W.heap[B]? = some oA ∧ W.heap[Z]? = some oZ ∧ Below n₀ w W ∧ base ≤ W.heap.size
theorem JoinI.own {ca cb : List Cl} {c1 c2 c3 : Array Value} {n₀ gg S B Z base B9 : Nat} {w : World} (h1 : n₀ ≤ B9) (h2 : n₀ ≤ base) : OwnT B9 87 (JoinI ca cb (.cells c1 25 (0, 0)) (.cells c2 25 (0, 0)) (.cells c3 25 (0, 0)) n₀ gg S B Z base w) := by
  rintro xs X Y row ⟨hg, hS, hB, hZ, hw, hs⟩ hgr hr
  exact ⟨turn_keep hgr hr hg (by decide), turn_keep hgr hr hS (by decide), turn_keep hgr hr hB (by decide), turn_keep hgr hr hZ (by decide), turn_below hgr hr h1 (Nat.le_trans h2 hs) hw, Nat.le_trans hs hgr.size⟩
theorem leaves_put {T : TypeId} {base : Nat} (W : World) (g k : Nat) (n9 s9 a9 b9 : Int) (g9 : Bool) (t9 : List UInt8) (d9 e9 : Int) : LeavesT T (fun j => j = g) base W (((((((((W.setCell ⟨g, k * 8, none⟩ (.int .i64 n9)).setCell ⟨g, k * 8 + 1, none⟩ (.int .i64 s9)).setCell ⟨g, k * 8 + 2, none⟩ (.int .i64 a9)).setCell ⟨g, k * 8 + 3, none⟩ (.int .i64 b9)).setCell ⟨g, k * 8 + 4, none⟩ (.bool g9)).setCell ⟨g, k * 8 + 5, none⟩ (.string (text t9))).setCell ⟨g, k * 8 + 6, none⟩ (.int .i64 d9)).setCell ⟨g, k * 8 + 7, none⟩ (.int .i64 e9))) :=
  ⟨(cells_put_below (w := W) (k := k) (Below.refl 0 W) (Nat.zero_le g) n9 s9 a9 b9 g9 t9 d9 e9).size, fun j o hj hb _ => (cells_put_other hb n9 s9 a9 b9 g9 t9 d9 e9).trans hj⟩

set_option maxRecDepth 100000 in
set_option maxHeartbeats 12800000 in
theorem rowjoin_c {w : World} {x xa xb : Option Addr} {n1 cap ma capa mb capb : Nat} {gs : List Grp} {ca cb : List Cl} (hg : Grs w x n1 cap gs) (hs : ∀ g ∈ gs, g.1.length ≤ 9223372036854775807)
    (hla : Cls w xa ma capa ca) (hxa : ∀ c ∈ ca, c.t.length ≤ 9223372036854775807) (ka : List UInt8) (hka : ka.length ≤ 9223372036854775807)
    (hlb : Cls w xb mb capb cb) (hxb : ∀ c ∈ cb, c.t.length ≤ 9223372036854775807) (kb : List UInt8) (hkb : kb.length ≤ 9223372036854775807) :
    Calls Tryd.prog 25 #[.slice x n1 cap, .agg #[.string (text ka), .slice xa ma capa], .agg #[.string (text kb), .slice xb mb capb]] w (RowPost (rjoinS gs ka ca kb cb) w) := by
  have hgl := hg.len
  have hal := hla.len
  have hbl := hlb.len
  have hlea := hla.le
  have hmaxa := hla.max
  have hleb := hlb.le
  have hmaxb := hlb.max
  have hGA := fun W (h : Below w.heap.size w W) => rowgood_c (hg.below h) hs (hla.below h) hxa ka hka
  have hGB := fun W (h : Below w.heap.size w W) => rowgood_c (hg.below h) hs (hlb.below h) hxb kb hkb
  have hCP := fun (hm : ma ≤ 1000000) W (h : Below w.heap.size w W) => copied_c (hla.below h) hm (text ka)
  have HIA := Lib.hid (@rgood_inv gs ka ca)
  have HIB := Lib.hid (@rgood_inv gs kb cb)
  have hts := text_same ka kb
  obtain ⟨RA, hRA⟩ : ∃ z, rgoodS gs ka ca = z := ⟨_, rfl⟩
  obtain ⟨RB, hRB⟩ : ∃ z, rgoodS gs kb cb = z := ⟨_, rfl⟩
  have hRV : rjoinS gs ka ca kb cb = if ¬ RA = 0 then ([], [], RA) else if ¬ RB = 0 then ([], [], RB) else if ¬ ka = kb then ([], [], 100) else (ka, zipN ca cb ca.length, 0) := by unfold rjoinS; rw [hRA, hRB]
  simp only [hRA] at hGA
  simp only [hRB] at hGB
  rw [hRA] at HIA
  rw [hRB] at HIB
  obtain ⟨RV, hRVe⟩ : ∃ z, rjoinS gs ka ca kb cb = z := ⟨_, rfl⟩
  rw [hRVe] at hRV ⊢
  obtain ⟨tka, htka⟩ : ∃ z, text ka = z := ⟨_, rfl⟩
  obtain ⟨tkb, htkb⟩ : ∃ z, text kb = z := ⟨_, rfl⟩
  rw [htka] at hGA hCP ⊢
  rw [htkb] at hGB ⊢
  rw [htka, htkb] at hts
  obtain ⟨KE, hKE⟩ : ∃ z, decide (ka = kb) = z := ⟨_, rfl⟩
  rw [hKE] at hts
  have HTK := Lib.hid htka
  have HRV := Lib.hid hRV
  have HKE := Lib.hid hKE
  have HGA := Lib.hid hGA
  have HGB := Lib.hid hGB
  have HCP := Lib.hid hCP
  have hb := ((alloc_below w (.cells #[.string tka, .slice xa ma capa] 25)).alloc (by simp) (.cells #[.string tkb, .slice xb mb capb] 25)).alloc (by simp; omega) (.cells #[.string ⟨#[]⟩, .slice none 0 0] 25)
  have hra : (((w.alloc (.cells #[.string tka, .slice xa ma capa] 25)).alloc (.cells #[.string tkb, .slice xb mb capb] 25)).alloc (.cells #[.string ⟨#[]⟩, .slice none 0 0] 25)).heap[w.heap.size]? = some (.cells #[.string tka, .slice xa ma capa] 25 (0, 0)) := (Below.heap_alloc _ _ _ (by simp; omega)).trans ((Below.heap_alloc _ _ _ (by simp)).trans (heap_alloc_new w _))
  have hrb := heap_below (heap_alloc_new (w.alloc (.cells #[.string tka, .slice xa ma capa] 25)) (.cells #[.string tkb, .slice xb mb capb] 25)) (alloc_below _ (.cells #[.string ⟨#[]⟩, .slice none 0 0] 25))
  have hz := heap_alloc_new ((w.alloc (.cells #[.string tka, .slice xa ma capa] 25)).alloc (.cells #[.string tkb, .slice xb mb capb] 25)) (.cells #[.string ⟨#[]⟩, .slice none 0 0] 25)
  simp only [World.size_alloc] at hrb hz
  clear hGA hGB hCP hRA hRB hRV hRVe htka htkb hKE
  have hi0 := rowidx0 tka tkb xa xb ma mb capa capb
  have hi1 := rowidx1 tka tkb xa xb ma mb capa capb
  refine (callsIn_wide (n := 3)).1 ?_
  refine callsIn_of_wp_marks Tryd.func25 rfl trivial ?_ rfl
  simp only [Tryd.ntmps25, List.size_toArray, List.length_cons, List.length_nil, Nat.reduceAdd, Nat.reduceSub, Array.replicate_succ, Array.replicate_zero, List.push_toArray, List.append_toArray, List.nil_append, List.cons_append]
  refine wpIn_wide.2 ?_
  go_upto_region 1 with (fail)
  obtain ⟨B, hB⟩ : ∃ q, w.heap.size = q := ⟨_, rfl⟩
  have HBe := Lib.hid hB
  rw [hB] at hra hrb hz ⊢
  clear hB
  generalize ((w.alloc (.cells #[.string tka, .slice xa ma capa] 25)).alloc (.cells #[.string tkb, .slice xb mb capb] 25)).alloc (.cells #[.string ⟨#[]⟩, .slice none 0 0] 25) = W1 at *
  obtain ⟨r0, r1, -⟩ := row_cells hra
  obtain ⟨s0, s1, -⟩ := row_cells hrb
  have HA1 := Lib.hid hra
  have HR1 := Lib.hid hrb
  have HZ1 := Lib.hid hz
  have HB1 := Lib.hid hb
  clear hra hrb hz hb
  go_wp2
  refine wp_loop_rounds 3 ?_
  rw [rounds_succ]
  obtain ⟨u0, u1, -⟩ := row_cells (heap_alloc_new W1 (.cells #[.string tka, .slice xa ma capa] 25))
  have HBa := Lib.hid (HB1.out.alloc HB1.out.size (.cells #[.string tka, .slice xa ma capa] 25))
  have hal1 := alloc_below W1 (.cells #[.string tka, .slice xa ma capa] 25)
  have HA2 := Lib.hid (heap_below HA1.out hal1)
  have HR2 := Lib.hid (heap_below HR1.out hal1)
  have HZ2 := Lib.hid (heap_below HZ1.out hal1)
  have hbad : ∀ (f : Int), RV = ([], [], f) → ∀ (W : World), Below w.heap.size w W → RowPost RV w (.returned (.tuple #[.agg #[.string ⟨#[]⟩, .slice none 0 0], .int .i64 f])) ((W.setCell ⟨B + 1 + 1, 0, none⟩ (.string ⟨#[]⟩)).setCell ⟨B + 1 + 1, 1, none⟩ (.slice none 0 0)) := fun f h W hW => by
    rw [h]
    exact ⟨_, rfl, OwnC.nil _ _, (hW.setCell (p := ⟨B + 1 + 1, 0, none⟩) (by have := HBe.out; simp; omega) _).setCell (p := ⟨B + 1 + 1, 1, none⟩) (by have := HBe.out; simp; omega) _⟩
  have HBAD := Lib.hid hbad
  clear hbad hal1 r0 r1 s0 s1
  by_cases h0 : RA = 0
  · subst h0
    go_wp2_with (go_at_call 14; (with_reducible refine (HGA.out _ HBa.out).mono ?_); rintro e9 w2 ⟨rfl, hb2⟩; have HB2 := Lib.hid (HBa.out.trans (hb2.mono HBa.out.size)); have HA3 := Lib.hid (heap_below HA2.out hb2); have HR3 := Lib.hid (heap_below HR2.out hb2); have HZ3 := Lib.hid (heap_below HZ2.out hb2); clear hb2 u0 u1)
    rw [rounds_succ]
    clear HA1 HA2 HR1 HR2 HZ1 HZ2 HB1 HBa HGA
    obtain ⟨u0, u1, -⟩ := row_cells (heap_alloc_new w2 (.cells #[.string tkb, .slice xb mb capb] 25))
    have HBb := Lib.hid (HB2.out.alloc HB2.out.size (.cells #[.string tkb, .slice xb mb capb] 25))
    have hal2 := alloc_below w2 (.cells #[.string tkb, .slice xb mb capb] 25)
    have HA4 := Lib.hid (heap_below HA3.out hal2)
    have HR4 := Lib.hid (heap_below HR3.out hal2)
    have HZ4 := Lib.hid (heap_below HZ3.out hal2)
    clear hal2 HA3 HR3 HZ3
    by_cases h1 : RB = 0
    · subst h1
      go_wp2_with (go_at_call 14; (with_reducible refine (HGB.out _ HBb.out).mono ?_); rintro e9 w3 ⟨rfl, hb3⟩; have HB3 := Lib.hid (HBb.out.trans (hb3.mono HBb.out.size)); have HA5 := Lib.hid (heap_below HA4.out hb3); have HR5 := Lib.hid (heap_below HR4.out hb3); have HZ5 := Lib.hid (heap_below HZ4.out hb3); clear hb3 u0 u1)
      rw [rounds_succ]
      clear HA4 HR4 HZ4 HBb HGB HB2
      obtain ⟨r0, r1, -⟩ := row_cells HA5.out
      obtain ⟨s0, s1, -⟩ := row_cells HR5.out
      cases KE with
      | false =>
        have HRR := Lib.hid (show RV = ([], [], 100) by rw [HRV.out, if_neg (by simp), if_neg (by simp), if_pos (of_decide_eq_false HKE.out)])
        obtain ⟨z0, z1, zf⟩ := row_cells HZ5.out
        go_wp2
        exact ⟨_, res_cell_tmp rfl _ _ (B + 1 + 1) 25 _ (0, 0) _ (.int .i64 100) rfl rfl (row_set HZ5.out ⟨#[]⟩ (.slice none 0 0)) Tryd.underlying25 rfl (by kernel_rfl), HBAD.out _ HRR.out _ HB3.out⟩
      | true =>
        have hkk : ka = kb := of_decide_eq_true HKE.out
        have HRR := Lib.hid (show RV = (ka, zipN ca cb ca.length, 0) by rw [HRV.out, if_neg (by simp), if_neg (by simp), if_neg (by simp [hkk])])
        have hpg := (HIA.out (by first | rfl | trivial)).1
        have hla2 := (HIA.out (by first | rfl | trivial)).2.2.1
        have hlb2 := (HIB.out (by first | rfl | trivial)).2.2.1
        have h4 := pgood_len hpg
        have hma : ma = n1 := by omega
        have hmb : mb = n1 := by omega
        subst hma
        subst hmb
        have hm4 : mb ≤ 4 := by omega
        clear HIA HIB hpg hla2 hlb2 hkk HRV HKE HBAD
        go_upto_region 11 with (go_at_call 49; (with_reducible refine (HCP.out (by omega) _ HB3.out).mono ?_); rintro e9 w5 ⟨gg, rfl, hgg, hgc, hb5⟩)
        have hal := alloc_below w5 (.cells #[.string tka, .slice (some ⟨gg, 0, none⟩) mb mb] 25)
        have HS6 := Lib.hid (heap_alloc_new w5 (.cells #[.string tka, .slice (some ⟨gg, 0, none⟩) mb mb] 25))
        have HG6 := Lib.hid (heap_below hgc hal)
        have HA6 := Lib.hid (heap_below (heap_below HA5.out hb5) hal)
        have HR6 := Lib.hid (heap_below (heap_below HR5.out hb5) hal)
        have HZ6 := Lib.hid (heap_below (heap_below HZ5.out hb5) hal)
        have HB6 := Lib.hid ((HB3.out.trans (hb5.mono HB3.out.size)).trans (hal.mono (Nat.le_trans HB3.out.size hb5.size)))
        have HGB := Lib.hid (Nat.le_trans HB3.out.size hgg)
        have HGS := Lib.hid (show gg < w5.heap.size from (Array.getElem?_eq_some_iff.1 hgc).1)
        have HZS := Lib.hid (show B + 1 + 1 < gg from Nat.lt_of_lt_of_le (Array.getElem?_eq_some_iff.1 HZ5.out).1 hgg)
        obtain ⟨S, hS⟩ : ∃ q, w5.heap.size = q := ⟨_, rfl⟩
        rw [hS] at HS6 HGS ⊢
        generalize w5.alloc (.cells #[.string tka, .slice (some ⟨gg, 0, none⟩) mb mb] 25) = W6 at *
        clear hal hb5 hgc hgg hS r0 r1 s0 s1 HA5 HR5 HZ5 HB3 HCP hi0 hi1 hts
        obtain ⟨s0, s1, -⟩ := row_cells HR6.out
        go_wp2_with (go_at_call 38; (with_reducible refine places_c.mono ?_); rintro e9 w7 ⟨rfl, rfl⟩)
        have bL := heap_alloc_new W6 (.cells #[.slice x mb cap] 22)
        have bR := heap_alloc_new (W6.alloc (.cells #[.slice x mb cap] 22)) (.cells #[.string tkb, .slice xb mb capb] 25)
        replace bL := (Below.heap_alloc (W6.alloc (.cells #[.slice x mb cap] 22)) (.cells #[.string tkb, .slice xb mb capb] 25) W6.heap.size (by simp)).trans bL
        simp only [World.size_alloc] at bR
        have hbW := (alloc_below W6 (.cells #[.slice x mb cap] 22)).alloc (by simp) (.cells #[.string tkb, .slice xb mb capb] 25)
        have hsz : ((W6.alloc (.cells #[.slice x mb cap] 22)).alloc (.cells #[.string tkb, .slice xb mb capb] 25)).heap.size = W6.heap.size + 1 + 1 := by simp
        have hSlt : S < W6.heap.size := (Array.getElem?_eq_some_iff.1 HS6.out).1
        obtain ⟨W0, hW0⟩ : ∃ W0, (W6.alloc (.cells #[.slice x mb cap] 22)).alloc (.cells #[.string tkb, .slice xb mb capb] 25) = W0 := ⟨_, rfl⟩
        rw [hW0] at bL bR hbW hsz ⊢
        clear hW0
        have hB0 := HB6.out.trans (hbW.mono HB6.out.size)
        have hS0 := heap_below HS6.out hbW
        have hA0 := heap_below HA6.out hbW
        have hZ0 := heap_below HZ6.out hbW
        have hG0' := heap_below HG6.out hbW
        obtain ⟨G0, hG⟩ : ∃ q, W6.heap.size = q := ⟨_, rfl⟩
        rw [hG] at bL bR hsz hSlt ⊢
        have HSZ := Lib.hid hsz
        have HSL := Lib.hid hSlt
        obtain ⟨Q9, hQ9⟩ : ∃ q, w2.heap.size = q := ⟨_, rfl⟩
        rw [hQ9]
        have hgs0 := HGS.out
        have hzs0 := HZS.out
        clear hG hbW hQ9 s0 s1 HS6 HG6 HA6 HR6 HZ6 HB6
        refine (wpIn_wide (n := 3)).1 ?_
        refine wpIn_range_tells (F := Fence.wide) rfl (by omega) (gf := 62) (lb := #[.pointer (some ⟨G0, 0, none⟩), .pointer (some ⟨G0 + 1, 0, none⟩)]) rfl trivial (enters_of Tryd.func62 (by kernel_rfl) rfl)
          (places_tells hg hlb hB0 2 G0 (G0 + 1) (by omega) (by omega) bL bR) KP.trans (fun W l o o' hl h ho _ => KP.putObj W l o o' (by have := hB0.size; omega) (by rintro k (rfl | rfl) <;> omega) h)
          (fun xs X Y row hs hg hr => hs) (fun xs X Y row hs hg hr => hs) (fun _ => rfl)
          (JoinI ca cb (.cells #[.string tka, .slice (some ⟨gg, 0, none⟩) mb mb] 25 (0, 0)) (.cells #[.string tka, .slice xa mb capa] 25 (0, 0)) (.cells #[.string ⟨#[]⟩, .slice none 0 0] 25 (0, 0)) w.heap.size gg S B (B + 1 + 1) W0.heap.size w) (fun _ _ _ => False) (JoinI.own hB0.size hB0.size) (fun c xs X Y row hs hg hr => hs)
          ⟨hG0', hS0, hA0, hZ0, hB0, Nat.le_refl _⟩
          (PlaceA gs cb (fun q k => #[.slice x mb cap, .agg #[.string tka, .slice xa mb capa], .agg #[.string tkb, .slice xb mb capb], undef, .pointer (some ⟨B, 0, none⟩), .pointer (some ⟨B + 1, 0, none⟩), .pointer (some ⟨B + 1 + 1, 0, none⟩), .int .i64 0, undef, .pointer (some ⟨Q9, 0, none⟩), .int .i64 0, .pointer (some ⟨S, 0, none⟩), .pointer (some ⟨q, 0, none⟩), .agg #[.string tka, .slice xa mb capa], .agg #[.string tkb, .slice xb mb capb], .agg #[.string tka, .slice xa mb capa, .string tkb, .slice xb mb capb], .int .i64 2, .bool false, .agg #[.string tkb, .slice xb mb capb], .slice x mb cap, .agg #[.string tkb, .slice xb mb capb], .int .i64 0, .int .i64 0, .bool false, undef, undef, .int .i64 2, .pointer (some ⟨B, 0, none⟩), .string tka, .pointer (some ⟨B + 1, 0, none⟩), .string tkb, .bool false, undef, .agg #[.string tka, .slice xa mb capa], .agg #[.string tka, .slice (some ⟨gg, 0, none⟩) mb mb], .slice x mb cap, .agg #[.string tkb, .slice xb mb capb], .func (.func 62) #[] #[.pointer (some ⟨G0, 0, none⟩), .pointer (some ⟨G0 + 1, 0, none⟩)], .agg (placeA gs cb k), undef, undef, undef, undef, undef, undef, undef, undef, undef, undef, undef, undef, undef, undef, undef, undef])) (fun k a' => PlaceA.own k a') ?assign ?body ?done ?stop
        case assign =>
          rintro q pre k W K hI - hK
          obtain ⟨y, hck⟩ : ∃ y, cb.getD k Cl.zero = y := ⟨_, rfl⟩
          dsimp only [penc]
          rw [hck]
          obtain ⟨n, s, a, b, g, t, d, e⟩ := y
          dsimp only
          gi_wp2
          have h3 := HSZ.out
          have h5 := hI.2.2.2.2.2
          have h6 := hB0.size
          refine hK _ _ ((KeepsOthers.alloc _ _).from _) (KP.of_below (by omega) ((Below.refl _ W).alloc (Nat.le_refl _) _)) ((JoinI.own (B9 := W0.heap.size) hB0.size hB0.size).from.alloc _ hI) ⟨W.heap.size, ?_, ?_⟩
          · unfold placeA; rw [hck]; exact heap_alloc_new W _
          · dsimp only; unfold placeA; rw [hck]; rfl
        case body =>
          rintro q pre k a' W ⟨hgW, hSW, hAW, hZW, hw, hs2⟩ ⟨g9, hpq, rfl⟩ ⟨rfl, hlt⟩
          obtain ⟨k, hkp⟩ : ∃ k, pre.length = k := ⟨_, rfl⟩
          rw [hkp] at hlt hpq hgW ⊢
          unfold placeA at hpq
          dsimp only [placeA]
          have hlk : k < (zipN ca cb k).length := by rw [zipN_len]; omega
          have hkm : (k : Int) < (mb : Int) := by omega
          have hkc : (k : Int) < (capa : Int) := by omega
          obtain ⟨bk, off, rfl, hat⟩ := hla.at hlt
          have hzg := zipN_get ca cb k (by omega) k
          rw [if_neg (by omega)] at hzg
          have hzs : zipN ca cb (k + 1) = (zipN ca cb k).set k (joinC [ca.getD k Cl.zero, cb.getD k Cl.zero]) := rfl
          obtain ⟨⟨nm, pk⟩, hgk⟩ : ∃ y, gs.getD k ([], 0) = y := ⟨_, rfl⟩
          obtain ⟨y, hck⟩ : ∃ y, cb.getD k Cl.zero = y := ⟨_, rfl⟩
          obtain ⟨z, hdk⟩ : ∃ y, ca.getD k Cl.zero = y := ⟨_, rfl⟩
          rw [hgk, hck] at hpq ⊢
          rw [hdk] at hat hzg
          rw [hdk, hck] at hzs
          obtain ⟨n, s, a, b, g, t, d, e⟩ := y
          obtain ⟨n', s', a', b', g', t', d', e'⟩ := z
          obtain ⟨y, hj⟩ : ∃ y, joinC [⟨n', s', a', b', g', t', d', e'⟩, ⟨n, s, a, b, g, t, d, e⟩] = y := ⟨_, rfl⟩
          rw [hj] at hzs
          obtain ⟨n9, s9, a9, b9, g9b, t9, d9, e9⟩ := y
          dsimp only at hpq ⊢
          have HJ9 := Lib.hid hj
          have HZG := Lib.hid hzg
          have HZN := Lib.hid hzs
          have HPW := Lib.hid (fun W1 (h : Below W.heap.size W W1) => hat W1 (hw.trans (h.mono hw.size)))
          have HSW := Lib.hid (fun W1 (h : Below W.heap.size W W1) => row_cells (heap_below hSW h))
          have HAW := Lib.hid (fun W1 (h : Below W.heap.size W W1) => row_cells (heap_below hAW h))
          have HQW := Lib.hid (fun W1 (h : Below W.heap.size W W1) => And.intro (show W1.cell? ⟨g9, 0, none⟩ = some (.int .i64 (k : Int)) by rw [cell_of_row _ g9 0 _ _ (0, 0) (heap_below hpq h)]; rfl) (place_cells (heap_below hpq h)))
          have HH := Lib.hid (And.intro hgW (And.intro hSW (And.intro hAW (And.intro hZW (And.intro hw hs2)))))
          clear hat hj hgk hck hdk hzg hzs hgW hSW hAW hZW hw hs2 hpq
          gi_wp2_with fail
          refine wpIn_region_flow (fun x y => Below x.heap.size x y) 15 [none, none, none, none, none, none, none, none, none, none, none, none, none, none, none, none, none, none, none, none, none, none, none, none, none, none, none, none, none, none, none, none, none, none, none, none, none, none, none, some 0, some 1, some 2, some 3, some 4, some 5, some 6, some 7, some 8, some 9, some 10, some 11, some 12, some 13, some 14, none] (fun i => [undef, undef, undef, undef, undef, undef, undef, undef, undef, undef, undef, undef, undef, undef, undef].getD i undef) [(fun v _ => v = .pointer (some ⟨S, 1, none⟩)), (fun v _ => v = .slice (some ⟨gg, 0, none⟩) mb mb), (fun v _ => v = .pointer (some ⟨g9, 0, none⟩)), (fun v _ => v = .int .i64 (k : Int)), (fun v _ => v = .pointer (some ⟨B, 1, none⟩)), (fun v _ => v = .slice (some ⟨bk, off, none⟩) mb capa), (fun v _ => v = .pointer (some ⟨g9, 0, none⟩)), (fun v _ => v = .int .i64 (k : Int)), (fun v _ => v = .pointer (some ⟨bk, off + k * 8, none⟩)), (fun v _ => v = .agg #[.int .i64 n', .int .i64 s', .int .i64 a', .int .i64 b', .bool g', .string (text t'), .int .i64 d', .int .i64 e']), (fun v _ => v = .pointer (some ⟨g9, 2, none⟩)), (fun v _ => v = .agg #[.int .i64 n, .int .i64 s, .int .i64 a, .int .i64 b, .bool g, .string (text t), .int .i64 d, .int .i64 e]), (ClsV [⟨n', s', a', b', g', t', d', e'⟩, ⟨n, s, a, b, g, t, d, e⟩]), (fun v _ => v = .agg #[.int .i64 n9, .int .i64 s9, .int .i64 a9, .int .i64 b9, .bool g9b, .string (text t9), .int .i64 d9, .int .i64 e9]), (fun v _ => v = .pointer (some ⟨gg, k * 8, none⟩))] (fun _ => False) (by kernel_rfl) (by kernel_rfl) (by kernel_rfl) rfl rfl rfl (fun a b c h1 h2 => h1.trans (h2.mono h1.size)) ⟨rfl, rfl, rfl, Nat.le_refl _, fun _ _ => rfl⟩ ?_ ?_ ?_
          · intro g hg v X Y hX hY hv
            simp only [List.mem_cons, List.not_mem_nil, or_false] at hg
            rcases hg with rfl | rfl | rfl | rfl | rfl | rfl | rfl | rfl | rfl | rfl | rfl | rfl | rfl | rfl | rfl
            all_goals first
              | exact hv
              | exact hv.kept hY
          · simp only [flowOpsI, List.take_succ_cons, List.take_zero, and_true]
            refine ⟨?_, ?_, ?_, ?_, ?_, ?_, ?_, ?_, ?_, ?_, ?_, ?_, ?_, ?_, ?_⟩
            · intro xs W1 hW hn
              simp only [flowAct, List.zipWith_cons_cons, List.zipWith_nil_left]
              gi_wp2_with (fail)
              exact ⟨rfl, _, rfl, Below.refl _ _, rfl, fun h => h.elim⟩
            · intro xs W1 hW hn
              obtain ⟨-, f1, -⟩ := HSW.out W1 hW
              simp [flowNeeds, Region.binds] at hn
              simp only [flowAct, List.zipWith_cons_cons, List.zipWith_nil_left]
              try simp only [hn]
              gi_wp2_with (fail)
              exact ⟨rfl, _, rfl, Below.refl _ _, rfl, fun h => h.elim⟩
            · intro xs W1 hW hn
              simp only [flowAct, List.zipWith_cons_cons, List.zipWith_nil_left]
              gi_wp2_with (fail)
              exact ⟨rfl, _, rfl, Below.refl _ _, rfl, fun h => h.elim⟩
            · intro xs W1 hW hn
              obtain ⟨c, c0, c1, c2, c3, c4, c5, c6, c7⟩ := HQW.out W1 hW
              simp [flowNeeds, Region.binds] at hn
              simp only [flowAct, List.zipWith_cons_cons, List.zipWith_nil_left]
              try simp only [hn]
              gi_wp2_with (fail)
              exact ⟨rfl, _, rfl, Below.refl _ _, rfl, fun h => h.elim⟩
            · intro xs W1 hW hn
              simp only [flowAct, List.zipWith_cons_cons, List.zipWith_nil_left]
              gi_wp2_with (fail)
              exact ⟨rfl, _, rfl, Below.refl _ _, rfl, fun h => h.elim⟩
            · intro xs W1 hW hn
              obtain ⟨-, f2, -⟩ := HAW.out W1 hW
              simp [flowNeeds, Region.binds] at hn
              simp only [flowAct, List.zipWith_cons_cons, List.zipWith_nil_left]
              try simp only [hn]
              gi_wp2_with (fail)
              exact ⟨rfl, _, rfl, Below.refl _ _, rfl, fun h => h.elim⟩
            · intro xs W1 hW hn
              simp only [flowAct, List.zipWith_cons_cons, List.zipWith_nil_left]
              gi_wp2_with (fail)
              exact ⟨rfl, _, rfl, Below.refl _ _, rfl, fun h => h.elim⟩
            · intro xs W1 hW hn
              obtain ⟨c, c0, c1, c2, c3, c4, c5, c6, c7⟩ := HQW.out W1 hW
              simp [flowNeeds, Region.binds] at hn
              simp only [flowAct, List.zipWith_cons_cons, List.zipWith_nil_left]
              try simp only [hn]
              gi_wp2_with (fail)
              exact ⟨rfl, _, rfl, Below.refl _ _, rfl, fun h => h.elim⟩
            · intro xs W1 hW hn
              simp [flowNeeds, Region.binds] at hn
              simp only [flowAct, List.zipWith_cons_cons, List.zipWith_nil_left]
              try simp only [hn]
              gi_wp2_with (fail)
              exact ⟨rfl, _, rfl, Below.refl _ _, rfl, fun h => h.elim⟩
            · intro xs W1 hW hn
              obtain ⟨p0, p1, p2, p3, p4, p5, p6, p7⟩ := HPW.out W1 hW
              simp only at p0 p1 p2 p3 p4 p5 p6 p7
              simp [flowNeeds, Region.binds] at hn
              simp only [flowAct, List.zipWith_cons_cons, List.zipWith_nil_left]
              try simp only [hn]
              gi_wp2_with (fail)
              exact ⟨rfl, _, rfl, Below.refl _ _, rfl, fun h => h.elim⟩
            · intro xs W1 hW hn
              simp only [flowAct, List.zipWith_cons_cons, List.zipWith_nil_left]
              gi_wp2_with (fail)
              exact ⟨rfl, _, rfl, Below.refl _ _, rfl, fun h => h.elim⟩
            · intro xs W1 hW hn
              obtain ⟨c, c0, c1, c2, c3, c4, c5, c6, c7⟩ := HQW.out W1 hW
              simp [flowNeeds, Region.binds] at hn
              simp only [flowAct, List.zipWith_cons_cons, List.zipWith_nil_left]
              try simp only [hn]
              gi_wp2_with (fail)
              exact ⟨rfl, _, rfl, Below.refl _ _, rfl, fun h => h.elim⟩
            · intro xs W1 hW hn
              simp [flowNeeds, Region.binds] at hn
              simp only [flowAct, List.zipWith_cons_cons, List.zipWith_nil_left]
              simp only [hn]
              gi_wp2_with (fail)
              exact ⟨rfl, _, rfl, alloc_below _ _, ⟨_, _, _, rfl, cls2 _ _ _ _ _ _ _ _ _ _ _ _ _ _ _ _ _⟩, fun h => h.elim⟩
            · intro xs W1 hW hn
              simp [flowNeeds, Region.binds] at hn
              obtain ⟨a8, n8, k8, hv8, hc8⟩ := hn
              have HJJ := Lib.hid (join_c hc8)
              rw [HJ9.out] at HJJ
              clear hc8
              simp only [flowAct, List.zipWith_cons_cons, List.zipWith_nil_left]
              simp only [hv8]
              gi_wp2_with (fail)
              refine ⟨trivial, (CallsIn.inRound q (callsIn_wide.2 HJJ.out)).mono ?_⟩
              rintro e8 w9 ⟨rfl, hb9⟩
              try gi_wp2_with (fail)
              exact ⟨rfl, _, rfl, hb9, rfl, fun h => h.elim⟩
            · intro xs W1 hW hn
              simp [flowNeeds, Region.binds] at hn
              simp only [flowAct, List.zipWith_cons_cons, List.zipWith_nil_left]
              try simp only [hn]
              gi_wp2_with (fail)
              exact ⟨rfl, _, rfl, Below.refl _ _, rfl, fun h => h.elim⟩
          · intro xs W1 hW hall hfr
            clear hfr
            simp only [flowAll, and_true, Nat.zero_add, Nat.reduceAdd] at hall
            obtain ⟨-, -, -, -, -, -, -, -, -, -, -, -, -, y13, y14⟩ := hall
            simp only [flowAct, List.zipWith_cons_cons, List.zipWith_nil_left, List.drop_succ_cons, List.drop_zero]
            simp only [y13, y14]
            obtain ⟨hgW0, hSW0, hAW0, hZW0, hw0, hs0⟩ := HH.out
            have hgW := heap_below hgW0 hW
            have hq : ∀ j, j < 8 → W1.cell? ⟨gg, k * 8 + j, none⟩ = ((zipN ca cb k).getD k Cl.zero).arr[j]? := fun j hj => by
              rw [cell_of_row W1 gg _ _ _ (0, 0) hgW, List.getElem?_toArray, cCells_get (zipN ca cb k) k j hlk hj]
            rw [HZG.out] at hq
            have q0 : W1.cell? ⟨gg, k * 8, none⟩ = some (.int .i64 n') := hq 0 (by omega)
            have q1 : W1.cell? ⟨gg, k * 8 + 1, none⟩ = some (.int .i64 s') := hq 1 (by omega)
            have q2 : W1.cell? ⟨gg, k * 8 + 2, none⟩ = some (.int .i64 a') := hq 2 (by omega)
            have q3 : W1.cell? ⟨gg, k * 8 + 3, none⟩ = some (.int .i64 b') := hq 3 (by omega)
            have q4 : W1.cell? ⟨gg, k * 8 + 4, none⟩ = some (.bool g') := hq 4 (by omega)
            have q5 : W1.cell? ⟨gg, k * 8 + 5, none⟩ = some (.string (text t')) := hq 5 (by omega)
            have q6 : W1.cell? ⟨gg, k * 8 + 6, none⟩ = some (.int .i64 d') := hq 6 (by omega)
            have q7 : W1.cell? ⟨gg, k * 8 + 7, none⟩ = some (.int .i64 e') := hq 7 (by omega)
            have hqf : ∀ j, W1.frozen? ⟨gg, j, none⟩ = false := fun j => frozen_of_row _ gg j _ _ hgW
            have hgs := HGS.out
            have hzs := HZS.out
            have hsl := HSL.out
            have h3 := HSZ.out
            have h6 := hB0.size
            have hbe := HBe.out
            have hgb := HGB.out
            have hput := cells_put hgW hlk n9 s9 a9 b9 g9b t9 d9 e9
            have hL : LeavesT 87 (fun j => j = gg) W0.heap.size W ((((((((W1.setCell ⟨gg, k * 8, none⟩ (.int .i64 n9)).setCell ⟨gg, k * 8 + 1, none⟩ (.int .i64 s9)).setCell ⟨gg, k * 8 + 2, none⟩ (.int .i64 a9)).setCell ⟨gg, k * 8 + 3, none⟩ (.int .i64 b9)).setCell ⟨gg, k * 8 + 4, none⟩ (.bool g9b)).setCell ⟨gg, k * 8 + 5, none⟩ (.string (text t9))).setCell ⟨gg, k * 8 + 6, none⟩ (.int .i64 d9)).setCell ⟨gg, k * 8 + 7, none⟩ (.int .i64 e9)) := (LeavesT.below hW).trans (leaves_put W1 gg k n9 s9 a9 b9 g9b t9 d9 e9)
            have hbP : Below w.heap.size W ((((((((W1.setCell ⟨gg, k * 8, none⟩ (.int .i64 n9)).setCell ⟨gg, k * 8 + 1, none⟩ (.int .i64 s9)).setCell ⟨gg, k * 8 + 2, none⟩ (.int .i64 a9)).setCell ⟨gg, k * 8 + 3, none⟩ (.int .i64 b9)).setCell ⟨gg, k * 8 + 4, none⟩ (.bool g9b)).setCell ⟨gg, k * 8 + 5, none⟩ (.string (text t9))).setCell ⟨gg, k * 8 + 6, none⟩ (.int .i64 d9)).setCell ⟨gg, k * 8 + 7, none⟩ (.int .i64 e9)) := cells_put_below (k := k) (hW.mono (show w.heap.size ≤ W.heap.size by omega)) hgb n9 s9 a9 b9 g9b t9 d9 e9
            have HR := Lib.hid (show RoundPost W0.heap.size (KP w.heap.size (two9 G0 (G0 + 1))) (fun _ => True) (JoinI ca cb (.cells #[.string tka, .slice (some ⟨gg, 0, none⟩) mb mb] 25 (0, 0)) (.cells #[.string tka, .slice (some ⟨bk, off, none⟩) mb capa] 25 (0, 0)) (.cells #[.string ⟨#[]⟩, .slice none 0 0] 25 (0, 0)) w.heap.size gg S B (B + 1 + 1) W0.heap.size w) (fun _ _ _ => False) pre k W .normal { tmps := #[], defers := [] } ((((((((W1.setCell ⟨gg, k * 8, none⟩ (.int .i64 n9)).setCell ⟨gg, k * 8 + 1, none⟩ (.int .i64 s9)).setCell ⟨gg, k * 8 + 2, none⟩ (.int .i64 a9)).setCell ⟨gg, k * 8 + 3, none⟩ (.int .i64 b9)).setCell ⟨gg, k * 8 + 4, none⟩ (.bool g9b)).setCell ⟨gg, k * 8 + 5, none⟩ (.string (text t9))).setCell ⟨gg, k * 8 + 6, none⟩ (.int .i64 d9)).setCell ⟨gg, k * 8 + 7, none⟩ (.int .i64 e9)) from
              ⟨hL.keeps (by rintro j rfl; omega), ⟨hbP, fun j o hj ho => hL.same j o ho (by rcases hj with rfl | rfl <;> omega) (.inl (by rcases hj with rfl | rfl <;> omega))⟩, trivial, ⟨by rw [List.length_append, List.length_singleton, hkp, HZN.out]; exact hput, hL.same _ _ hSW0 (by omega) (.inl (by omega)), hL.same _ _ hAW0 (by omega) (.inl (by omega)), hL.same _ _ hZW0 (by omega) (.inl (by omega)), hw0.trans hbP, Nat.le_trans hs0 hL.size⟩⟩)
            clear hq hput hL hbP hgW hgW0 hSW0 hAW0 hZW0 hw0 hs0 hgs hzs hsl h3 h6 hbe hgb
            gi_wp2
            exact HR.out

        case done =>
          rintro D xs W hD hxs ⟨hgW, hSW, hAW, hZW, hw, hs2⟩ hK
          rw [show xs.length = mb from hxs] at hgW
          obtain ⟨s0, s1, -⟩ := row_cells hSW
          obtain ⟨z0, z1, zf⟩ := row_cells hZW
          have HDB := Lib.hid (show S < D by have := HSZ.out; have := HSL.out; omega)
          have HGS2 := Lib.hid HGS.out
          have hDz : D ≠ B + 1 + 1 := by have := HDB.out; omega
          have hDg : D ≠ gg := by have := HDB.out; omega
          have hgz : gg ≠ B + 1 + 1 := by omega
          have hkX : ((W.setCell ⟨B + 1 + 1, 0, none⟩ (.string tka)).setCell ⟨B + 1 + 1, 1, none⟩ (.slice (some ⟨gg, 0, none⟩) mb mb)).heap[D]? = some (.deferred (some [])) :=
            (Below.heap_setCell _ ⟨B + 1 + 1, 1, none⟩ _ D hDz).trans ((Below.heap_setCell _ ⟨B + 1 + 1, 0, none⟩ (.string tka) D hDz).trans hK)
          have hgX := (Below.heap_setCell (W.setCell ⟨B + 1 + 1, 0, none⟩ (.string tka)) ⟨B + 1 + 1, 1, none⟩ (.slice (some ⟨gg, 0, none⟩) mb mb) gg hgz).trans ((Below.heap_setCell W ⟨B + 1 + 1, 0, none⟩ (.string tka) gg hgz).trans hgW)
          have hwX := (hw.setCell (p := ⟨B + 1 + 1, 0, none⟩) (by have := HBe.out; simp; omega) (.string tka)).setCell (p := ⟨B + 1 + 1, 1, none⟩) (by have := HBe.out; simp; omega) (.slice (some ⟨gg, 0, none⟩) mb mb)
          have HKX := Lib.hid hkX
          have HFB := Lib.hid (hwX.trans (belowK_b (w := w) (Nat.le_refl _) _ D _ (.deferred none) (by have := HDB.out; have := HBe.out; omega) hkX rfl rfl))
          have HFG := Lib.hid ((World.putObj_heap_other (o := .deferred none) (show gg ≠ D from hDg.symm)).trans hgX)
          have HFZ := Lib.hid ((World.putObj_heap_other (o := .deferred none) (show B + 1 + 1 ≠ D from hDz.symm)).trans (row_set hZW tka (.slice (some ⟨gg, 0, none⟩) mb mb)))
          clear hgW hSW hAW hZW hw hs2 hK hkX hgX hwX hxs hDz hDg hgz
          go_wp2
          refine ⟨by simp, .inl ⟨_, _, rfl, run_takeDeferred HKX.out, ?_⟩⟩
          refine ⟨_, res_cell_tmp rfl _ _ (B + 1 + 1) 25 _ (0, 0) _ (.int .i64 0) rfl rfl HFZ.out Tryd.underlying25 rfl (by kernel_rfl), ?_⟩
          rw [HRR.out]
          exact ⟨_, by rw [HTK.out], by rw [hal]; exact own_lit HFG.out HGB.out (by rw [zipN_len]; exact hal) (by omega), HFB.out⟩
        case stop => exact fun D c pre W hD _ hf => hf.elim
    · have h1n : (RB != 0) = true := by simpa using h1
      have HRR := Lib.hid (show RV = ([], [], RB) by rw [HRV.out, if_neg (by simp), if_pos h1])
      clear h1
      go_wp2_with (go_at_call 14; (with_reducible refine (HGB.out _ HBb.out).mono ?_); rintro e9 w3 ⟨rfl, hb3⟩; have HB3 := Lib.hid (HBb.out.trans (hb3.mono HBb.out.size)); have HZ5 := Lib.hid (heap_below HZ4.out hb3); clear hb3 u0 u1; obtain ⟨z0, z1, zf⟩ := row_cells HZ5.out)
      exact ⟨_, res_cell_tmp rfl _ _ (B + 1 + 1) 25 _ (0, 0) _ (.int .i64 RB) rfl rfl (row_set HZ5.out ⟨#[]⟩ (.slice none 0 0)) Tryd.underlying25 rfl (by kernel_rfl), HBAD.out _ HRR.out _ HB3.out⟩
  · have h0n : (RA != 0) = true := by simpa using h0
    have HRR := Lib.hid (show RV = ([], [], RA) by rw [HRV.out, if_pos h0])
    clear h0
    go_wp2_with (go_at_call 14; (with_reducible refine (HGA.out _ HBa.out).mono ?_); rintro e9 w2 ⟨rfl, hb2⟩; have HB2 := Lib.hid (HBa.out.trans (hb2.mono HBa.out.size)); have HZ3 := Lib.hid (heap_below HZ2.out hb2); clear hb2 u0 u1; obtain ⟨z0, z1, zf⟩ := row_cells HZ3.out)
    exact ⟨_, res_cell_tmp rfl _ _ (B + 1 + 1) 25 _ (0, 0) _ (.int .i64 RA) rfl rfl (row_set HZ3.out ⟨#[]⟩ (.slice none 0 0)) Tryd.underlying25 rfl (by kernel_rfl), HBAD.out _ HRR.out _ HB2.out⟩
end Go.Proofs.YtkjpmdpljdgcjaaDoor
end

section
/-
  Row: rows put together.
-/
namespace Go.Proofs.YtkjpmdpljdgcjaaDoor
open Go.RowKit Go Go.Sort
set_option linter.unusedVariables false
set_option maxRecDepth 20000

theorem list_getD {l m : List Cl} (h : l.length = m.length) (hg : ∀ i, i < l.length → l.getD i Cl.zero = m.getD i Cl.zero) : l = m := by
  apply List.ext_getElem h
  intro i h1 h2
  have := hg i h1
  simpa [List.getD_eq_getElem?_getD, List.getElem?_eq_getElem h1, List.getElem?_eq_getElem h2] using this
theorem zip_at (ca cb : List Cl) {i : Nat} (hi : i < ca.length) : (zipN ca cb ca.length).getD i Cl.zero = joinC [ca.getD i Cl.zero, cb.getD i Cl.zero] := by
  rw [zipN_get ca cb i hi, if_pos hi]
/-- What is asked of each cell of a good row. -/
theorem good_at {gs : List Grp} {k : List UInt8} {cs : List Cl} (h : rgoodS gs k cs = 0) {i : Nat} (hi : i < cs.length) : (cs.getD i Cl.zero).good (gs.getD i ([], 0)).2 = true := by
  obtain ⟨_, _, h3, h4⟩ := rgood_inv h
  exact h4 i (by omega)
theorem zip_good {gs : List Grp} {k : List UInt8} {ca cb : List Cl} (ha : rgoodS gs k ca = 0) (hb : rgoodS gs k cb = 0) : rgoodS gs k (zipN ca cb ca.length) = 0 := by
  obtain ⟨h1, h2, h3, h4⟩ := rgood_inv ha
  obtain ⟨_, _, h5, h6⟩ := rgood_inv hb
  refine rgood_yes h1 h2 (by rw [zipN_len]; exact h3) fun j hj => ?_
  show ((zipN ca cb ca.length).getD j Cl.zero).good _ = true
  rw [zip_at ca cb (by omega)]
  refine good_join (pgood_pol h1 j hj) fun c hc => ?_
  simp only [List.mem_cons, List.not_mem_nil, or_false] at hc
  rcases hc with rfl | rfl
  · exact h4 j hj
  · exact h6 j hj
theorem set_getD (cs : List Cl) (i j : Nat) (x : Cl) : (cs.set i x).getD j Cl.zero = if i = j ∧ i < cs.length then x else cs.getD j Cl.zero := by
  simp only [List.getD_eq_getElem?_getD, List.getElem?_set]
  by_cases e : i = j
  · subst e
    by_cases h : i < cs.length
    · simp [h]
    · simp [h]
  · simp [e]
theorem set_good {gs : List Grp} {k : List UInt8} {cs : List Cl} {i : Nat} {c : Cl} (h : rgoodS gs k cs = 0) (hi : i < cs.length) (hc : c.good (gs.getD i ([], 0)).2 = true) : rgoodS gs k (cs.set i (joinC [cs.getD i Cl.zero, c])) = 0 := by
  obtain ⟨h1, h2, h3, h4⟩ := rgood_inv h
  refine rgood_yes h1 h2 (by rw [List.length_set]; exact h3) fun j hj => ?_
  show ((cs.set i (joinC [cs.getD i Cl.zero, c])).getD j Cl.zero).good _ = true
  rw [set_getD]
  by_cases e : i = j
  · subst e
    rw [if_pos ⟨rfl, hi⟩]
    refine good_join (pgood_pol h1 i hj) fun x hx => ?_
    simp only [List.mem_cons, List.not_mem_nil, or_false] at hx
    rcases hx with rfl | rfl
    · exact h4 i hj
    · exact hc
  · rw [if_neg (fun h => e h.1)]
    exact h4 j hj
theorem zip_comm {gs : List Grp} {k : List UInt8} {ca cb : List Cl} (ha : rgoodS gs k ca = 0) (hb : rgoodS gs k cb = 0) : zipN ca cb ca.length = zipN cb ca cb.length := by
  have h3 := (rgood_inv ha).2.2.1
  have h5 := (rgood_inv hb).2.2.1
  refine list_getD (by rw [zipN_len, zipN_len]; omega) fun i hi => ?_
  rw [zipN_len] at hi
  rw [zip_at ca cb hi, zip_at cb ca (by omega)]
  have x1 := good_at ha hi
  have x2 := good_at hb (show i < cb.length by omega)
  exact (lattice x1 x2 x1).1
theorem zip_self {gs : List Grp} {k : List UInt8} {ca : List Cl} (ha : rgoodS gs k ca = 0) : zipN ca ca ca.length = ca := by
  refine list_getD (zipN_len ca ca ca.length) fun i hi => ?_
  rw [zipN_len] at hi
  rw [zip_at ca ca hi]
  have x1 := good_at ha hi
  exact (lattice x1 x1 x1).2.2.2.1
theorem zip_assoc {gs : List Grp} {k : List UInt8} {ca cb cc : List Cl} (ha : rgoodS gs k ca = 0) (hb : rgoodS gs k cb = 0) (hc : rgoodS gs k cc = 0) :
    zipN (zipN ca cb ca.length) cc (zipN ca cb ca.length).length = zipN ca (zipN cb cc cb.length) ca.length := by
  have h3 := (rgood_inv ha).2.2.1
  have h5 := (rgood_inv hb).2.2.1
  have h7 := (rgood_inv hc).2.2.1
  refine list_getD (by rw [zipN_len, zipN_len, zipN_len]) fun i hi => ?_
  rw [zipN_len, zipN_len] at hi
  rw [zip_at _ cc (by rw [zipN_len]; exact hi), zip_at ca cb hi, zip_at ca (zipN cb cc cb.length) hi, zip_at cb cc (by omega)]
  have x1 := good_at ha hi
  have x2 := good_at hb (show i < cb.length by omega)
  have x3 := good_at hc (show i < cc.length by omega)
  exact (lattice x1 x2 x3).2.1
/-- P10.6: a row that adds nothing changes nothing. -/
theorem zip_back {gs : List Grp} {k : List UInt8} {cs : List Cl} {i : Nat} {c : Cl} (h : rgoodS gs k cs = 0) (hi : i < cs.length) (hc : c.good (gs.getD i ([], 0)).2 = true) :
    zipN (cs.set i (joinC [cs.getD i Cl.zero, c])) cs (cs.set i (joinC [cs.getD i Cl.zero, c])).length = cs.set i (joinC [cs.getD i Cl.zero, c]) := by
  refine list_getD (zipN_len _ _ _) fun j hj => ?_
  rw [zipN_len] at hj
  rw [zip_at _ cs hj, set_getD]
  rw [List.length_set] at hj
  have x1 := good_at h hj
  by_cases e : i = j
  · subst e
    rw [if_pos ⟨rfl, hi⟩]
    have l1 := lattice x1 hc x1
    have l2 := lattice (lattice x1 hc x1).2.2.2.2.2.1 x1 x1
    rw [l2.1]
    have l3 := lattice x1 x1 hc
    rw [← l3.2.1, l3.2.2.2.1]
  · rw [if_neg (fun h => e h.1)]
    exact (lattice x1 x1 x1).2.2.2.1
theorem set_back {gs : List Grp} {k : List UInt8} {cs : List Cl} {i : Nat} {c : Cl} (h : rgoodS gs k cs = 0) (hi : i < cs.length) (hc : c.good (gs.getD i ([], 0)).2 = true) :
    (cs.set i (joinC [cs.getD i Cl.zero, c])).set i (joinC [(cs.set i (joinC [cs.getD i Cl.zero, c])).getD i Cl.zero, c]) = cs.set i (joinC [cs.getD i Cl.zero, c]) := by
  rw [List.set_set, set_getD, if_pos ⟨rfl, hi⟩]
  have x1 := good_at h hi
  have l1 := lattice x1 hc hc
  rw [l1.2.1, (lattice hc hc hc).2.2.2.1]
end Go.Proofs.YtkjpmdpljdgcjaaDoor
end

section
/-
  Row: what RowApart wants of writes.
-/
namespace Go.Proofs.YtkjpmdpljdgcjaaDoor
open Go.RowKit Go Go.Sort
set_option linter.unusedVariables false
set_option maxRecDepth 20000

theorem good_short {p : Int} {c : Cl} (h : c.good p = true) : c.t.length ≤ 9223372036854775807 := by
  rw [jgood_parts] at h
  unfold Cl.gw Cl.wrote wroteS at h
  obtain ⟨n, s, a, b, g, t, d, e⟩ := c
  simp at h
  show t.length ≤ _
  rcases h.2.2 with h2 | h2
  · rcases h2 with ⟨_, _, _, _, _, rfl⟩; simp
  · omega
theorem write_cases {gs : List Grp} {key : List UInt8} {cs : List Cl} {k : Int} {c : Cl} :
    (∃ f, rwriteS gs key cs k c = ([], [], f) ∧ f ≠ 0) ∨ (rgoodS gs key cs = 0 ∧ ∃ i : Nat, k = (i : Int) ∧ i < cs.length ∧ c.good (gs.getD i ([], 0)).2 = true ∧ rwriteS gs key cs k c = (key, cs.set i (joinC [cs.getD i Cl.zero, c]), 0)) := by
  by_cases h0 : rgoodS gs key cs = 0
  · obtain ⟨g1, _, g3, _⟩ := rgood_inv h0
    by_cases h1 : (pofS gs k).2 = 0
    · obtain ⟨k0, k1⟩ := of_in g1 h1
      obtain ⟨i, rfl⟩ : ∃ i : Nat, k = (i : Int) := ⟨k.toNat, by omega⟩
      have hp : pofS gs (i : Int) = ((gs.getD i ([], 0)).2, 0) := by
        unfold pofS
        rw [if_pos g1, if_neg (by omega), Int.toNat_natCast]
      cases h2 : c.good (pofS gs (i : Int)).1 with
      | false => exact .inl ⟨80, write_cell h0 h1 h2, by decide⟩
      | true =>
        refine .inr ⟨h0, i, rfl, by omega, ?_, ?_⟩
        · rw [hp] at h2; exact h2
        · rw [write_ok h0 h1 h2, Int.toNat_natCast]
    · exact .inl ⟨_, write_grp h0 h1, h1⟩
  · exact .inl ⟨_, write_bad h0, h0⟩
theorem write_in {gs : List Grp} {key : List UInt8} {cs : List Cl} {i : Nat} {c : Cl} (h0 : rgoodS gs key cs = 0) (hi : i < cs.length) (hc : c.good (gs.getD i ([], 0)).2 = true) :
    rwriteS gs key cs (i : Int) c = (key, cs.set i (joinC [cs.getD i Cl.zero, c]), 0) := by
  obtain ⟨g1, _, g3, _⟩ := rgood_inv h0
  have hp : pofS gs (i : Int) = ((gs.getD i ([], 0)).2, 0) := by
    unfold pofS
    rw [if_pos g1, if_neg (by omega), Int.toNat_natCast]
  rw [write_ok h0 (by rw [hp]) (by rw [hp]; exact hc), Int.toNat_natCast]
theorem row_short {gs : List Grp} {k : List UInt8} {cs : List Cl} (h : rgoodS gs k cs = 0) : ∀ c ∈ cs, c.t.length ≤ 9223372036854775807 := by
  intro c hc
  obtain ⟨i, hi, rfl⟩ := List.getElem_of_mem hc
  have e : cs.getD i Cl.zero = cs[i] := by simp [hi]
  rw [← e]
  exact good_short (good_at h hi)
theorem rowtwo_cells {W : World} {q : Nat} {tk : ByteArray} {x2 : Option Addr} {m cap2 : Nat} {k : Int} (n s a b : Int) (g : Bool) (t : List UInt8) (d e : Int) (h : W.heap[q]? = some (.cells #[.string tk, .slice x2 m cap2, .int .i64 k, .int .i64 n, .int .i64 s, .int .i64 a, .int .i64 b, .bool g, .string (text t), .int .i64 d, .int .i64 e] 52 (0, 0))) :
    (W.cell? ⟨q, 0, none⟩ = some (.string tk) ∧ W.cell? ⟨q, 1, none⟩ = some (.slice x2 m cap2) ∧ W.cell? ⟨q, 2, none⟩ = some (.int .i64 k)) ∧ W.cell? ⟨q, 3, none⟩ = some (.int .i64 n) ∧ W.cell? ⟨q, 4, none⟩ = some (.int .i64 s) ∧ W.cell? ⟨q, 5, none⟩ = some (.int .i64 a) ∧ W.cell? ⟨q, 6, none⟩ = some (.int .i64 b) ∧
    W.cell? ⟨q, 7, none⟩ = some (.bool g) ∧ W.cell? ⟨q, 8, none⟩ = some (.string (text t)) ∧ W.cell? ⟨q, 9, none⟩ = some (.int .i64 d) ∧ W.cell? ⟨q, 10, none⟩ = some (.int .i64 e) := by
  refine ⟨⟨?_, ?_, ?_⟩, ?_, ?_, ?_, ?_, ?_, ?_, ?_, ?_⟩ <;> (rw [cell_of_row _ q _ _ _ (0, 0) h]; rfl)
end Go.Proofs.YtkjpmdpljdgcjaaDoor
end

section
/-
  Boxes of a call's own that a region lays and fills, in whatever order.
-/
namespace Go.Proofs.YtkjpmdpljdgcjaaDoor
open Go.RowKit Go Go.Sort
set_option linter.unusedVariables false
set_option maxRecDepth 20000

/-- A block of a call's own behind a pointer, with its cells. -/
def HeldB (B0 : Nat) (ty : TypeId) (w : World) (v : Value) (cs : Array Value) : Prop := ∃ g, v = .pointer (some ⟨g, 0, none⟩) ∧ B0 ≤ g ∧ w.heap[g]? = some (.cells cs ty (0, 0))
theorem HeldB.kept {B0 : Nat} {ty : TypeId} {w w' : World} {v : Value} {cs : Array Value} (h : HeldB B0 ty w v cs) (hb : Below w.heap.size w w') : HeldB B0 ty w' v cs := by
  obtain ⟨g, h1, h2, h3⟩ := h
  exact ⟨g, h1, h2, heap_below h3 hb⟩
theorem HeldB.other {B0 q : Nat} {ty t : TypeId} {w w' : World} {v : Value} {cs ds : Array Value} (h : HeldB B0 ty w v cs) (hw : Wrote q ds t w w') (hne : v ≠ .pointer (some ⟨q, 0, none⟩)) : HeldB B0 ty w' v cs := by
  obtain ⟨g, rfl, h2, h3⟩ := h
  exact ⟨g, rfl, h2, (hw.rest g (Array.getElem?_eq_some_iff.1 h3).1 (by rintro rfl; exact hne rfl)).trans h3⟩
theorem HeldB.ne {B0 : Nat} {ty : TypeId} {w : World} {v : Value} {cs : Array Value} (h : HeldB B0 ty w v cs) : v ≠ .pointer (some ⟨w.heap.size, 0, none⟩) := by
  obtain ⟨g, rfl, _, h3⟩ := h
  have := (Array.getElem?_eq_some_iff.1 h3).1
  intro e
  simp at e
  try omega
/-- Where the laying of n boxes stands: m operations (and those behind) that tell V, n that make boxes, n that fill them with R. -/
def LayN (m n : Nat) (ty : TypeId) (z : Array Value) (V : Nat → Value) (R : Nat → Array Value) (w0 : World) (L : Nat → Bool) (xs : Nat → Value) (w : World) : Prop :=
  Below w0.heap.size w0 w ∧ (∀ i, (i < m ∨ m + n + n ≤ i) → L i = true → xs i = V i) ∧
  (∀ j, j < n → L (m + j) = true → HeldB w0.heap.size ty w (xs (m + j)) (if L (m + n + j) = true then R j else z)) ∧
  (∀ j k, j < n → k < n → j ≠ k → L (m + j) = true → L (m + k) = true → xs (m + j) ≠ xs (m + k)) ∧
  (∀ j, j < n → L (m + n + j) = true → L (m + j) = true)
section
variable {m n : Nat} {ty : TypeId} {z : Array Value} {V : Nat → Value} {R : Nat → Array Value} {w0 w : World} {L : Nat → Bool} {xs : Nat → Value}
theorem LayN.start (N : Nat) (hN : m + n + n ≤ N) (h : ∀ i, i < N → L i = false) (hz : ∀ i, N ≤ i → xs i = V i) : LayN m n ty z V R w0 L xs { w0 with drawn := w0.drawn + 1 } := by
  have f : ∀ i, i < m + n + n → L i = true → False := fun i hi ht => by rw [h i (by omega)] at ht; cases ht
  refine ⟨⟨rfl, rfl, rfl, Nat.le_refl _, fun _ _ => rfl⟩, fun i hi ht => ?_, fun j hj ht => (f _ (by omega) ht).elim, fun j k hj hk _ ht _ => (f _ (by omega) ht).elim, fun j hj ht => (f _ (by omega) ht).elim⟩
  by_cases hiN : i < N
  · rw [h i hiN] at ht; cases ht
  · exact hz i (by omega)
theorem LayN.below (h : LayN m n ty z V R w0 L xs w) : Below w0.heap.size w0 w := h.1
theorem LayN.set (h : LayN m n ty z V R w0 L xs w) (i : Nat) (hi : i < m ∨ m + n + n ≤ i) {w' : World} (hb : Below w.heap.size w w') : LayN m n ty z V R w0 (fun j => if j = i then true else L j) (fun j => if j = i then V i else xs j) w' := by
  obtain ⟨h0, h1, h2, h3, h4⟩ := h
  refine ⟨h0.trans (hb.mono h0.size), fun j hj ht => ?_, fun j hj ht => ?_, fun j k hj hk => ?_, fun j hj => ?_⟩
  · by_cases e : j = i
    · subst e; simp
    · simp only [if_neg e] at ht ⊢
      exact h1 j hj ht
  · simp only [if_neg (show ¬ m + j = i by omega), if_neg (show ¬ m + n + j = i by omega)] at ht ⊢
    exact (h2 j hj ht).kept hb
  · simp only [if_neg (show ¬ m + j = i by omega), if_neg (show ¬ m + k = i by omega)]
    exact h3 j k hj hk
  · simp only [if_neg (show ¬ m + j = i by omega), if_neg (show ¬ m + n + j = i by omega)]
    exact h4 j hj
theorem LayN.alloc (h : LayN m n ty z V R w0 L xs w) (j : Nat) (hj : j < n) {k : Nat} (hk : k = m + j) (hn : L k = false) : LayN m n ty z V R w0 (fun i => if i = k then true else L i) (fun i => if i = k then .pointer (some ⟨w.heap.size, 0, none⟩) else xs i) (w.alloc (.cells z ty)) := by
  subst hk
  obtain ⟨h0, h1, h2, h3, h4⟩ := h
  have kb := alloc_below w (.cells z ty)
  have hf : L (m + n + j) = false := by
    cases hx : L (m + n + j) with
    | false => rfl
    | true => rw [h4 j hj hx] at hn; cases hn
  refine ⟨h0.trans (kb.mono h0.size), fun i hi ht => ?_, fun i hi ht => ?_, fun i k hi hk hne hti htk => ?_, fun i hi ht => ?_⟩
  · simp only [if_neg (show ¬ i = m + j by omega)] at ht ⊢
    exact h1 i hi ht
  · by_cases e : i = j
    · subst e
      simp only [if_neg (show ¬ m + n + i = m + i by omega), hf, if_pos]
      exact ⟨_, rfl, h0.size, heap_alloc_new w _⟩
    · simp only [if_neg (show ¬ m + i = m + j by omega), if_neg (show ¬ m + n + i = m + j by omega)] at ht ⊢
      exact (h2 i hi ht).kept kb
  · by_cases e1 : i = j
    · subst e1
      simp only [if_neg (show ¬ m + k = m + i by omega), if_pos] at htk ⊢
      exact ((h2 k hk htk).ne).symm
    · by_cases e2 : k = j
      · subst e2
        simp only [if_neg (show ¬ m + i = m + k by omega), if_pos] at hti ⊢
        exact (h2 i hi hti).ne
      · simp only [if_neg (show ¬ m + i = m + j by omega), if_neg (show ¬ m + k = m + j by omega)] at hti htk ⊢
        exact h3 i k hi hk hne hti htk
  · by_cases e : i = j
    · subst e; simp
    · simp only [if_neg (show ¬ m + i = m + j by omega), if_neg (show ¬ m + n + i = m + j by omega)] at ht ⊢
      exact h4 i hi ht
theorem LayN.store (h : LayN m n ty z V R w0 L xs w) (j : Nat) (hj : j < n) {k s : Nat} (hk : k = m + j) (hs : s = m + n + j) (hL : L k = true) {g : Nat} (hg : xs k = .pointer (some ⟨g, 0, none⟩)) (hB : w0.heap.size ≤ g) {w2 : World} (hw : Wrote g (R j) ty w w2) (hl : g ≤ w.heap.size) (v : Value) :
    LayN m n ty z V R w0 (fun i => if i = s then true else L i) (fun i => if i = s then v else xs i) w2 := by
  subst hk hs
  obtain ⟨h0, h1, h2, h3, h4⟩ := h
  refine ⟨h0.trans (hw.below hB hl), fun i hi ht => ?_, fun i hi ht => ?_, fun i k hi hk hne hti htk => ?_, fun i hi ht => ?_⟩
  · simp only [if_neg (show ¬ i = m + n + j by omega)] at ht ⊢
    exact h1 i hi ht
  · simp only [if_neg (show ¬ m + i = m + n + j by omega)] at ht ⊢
    by_cases e : i = j
    · subst e
      simp only [if_pos]
      exact ⟨g, hg, hB, hw.cell⟩
    · simp only [if_neg (show ¬ m + n + i = m + n + j by omega)]
      exact (h2 i hi ht).other hw (hg ▸ h3 i j hi hj e ht hL)
  · simp only [if_neg (show ¬ m + i = m + n + j by omega), if_neg (show ¬ m + k = m + n + j by omega)] at hti htk ⊢
    exact h3 i k hi hk hne hti htk
  · by_cases e : i = j
    · subst e
      simp only [if_neg (show ¬ m + i = m + n + i by omega)]
      exact hL
    · simp only [if_neg (show ¬ m + i = m + n + j by omega), if_neg (show ¬ m + n + i = m + n + j by omega)] at ht ⊢
      exact h4 i hi ht
end
theorem getD_none (l : List Value) {i : Nat} (h : l.length ≤ i) : l.getD i undef = undef := by
  rw [List.getD_eq_getElem?_getD, List.getElem?_eq_none h]; rfl
/-- A row in a block, with its cells. -/
def RowBox (W : World) (g : Nat) (tk : ByteArray) (a : Option Addr) (m c : Nat) (cs : List Cl) : Prop := W.heap[g]? = some (.cells #[.string tk, .slice a m c] 25 (0, 0)) ∧ Cls W a m c cs
theorem RowBox.kept {W W' : World} {g : Nat} {tk : ByteArray} {a : Option Addr} {m c : Nat} {cs : List Cl} (h : RowBox W g tk a m c cs) (hb : Below W.heap.size W W') : RowBox W' g tk a m c cs := ⟨heap_below h.1 hb, h.2.below hb⟩
theorem RowBox.cls {W : World} {g : Nat} {tk : ByteArray} {a : Option Addr} {m c : Nat} {cs : List Cl} (h : RowBox W g tk a m c cs) : Cls W a m c cs := h.2
theorem RowBox.cs {W : World} {g : Nat} {tk : ByteArray} {a : Option Addr} {m c : Nat} {cs : List Cl} (h : RowBox W g tk a m c cs) : W.cell? ⟨g, 0, none⟩ = some (.string tk) ∧ W.cell? ⟨g, 1, none⟩ = some (.slice a m c) ∧ ∀ i, W.frozen? ⟨g, i, none⟩ = false := row_cells h.1
theorem Wrote.row {W : World} {g : Nat} {k0 : ByteArray} {v0 : Value} (h : W.heap[g]? = some (.cells #[.string k0, v0] 25 (0, 0))) (k : ByteArray) (v : Value) :
    Wrote g #[.string k, v] 25 W ((W.setCell ⟨g, 0, none⟩ (.string k)).setCell ⟨g, 1, none⟩ v) := by
  have h1 := Wrote.of_set (Below.refl _ W) h 0 (.string k)
  have h2 := Wrote.of_set (Below.refl _ _) h1.cell 1 v
  exact (h1.trans h2 : Wrote g _ _ _ _)
theorem rowsAt_three {W : World} {q : Nat} {k1 k2 k3 : List UInt8} {t1 t2 t3 : ByteArray} {a1 a2 a3 : Option Addr} {m1 m2 m3 c1 c2 c3 : Nat} {l1 l2 l3 : List Cl} {t : TypeId} (h : W.heap[q]? = some (.cells #[.string t1, .slice a1 m1 c1, .string t2, .slice a2 m2 c2, .string t3, .slice a3 m3 c3] t (0, 0)))
    (e1 : text k1 = t1) (e2 : text k2 = t2) (e3 : text k3 = t3) (h1 : Cls W a1 m1 c1 l1) (h2 : Cls W a2 m2 c2 l2) (h3 : Cls W a3 m3 c3 l3) : RowsAt W q [(k1, l1), (k2, l2), (k3, l3)] := by
  intro i hi
  subst e1 e2 e3
  have : i = 0 ∨ i = 1 ∨ i = 2 := by simp at hi; omega
  rcases this with rfl | rfl | rfl
  · exact ⟨a1, m1, c1, (cell_of_row W q 0 _ _ (0, 0) h).trans rfl, (cell_of_row W q 1 _ _ (0, 0) h).trans rfl, h1⟩
  · exact ⟨a2, m2, c2, (cell_of_row W q 2 _ _ (0, 0) h).trans rfl, (cell_of_row W q 3 _ _ (0, 0) h).trans rfl, h2⟩
  · exact ⟨a3, m3, c3, (cell_of_row W q 4 _ _ (0, 0) h).trans rfl, (cell_of_row W q 5 _ _ (0, 0) h).trans rfl, h3⟩
theorem rowsAt_two {W : World} {q : Nat} {k1 k2 : List UInt8} {t1 t2 : ByteArray} {a1 a2 : Option Addr} {m1 m2 c1 c2 : Nat} {l1 l2 : List Cl} {t : TypeId} (h : W.heap[q]? = some (.cells #[.string t1, .slice a1 m1 c1, .string t2, .slice a2 m2 c2] t (0, 0)))
    (e1 : text k1 = t1) (e2 : text k2 = t2) (h1 : Cls W a1 m1 c1 l1) (h2 : Cls W a2 m2 c2 l2) : RowsAt W q [(k1, l1), (k2, l2)] := by
  intro i hi
  subst e1 e2
  have : i = 0 ∨ i = 1 := by simp at hi; omega
  rcases this with rfl | rfl
  · exact ⟨a1, m1, c1, (cell_of_row W q 0 _ _ (0, 0) h).trans rfl, (cell_of_row W q 1 _ _ (0, 0) h).trans rfl, h1⟩
  · exact ⟨a2, m2, c2, (cell_of_row W q 2 _ _ (0, 0) h).trans rfl, (cell_of_row W q 3 _ _ (0, 0) h).trans rfl, h2⟩
end Go.Proofs.YtkjpmdpljdgcjaaDoor
end

section
/-
  Row: the reference's Copy.
-/
namespace Go.Proofs.YtkjpmdpljdgcjaaDoor
open Go.RowKit Go Go.Sort
set_option linter.unusedVariables false
set_option maxRecDepth 20000

theorem run_append_zero {P : Program} (w : World) (t tx ty e : TypeId) (i : TypeInfo) (ht : P.underlying t = some (.slice e)) (hi : P.info? e = some i) (x : Value) (hs : Src P i.size tx x 0 [] w) :
    (Builtin.append_ #[t, tx] ty #[.slice none 0 0, x]).run P w = .ok (.slice none 0 0) w := by
  rcases hs.kind with ⟨e', hk⟩ | hk <;> simp [Builtin.append_, run_underlying ht, run_underlying hk, sizeOf, typeInfo, hi, hs.len, hs.cells]
/-- append(nil, cs...), cells onto none. -/
theorem wpList_append_cells {w : World} {ops : Array Oper} {rest : List Oper} {o : Oper} {ac : Act} {Q : Exit → Act → World → Prop} (hgd : o.guard = none) (os ox : Operand)
    (ho : o.op = .call { callee := .builtin .append, args := #[os, ox], argTypes := #[23, 23] })
    {base : Nat} (hs : ac.eval os = .slice none 0 0) {x : Option Addr} {m cap : Nat} {cs : List Cl} (hx : ac.eval ox = .slice x m cap) (hl : Cls w x m cap cs) (hm : m ≤ 1000000) (hbase : base ≤ w.heap.size)
    (h : ∀ v' w', OwnC w' base v' cs → w.grownBy w' none → wpList Tryd.prog ops Q rest (ac.put o.dst v') w') :
    wpList Tryd.prog ops Q (o :: rest) ac w := by
  obtain ⟨i0, hi, hz0, hz1, hz2⟩ := info_parts Tryd.infoC
  have hll := hl.len
  rcases hl.src with ⟨hc, h0⟩ | ⟨a, rfl, hsrc⟩
  · have hcs : cs = [] := List.eq_nil_of_length_eq_zero (by omega)
    subst h0 hcs
    refine wpList_plain hgd fun K hK => ?_
    have hsr : Src Tryd.prog i0.size 23 (.slice x 0 cap) 0 [] w := by
      cases x with
      | none => exact Src.ofNil w Tryd.underlying23 cap
      | some a => exact Src.ofSlice w Tryd.underlying23 a 0 cap [] (by simp) (by simp) (by simp)
    have hr := run_append_zero (P := Tryd.prog) w 23 23 o.type 50 i0 Tryd.underlying23 hi (.slice x 0 cap) hsr
    unfold Oper.wp execOp
    simp only [ho, resolve, invoke, builtin, Sem.run_bind, Sem.run_pure, Result.andThen_ok, List.map_toArray, List.map_cons, List.map_nil, hs, hx, hr]
    exact hK _ _ (h _ _ (OwnC.nil _ _) (World.grownBy.refl _ _))
  · refine wpList_append_own_wide (P := Tryd.prog) w hgd os ox 23 ho base 50 i0 _ 8 72 Tryd.underlying23 hi hz0 hz1 hz2 rfl (by decide) (.slice none 0 0) 0 [] hs (World.ownsRow_nil _ _ _ _)
      a m cap (cCells cs) hx (by rw [cCells_length, hll]) hsrc (cCells_one cs) (by unfold maxLen; omega) (by omega) hbase ?_
    intro v' w' h2 h3 _
    refine h v' w' ?_ h3
    unfold OwnC
    rw [hll]
    simpa using h2

set_option maxRecDepth 100000 in
set_option maxHeartbeats 3200000 in
theorem rcopy_c {w : World} {x : Option Addr} {m cap : Nat} {cs : List Cl} (hl : Cls w x m cap cs) (hm : m ≤ 1000000) (key : ByteArray) :
    Calls Tryd.prog 22 #[.agg #[.string key, .slice x m cap]] w (fun e w' => ∃ v, e = .returned (.agg #[.string key, v]) ∧ OwnC w' w.heap.size v cs ∧ Below w.heap.size w w') := by
  have hb := (alloc_below w (.cells #[.string key, .slice x m cap] 25)).alloc (by simp) (.cells #[.string ⟨#[]⟩, .slice none 0 0] 25)
  have hr0 : ((w.alloc (.cells #[.string key, .slice x m cap] 25)).alloc (.cells #[.string ⟨#[]⟩, .slice none 0 0] 25)).heap[w.heap.size]? = some (.cells #[.string key, .slice x m cap] 25 (0, 0)) := (Below.heap_alloc _ _ _ (by simp)).trans (heap_alloc_new w _)
  have hr1 := heap_alloc_new (w.alloc (.cells #[.string key, .slice x m cap] 25)) (.cells #[.string ⟨#[]⟩, .slice none 0 0] 25)
  rw [World.size_alloc] at hr1
  have HL := Lib.hid hl
  clear hl
  go_enter Tryd.func22, Tryd.ntmps22
  go_upto_region 1 with (fail)
  obtain ⟨B, hB⟩ : ∃ q, w.heap.size = q := ⟨_, rfl⟩
  have HBe := Lib.hid hB
  rw [hB] at hr0 hr1 ⊢
  clear hB
  generalize (w.alloc (.cells #[.string key, .slice x m cap] 25)).alloc (.cells #[.string ⟨#[]⟩, .slice none 0 0] 25) = W1 at *
  obtain ⟨r0, r1, -⟩ := row_cells hr0
  have HR0 := Lib.hid hr0
  have HR1 := Lib.hid hr1
  have HB1 := Lib.hid hb
  clear hr0 hr1 hb
  go_upto_region 2 with (fail)
  have hal := alloc_below W1 (.cells #[.string key, .slice none 0 0] 25)
  have hn := heap_alloc_new W1 (.cells #[.string key, .slice none 0 0] 25)
  have HB2 := Lib.hid (HB1.out.trans (hal.mono HB1.out.size))
  have hr0 := heap_below HR0.out hal
  have hr1 := heap_below HR1.out hal
  have hql : B + 1 < W1.heap.size := (Array.getElem?_eq_some_iff.1 HR1.out).1
  obtain ⟨q, hq⟩ : ∃ q, W1.heap.size = q := ⟨_, rfl⟩
  rw [hq] at hn hql ⊢
  generalize W1.alloc (.cells #[.string key, .slice none 0 0] 25) = W2 at *
  clear hal hq HR0 HR1 HB1 r0 r1
  obtain ⟨r0, r1, -⟩ := row_cells hr0
  obtain ⟨n0, n1, nf⟩ := row_cells hn
  have HN := Lib.hid hn
  have HR1 := Lib.hid hr1
  have HQL := Lib.hid hql
  have HLW := Lib.hid (HL.out.below HB2.out)
  clear hn hr1 hql
  go_upto_region 3 with (at_builtin; refine wpList_append_cells rfl (.tmp 8) (.tmp 10) rfl rfl rfl HLW.out hm HB2.out.size ?_; intro v3 w3 ho3 hg3; have HN3 := Lib.hid (heap_grown HN.out hg3 (by simp)); obtain ⟨m0, m1, mf⟩ := row_cells HN3.out; have HO3 := Lib.hid ho3; have HB3 := Lib.hid (HB2.out.grown hg3 HB2.out.size (fun k e => by cases e)); have HR3 := Lib.hid (heap_grown HR1.out hg3 (by simp)); obtain ⟨a3, c3, rfl, -⟩ := ho3.cls; clear hg3 ho3)
  clear HN HR1 HLW HB2 HL r0 r1 n0 n1 nf m0 m1 mf
  have hqw := HQL.out
  have hn4 : (w3.setCell ⟨q, 1, none⟩ (.slice a3 cs.length c3)).heap[q]? = some (.cells #[.string key, .slice a3 cs.length c3] 25 (0, 0)) := (heap_setCell_same w3 q 1 _ _ _ HN3.out).trans rfl
  have hr4 : (w3.setCell ⟨q, 1, none⟩ (.slice a3 cs.length c3)).heap[B + 1]? = some (.cells #[.string ⟨#[]⟩, .slice none 0 0] 25 (0, 0)) := (Below.heap_setCell w3 ⟨q, 1, none⟩ _ (B + 1) (by simp; omega)).trans HR3.out
  have ho4 : OwnC (w3.setCell ⟨q, 1, none⟩ (.slice a3 cs.length c3)) w.heap.size (.slice a3 cs.length c3) cs := own_set HN3.out (by decide) HO3.out
  have HB4 := Lib.hid (HB3.out.setCell (p := ⟨q, 1, none⟩) (by have := HBe.out; simp; omega) (.slice a3 cs.length c3))
  generalize w3.setCell ⟨q, 1, none⟩ (.slice a3 cs.length c3) = W4 at *
  obtain ⟨n0, n1, -⟩ := row_cells hn4
  obtain ⟨z0, z1, zf⟩ := row_cells hr4
  have HS := Lib.hid (row_set hr4 key (.slice a3 cs.length c3))
  have HR4 := Lib.hid hr4
  have HO4 := Lib.hid ho4
  clear hn4 hr4 ho4 HN3 HR3 HO3 HB3 hqw HQL
  go_wp2
  refine bodyPost_ret (results_cell_row rfl _ _ (B + 1) 25 _ (0, 0) _ rfl HS.out Tryd.underlying25 rfl (by kernel_rfl)) rfl ⟨_, rfl, ?_, (HB4.out.setCell (p := ⟨B + 1, 0, none⟩) (by have := HBe.out; simp; omega) _).setCell (p := ⟨B + 1, 1, none⟩) (by have := HBe.out; simp; omega) _⟩
  exact own_set (i := 1) (show (W4.setCell ⟨B + 1, 0, none⟩ (.string key)).heap[B + 1]? = _ from (heap_setCell_same _ _ 0 _ _ _ HR4.out).trans rfl) (by decide) (own_set (i := 0) HR4.out (by decide) HO4.out)
end Go.Proofs.YtkjpmdpljdgcjaaDoor
end

section
/-
  Row: the reference's Write; a cell put into a row of the call's own.
-/
namespace Go.Proofs.YtkjpmdpljdgcjaaDoor
open Go.RowKit Go Go.Sort
set_option linter.unusedVariables false
set_option maxRecDepth 20000

theorem take_cell {cur : Array Value} {cs : List Cl} (ht : cur.toList.take (cs.length * 8) = cCells cs) {j : Nat} (hj : j < cs.length * 8) : cur[j]? = (cCells cs)[j]? := by
  rw [← ht, List.getElem?_take, if_pos hj]
  simp
/-- A cell put into a row of the call's own. -/
theorem own_put {W : World} {B g m c k : Nat} {cs : List Cl} (h : OwnC W B (.slice (some ⟨g, 0, none⟩) m c) cs) (hk : k < cs.length) (n9 s9 a9 b9 : Int) (g9 : Bool) (t9 : List UInt8) (d9 e9 : Int) :
    OwnC (((((((((W.setCell ⟨g, k * 8, none⟩ (.int .i64 n9)).setCell ⟨g, k * 8 + 1, none⟩ (.int .i64 s9)).setCell ⟨g, k * 8 + 2, none⟩ (.int .i64 a9)).setCell ⟨g, k * 8 + 3, none⟩ (.int .i64 b9)).setCell ⟨g, k * 8 + 4, none⟩ (.bool g9)).setCell ⟨g, k * 8 + 5, none⟩ (.string (text t9))).setCell ⟨g, k * 8 + 6, none⟩ (.int .i64 d9)).setCell ⟨g, k * 8 + 7, none⟩ (.int .i64 e9))) B (.slice (some ⟨g, 0, none⟩) m c) (cs.set k ⟨n9, s9, a9, b9, g9, t9, d9, e9⟩) := by
  obtain ⟨hlen, ⟨ev, -⟩ | ⟨g', cap, cur, ev, hB, hg, hnc, hcm, hcs, htake⟩⟩ := h
  · cases ev
  · injection ev with e1 e2 e3
    injection e1 with e1
    injection e1 with e1
    subst e1 e2 e3
    have h0 := heap_setCell_same W g (k * 8) _ _ (.int .i64 n9) hg
    have h1 := heap_setCell_same _ g (k * 8 + 1) _ _ (.int .i64 s9) h0
    have h2 := heap_setCell_same _ g (k * 8 + 2) _ _ (.int .i64 a9) h1
    have h3 := heap_setCell_same _ g (k * 8 + 3) _ _ (.int .i64 b9) h2
    have h4 := heap_setCell_same _ g (k * 8 + 4) _ _ (.bool g9) h3
    have h5 := heap_setCell_same _ g (k * 8 + 5) _ _ (.string (text t9)) h4
    have h6 := heap_setCell_same _ g (k * 8 + 6) _ _ (.int .i64 d9) h5
    have h7 := heap_setCell_same _ g (k * 8 + 7) _ _ (.int .i64 e9) h6
    have hl2 : (cs.set k (⟨n9, s9, a9, b9, g9, t9, d9, e9⟩ : Cl)).length = cs.length := List.length_set
    refine ⟨by rw [cCells_length], .inr ⟨g, c, _, by rw [hl2], hB, h7, by rw [hl2]; exact hnc, hcm, by simpa using hcs, ?_⟩⟩
    rw [hl2]
    apply List.ext_getElem?
    intro j
    have hcl := cCells_length cs
    have hcl2 := cCells_length (cs.set k ⟨n9, s9, a9, b9, g9, t9, d9, e9⟩)
    rw [hl2] at hcl2
    rw [List.getElem?_take]
    by_cases hj : j < cs.length * 8
    · rw [if_pos hj]
      have hc := take_cell htake hj
      have hsz : cs.length * 8 ≤ cur.size := by
        have h9 := congrArg List.length htake
        rw [List.length_take, hcl] at h9
        simp at h9
        omega
      simp only [Array.getElem?_toList, Array.getElem?_setIfInBounds, Array.size_setIfInBounds]
      have hd : j / 8 < cs.length := by omega
      have hm : j % 8 < 8 := Nat.mod_lt _ (by omega)
      have e8 : j / 8 * 8 + j % 8 = j := by omega
      have g1 := cCells_get cs (j / 8) (j % 8) hd hm
      have g2 := cCells_get (cs.set k ⟨n9, s9, a9, b9, g9, t9, d9, e9⟩) (j / 8) (j % 8) (by rw [hl2]; exact hd) hm
      rw [e8] at g1 g2
      rw [g2, hc, g1]
      obtain ⟨r, hr⟩ : ∃ r, j % 8 = r := ⟨_, rfl⟩
      rw [hr] at hm e8 ⊢
      by_cases hq : j / 8 = k
      · rw [hq] at e8 ⊢
        have e9 : (cs.set k (⟨n9, s9, a9, b9, g9, t9, d9, e9⟩ : Cl)).getD k Cl.zero = ⟨n9, s9, a9, b9, g9, t9, d9, e9⟩ := by simp [hk]
        rw [e9]
        subst e8
        have hk8 : k * 8 + 7 < cs.length * 8 := by omega
        rcases (by omega : r = 0 ∨ r = 1 ∨ r = 2 ∨ r = 3 ∨ r = 4 ∨ r = 5 ∨ r = 6 ∨ r = 7) with rfl | rfl | rfl | rfl | rfl | rfl | rfl | rfl
        all_goals
          repeat rw [if_neg (by omega)]
          rw [if_pos (by omega), if_pos (by omega)]
          rfl
      · have e9 : (cs.set k (⟨n9, s9, a9, b9, g9, t9, d9, e9⟩ : Cl)).getD (j / 8) Cl.zero = cs.getD (j / 8) Cl.zero := by
          simp only [List.getD_eq_getElem?_getD, List.getElem?_set]
          rw [if_neg (fun e => hq e.symm)]
        rw [e9]
        repeat rw [if_neg (by omega)]
    · rw [if_neg hj, List.getElem?_eq_none (by omega)]
/-- What a row of the call's own holds at a place. -/
theorem own_at {W : World} {B m c g : Nat} {cs : List Cl} (h : OwnC W B (.slice (some ⟨g, 0, none⟩) m c) cs) {k : Nat} (hk : k < cs.length) : ∀ W', Below W.heap.size W W' → W'.cell? ⟨g, k * 8, none⟩ = some (.int .i64 (cs.getD k Cl.zero).n) ∧ W'.cell? ⟨g, k * 8 + 1, none⟩ = some (.int .i64 (cs.getD k Cl.zero).s) ∧ W'.cell? ⟨g, k * 8 + 2, none⟩ = some (.int .i64 (cs.getD k Cl.zero).a) ∧ W'.cell? ⟨g, k * 8 + 3, none⟩ = some (.int .i64 (cs.getD k Cl.zero).b) ∧
    W'.cell? ⟨g, k * 8 + 4, none⟩ = some (.bool (cs.getD k Cl.zero).g) ∧ W'.cell? ⟨g, k * 8 + 5, none⟩ = some (.string (text (cs.getD k Cl.zero).t)) ∧ W'.cell? ⟨g, k * 8 + 6, none⟩ = some (.int .i64 (cs.getD k Cl.zero).d) ∧ W'.cell? ⟨g, k * 8 + 7, none⟩ = some (.int .i64 (cs.getD k Cl.zero).e) := by
  obtain ⟨a, cap, ev, hc⟩ := h.cls
  injection ev with e1 e2 e3
  subst e1 e2 e3
  intro W' hb
  obtain ⟨b, off, e, hat⟩ := hc.at hk
  injection e with e
  injection e with e4 e5
  subst e4 e5
  have := hat W' hb
  rw [Nat.zero_add] at this
  exact this
/-- The block of a row of the call's own is not frozen. -/
theorem own_fz {W : World} {B m c g : Nat} {cs : List Cl} (h : OwnC W B (.slice (some ⟨g, 0, none⟩) m c) cs) (i : Nat) : W.frozen? ⟨g, i, none⟩ = false := by
  obtain ⟨hlen, ⟨ev, -⟩ | ⟨g', cap, cur, ev, hB, hg, hnc, hcm, hcs, htake⟩⟩ := h
  · cases ev
  · injection ev with e1 e2 e3
    injection e1 with e1
    injection e1 with e1
    subst e1
    exact frozen_of_row _ g i _ _ hg
theorem own_some {W : World} {B : Nat} {v : Value} {cs : List Cl} (h : OwnC W B v cs) (hp : 0 < cs.length) : ∃ g c, v = .slice (some ⟨g, 0, none⟩) cs.length c ∧ B ≤ g ∧ cs.length ≤ c ∧ g < W.heap.size := by
  obtain ⟨hlen, ⟨ev, hn⟩ | ⟨g', cap, cur, ev, hB, hg, hnc, hcm, hcs, htake⟩⟩ := h
  · omega
  · exact ⟨g', cap, ev, hB, hnc, (Array.getElem?_eq_some_iff.1 hg).1⟩
theorem put8_below {w W : World} {B g k : Nat} (hb : Below B w W) (hg : B ≤ g) (n9 s9 a9 b9 : Int) (g9 : Bool) (t9 : List UInt8) (d9 e9 : Int) : Below B w (((((((((W.setCell ⟨g, k * 8, none⟩ (.int .i64 n9)).setCell ⟨g, k * 8 + 1, none⟩ (.int .i64 s9)).setCell ⟨g, k * 8 + 2, none⟩ (.int .i64 a9)).setCell ⟨g, k * 8 + 3, none⟩ (.int .i64 b9)).setCell ⟨g, k * 8 + 4, none⟩ (.bool g9)).setCell ⟨g, k * 8 + 5, none⟩ (.string (text t9))).setCell ⟨g, k * 8 + 6, none⟩ (.int .i64 d9)).setCell ⟨g, k * 8 + 7, none⟩ (.int .i64 e9))) := cells_put_below hb hg n9 s9 a9 b9 g9 t9 d9 e9
theorem write_neg {gs : List Grp} {key : List UInt8} {cs : List Cl} {k : Int} {c : Cl} (h : rgoodS gs key cs = 0) (h2 : k < 0 ∨ (gs.length : Int) ≤ k) : rwriteS gs key cs k c = ([], [], 70) := by
  have hp : pofS gs k = (0, 70) := by
    unfold pofS
    rw [if_pos (rgood_inv h).1, if_pos h2]
  rw [write_grp h (by rw [hp]; decide), hp]
theorem pof_in {gs : List Grp} {i : Nat} (h : pgoodS gs = 0) (hi : i < gs.length) : pofS gs (i : Int) = ((gs.getD i ([], 0)).2, 0) := by
  unfold pofS
  rw [if_pos h, if_neg (by omega), Int.toNat_natCast]

set_option maxRecDepth 100000 in
set_option maxHeartbeats 12800000 in
theorem rrowwrite_c {w : World} {x x2 : Option Addr} {n1 cap m cap2 : Nat} {gs : List Grp} {cs : List Cl} (hg : Grs w x n1 cap gs) (hs : ∀ g ∈ gs, g.1.length ≤ 9223372036854775807)
    (hl : Cls w x2 m cap2 cs) (hx : ∀ c ∈ cs, c.t.length ≤ 9223372036854775807) (key : List UInt8) (hk : key.length ≤ 9223372036854775807) (k : Int) (n s a b : Int) (g : Bool) (t : List UInt8) (d e : Int) (ht : t.length ≤ 9223372036854775807) :
    Calls Tryd.prog 24 #[.slice x n1 cap, .agg #[.string (text key), .slice x2 m cap2], .int .i64 k, .agg #[.int .i64 n, .int .i64 s, .int .i64 a, .int .i64 b, .bool g, .string (text t), .int .i64 d, .int .i64 e]] w (RowPost (rwriteS gs key cs k ⟨n, s, a, b, g, t, d, e⟩) w) := by
  have hgl := hg.len
  have hll := hl.len
  have hle1 := hg.le
  have hmax1 := hg.max
  have hle2 := hl.le
  have hmax2 := hl.max
  have hGD := fun W (h : Below w.heap.size w W) => rrowgood_c (hg.below h) hs (hl.below h) hx key hk
  have hCG := fun p W => rcgood_c p n s a b g t d e ht W
  have hCP := fun (hm : m ≤ 1000000) W (h : Below w.heap.size w W) => rcopy_c (hl.below h) hm (text key)
  have H0 := Lib.hid (@write_bad gs key cs k ⟨n, s, a, b, g, t, d, e⟩)
  have H1 := Lib.hid (@write_neg gs key cs k ⟨n, s, a, b, g, t, d, e⟩)
  have H2 := Lib.hid (@write_cell gs key cs k ⟨n, s, a, b, g, t, d, e⟩)
  have H3 := Lib.hid (fun (i : Nat) => @write_in gs key cs i ⟨n, s, a, b, g, t, d, e⟩)
  have HIN := Lib.hid (@rgood_inv gs key cs)
  have HPI := Lib.hid (fun i => @pof_in gs i)
  have HUP := Lib.hid (fun (i : Nat) (h : rgoodS gs key cs = 0) (hi : i < cs.length) => join_two (b := ⟨n, s, a, b, g, t, d, e⟩) (good_up (good_at h hi)))
  have HL := Lib.hid hl
  have HG := Lib.hid hg
  obtain ⟨RV, hRV⟩ : ∃ z, rwriteS gs key cs k ⟨n, s, a, b, g, t, d, e⟩ = z := ⟨_, rfl⟩
  obtain ⟨R, hR⟩ : ∃ z, rgoodS gs key cs = z := ⟨_, rfl⟩
  have HRV := Lib.hid hRV
  rw [hR, hRV] at H0 H1 H2
  rw [hR] at HIN H3 HUP
  simp only [hR] at hGD
  rw [hRV]
  obtain ⟨tk, htk⟩ : ∃ z, text key = z := ⟨_, rfl⟩
  rw [htk] at hGD hCP ⊢
  have HTK := Lib.hid htk
  have hb := ((alloc_below w (.cells #[.string tk, .slice x2 m cap2] 25)).alloc (by simp) (.cells #[.int .i64 n, .int .i64 s, .int .i64 a, .int .i64 b, .bool g, .string (text t), .int .i64 d, .int .i64 e] 50)).alloc (by simp; omega) (.cells #[.string ⟨#[]⟩, .slice none 0 0] 25)
  have hr : (((w.alloc (.cells #[.string tk, .slice x2 m cap2] 25)).alloc (.cells #[.int .i64 n, .int .i64 s, .int .i64 a, .int .i64 b, .bool g, .string (text t), .int .i64 d, .int .i64 e] 50)).alloc (.cells #[.string ⟨#[]⟩, .slice none 0 0] 25)).heap[w.heap.size]? = some (.cells #[.string tk, .slice x2 m cap2] 25 (0, 0)) := (Below.heap_alloc _ _ _ (by simp; omega)).trans ((Below.heap_alloc _ _ _ (by simp)).trans (heap_alloc_new w _))
  have hc : Cel (((w.alloc (.cells #[.string tk, .slice x2 m cap2] 25)).alloc (.cells #[.int .i64 n, .int .i64 s, .int .i64 a, .int .i64 b, .bool g, .string (text t), .int .i64 d, .int .i64 e] 50)).alloc (.cells #[.string ⟨#[]⟩, .slice none 0 0] 25)) (w.heap.size + 1) n s a b g t d e := by
    have := (Cel.new (w.alloc (.cells #[.string tk, .slice x2 m cap2] 25)) n s a b g t d e).kept (alloc_below _ (.cells #[.string ⟨#[]⟩, .slice none 0 0] 25))
    rwa [World.size_alloc] at this
  have hz := heap_alloc_new ((w.alloc (.cells #[.string tk, .slice x2 m cap2] 25)).alloc (.cells #[.int .i64 n, .int .i64 s, .int .i64 a, .int .i64 b, .bool g, .string (text t), .int .i64 d, .int .i64 e] 50)) (.cells #[.string ⟨#[]⟩, .slice none 0 0] 25)
  simp only [World.size_alloc] at hz
  have HGD := Lib.hid hGD
  have HCG := Lib.hid hCG
  have HCP := Lib.hid hCP
  clear hGD hCG hCP hRV hR htk hg hs hl hx hk ht
  go_enter Tryd.func24, Tryd.ntmps24
  go_upto_region 1 with (fail)
  obtain ⟨B, hB⟩ : ∃ q, w.heap.size = q := ⟨_, rfl⟩
  have HBe := Lib.hid hB
  rw [hB] at hr hc hz ⊢
  clear hB
  generalize ((w.alloc (.cells #[.string tk, .slice x2 m cap2] 25)).alloc (.cells #[.int .i64 n, .int .i64 s, .int .i64 a, .int .i64 b, .bool g, .string (text t), .int .i64 d, .int .i64 e] 50)).alloc (.cells #[.string ⟨#[]⟩, .slice none 0 0] 25) = W1 at *
  obtain ⟨r0, r1, -⟩ := row_cells hr
  have HR1 := Lib.hid hr
  have HC1 := Lib.hid hc
  have HZ1 := Lib.hid hz
  have HB1 := Lib.hid hb
  clear hr hc hz hb
  have hbad : ∀ (f : Int), RV = ([], [], f) → ∀ (W : World), Below W1.heap.size W1 W → RowPost RV w (.returned (.tuple #[.agg #[.string ⟨#[]⟩, .slice none 0 0], .int .i64 f])) ((W.setCell ⟨B + 1 + 1, 0, none⟩ (.string ⟨#[]⟩)).setCell ⟨B + 1 + 1, 1, none⟩ (.slice none 0 0)) := fun f h W hW => by
    rw [h]
    exact ⟨_, rfl, OwnC.nil _ _, ((HB1.out.trans (hW.mono HB1.out.size)).setCell (p := ⟨B + 1 + 1, 0, none⟩) (by have := HBe.out; simp; omega) _).setCell (p := ⟨B + 1 + 1, 1, none⟩) (by have := HBe.out; simp; omega) _⟩
  have HBAD := Lib.hid hbad
  clear hbad
  go_upto_region 2 with (go_at_call 15; (with_reducible refine (HGD.out _ HB1.out).mono ?_); rintro e9 w2 ⟨rfl, hb2⟩; have HX2 := Lib.hid hb2; clear hb2)
  have HB2 := Lib.hid (HB1.out.trans (HX2.out.mono HB1.out.size))
  have HR2 := Lib.hid (heap_below HR1.out HX2.out)
  have HC2 := Lib.hid (HC1.out.kept HX2.out)
  have HZ2 := Lib.hid (heap_below HZ1.out HX2.out)
  clear r0 r1 HGD HR1 HC1
  obtain ⟨r0, r1, -⟩ := row_cells HR2.out
  by_cases h0 : R = 0
  · subst h0
    have hpg := (HIN.out (by first | rfl | trivial)).1
    have hlen := (HIN.out (by first | rfl | trivial)).2.2.1
    have h4 := pgood_len hpg
    by_cases h1 : k < 0
    · have HRR := Lib.hid (H1.out (by first | rfl | trivial) (.inl h1))
      obtain ⟨z0, z1, zf⟩ := row_cells HZ2.out
      have HSB := Lib.hid (row_set HZ2.out ⟨#[]⟩ (.slice none 0 0))
      clear H0 H1 H2 H3 HUP HIN HPI
      go_wp2
      exact bodyPost_ret (res_cell_tmp rfl _ _ (B + 1 + 1) 25 _ (0, 0) _ (.int .i64 70) rfl rfl HSB.out Tryd.underlying25 rfl (by kernel_rfl)) rfl (HBAD.out _ HRR.out _ (HX2.out))
    · by_cases h2 : (n1 : Int) ≤ k
      · have HRR := Lib.hid (H1.out (by first | rfl | trivial) (.inr (by rw [hgl]; exact h2)))
        obtain ⟨z0, z1, zf⟩ := row_cells HZ2.out
        have HSB := Lib.hid (row_set HZ2.out ⟨#[]⟩ (.slice none 0 0))
        clear H0 H1 H2 H3 HUP HIN HPI
        go_wp2
        exact bodyPost_ret (res_cell_tmp rfl _ _ (B + 1 + 1) 25 _ (0, 0) _ (.int .i64 70) rfl rfl HSB.out Tryd.underlying25 rfl (by kernel_rfl)) rfl (HBAD.out _ HRR.out _ (HX2.out))
      · obtain ⟨i, rfl⟩ : ∃ i : Nat, k = (i : Int) := ⟨k.toNat, by omega⟩
        have hin : i < n1 := by omega
        have hig : i < gs.length := by omega
        have hlk : i < cs.length := by omega
        have hlm : i < m := by omega
        have hm4 : m ≤ 4 := by omega
        have hki1 : (i : Int) < (cap : Int) := by omega
        have hkin : (i : Int) < (n1 : Int) := by omega
        have hk0 : ¬ (i : Int) < 0 := by omega
        have hkim : (i : Int) < (m : Int) := by omega
        have hkic : (i : Int) < (cap2 : Int) := by omega
        have hpi := HPI.out i hpg hig
        rw [hpi] at H2
        simp only at H2
        obtain ⟨bg, og, rfl, hatg⟩ := HG.out.at hin
        obtain ⟨⟨nm, pk⟩, hgk⟩ : ∃ y, gs.getD i ([], 0) = y := ⟨_, rfl⟩
        rw [hgk] at hatg H2
        simp only at H2 hatg
        have hH3 := H3.out i (by first | rfl | trivial) hlk
        rw [hgk] at hH3
        simp only at hH3
        have hup := HUP.out i (by first | rfl | trivial) hlk
        obtain ⟨C, hC⟩ : ∃ z, (⟨n, s, a, b, g, t, d, e⟩ : Cl).good pk = z := ⟨_, rfl⟩
        rw [hC] at hH3 H2
        have hcg := HCG.out pk
        rw [show cgoodS pk n s a b g t d e = C from hC] at hcg
        have HCGK := Lib.hid hcg
        have HH3 := Lib.hid hH3
        have HUPI := Lib.hid hup
        have HATG := Lib.hid (fun W (h : Below w2.heap.size w2 W) => (hatg W (HB2.out.trans (h.mono HB2.out.size))).2)
        have HCW := Lib.hid (fun W (h : Below w2.heap.size w2 W) => (HC2.out.kept h).cs)
        clear hcg hH3 hup hatg hgk hC hpi H0 H1 H3 HUP HIN HPI HCG HG hpg
        go_upto_region 6 with (fail)
        clear r0 r1
        refine wp_region_flow [none, none, none, none, none, none, none, none, none, none, none, none, none, none, none, none, none, none, none, none, none, none, none, none, none, none, none, none, some 0, some 1, some 2, some 3, some 4, some 5, some 6, some 7, none, none, none, none, none, none, none, none, none, none, none, none, none, none, none] (fun i => [undef, undef, undef, undef, undef, undef, undef, undef].getD i undef) [(fun v _ => v = .slice (some ⟨bg, og, none⟩) n1 cap), (fun v _ => v = .int .i64 (i : Int)), (fun v _ => v = .pointer (some ⟨bg, og + i * 2, none⟩)), (fun v _ => v = .pointer (some ⟨bg, og + i * 2 + 1, none⟩)), (fun v _ => v = .int .i64 pk), (fun v _ => v = .agg #[.int .i64 n, .int .i64 s, .int .i64 a, .int .i64 b, .bool g, .string (text t), .int .i64 d, .int .i64 e]), (fun v _ => v = .bool C), (fun v _ => v = .bool (!C))] (by kernel_rfl) (by kernel_rfl) rfl rfl rfl ?_ ?_ ?_
        · intro g hg v X Y hX hY hv
          simp only [List.mem_cons, List.not_mem_nil, or_false] at hg
          rcases hg with rfl | rfl | rfl | rfl | rfl | rfl | rfl | rfl
          all_goals first
            | exact hv
            | exact hv.kept hY
        · simp only [flowOps, and_true]
          refine ⟨?_, ?_, ?_, ?_, ?_, ?_, ?_, ?_⟩
          · intro xs W hW hn
            simp only [flowAct, List.zipWith_cons_cons, List.zipWith_nil_left]
            go_wp2_with (fail)
            exact ⟨rfl, _, rfl, Below.refl _ _, rfl⟩
          · intro xs W hW hn
            simp only [flowAct, List.zipWith_cons_cons, List.zipWith_nil_left]
            go_wp2_with (fail)
            exact ⟨rfl, _, rfl, Below.refl _ _, rfl⟩
          · intro xs W hW hn
            simp [flowNeeds, Region.binds] at hn
            simp only [flowAct, List.zipWith_cons_cons, List.zipWith_nil_left]
            try simp only [hn]
            go_wp2_with (fail)
            exact ⟨rfl, _, rfl, Below.refl _ _, rfl⟩
          · intro xs W hW hn
            simp [flowNeeds, Region.binds] at hn
            simp only [flowAct, List.zipWith_cons_cons, List.zipWith_nil_left]
            try simp only [hn]
            go_wp2_with (fail)
            exact ⟨rfl, _, rfl, Below.refl _ _, rfl⟩
          · intro xs W hW hn
            have g1 := HATG.out W hW
            simp [flowNeeds, Region.binds] at hn
            simp only [flowAct, List.zipWith_cons_cons, List.zipWith_nil_left]
            try simp only [hn]
            go_wp2_with (fail)
            exact ⟨rfl, _, rfl, Below.refl _ _, rfl⟩
          · intro xs W hW hn
            obtain ⟨c0, c1, c2, c3, c4, c5, c6, c7⟩ := HCW.out W hW
            simp only [flowAct, List.zipWith_cons_cons, List.zipWith_nil_left]
            go_wp2_with (fail)
            exact ⟨rfl, _, rfl, Below.refl _ _, rfl⟩
          · intro xs W hW hn
            simp [flowNeeds, Region.binds] at hn
            simp only [flowAct, List.zipWith_cons_cons, List.zipWith_nil_left]
            simp only [hn]
            go_wp2_with (go_at_call 43; (with_reducible refine (HCGK.out _).mono ?_); rintro e9 w9 ⟨rfl, hb9⟩)
            exact ⟨rfl, _, rfl, hb9, rfl⟩
          · intro xs W hW hn
            simp [flowNeeds, Region.binds] at hn
            simp only [flowAct, List.zipWith_cons_cons, List.zipWith_nil_left]
            try simp only [hn]
            go_wp2_with (fail)
            exact ⟨rfl, _, rfl, Below.refl _ _, rfl⟩
        · intro xs W hW hall
          simp only [flowAll, and_true, Nat.zero_add, Nat.reduceAdd] at hall
          obtain ⟨-, -, -, -, -, -, -, e7⟩ := hall
          simp only [flowAct, List.zipWith_cons_cons, List.zipWith_nil_left]
          simp only [e7]
          have HX4 := Lib.hid (HX2.out.trans (hW.mono HX2.out.size))
          have HB3 := Lib.hid (HB2.out.trans (hW.mono HB2.out.size))
          have HR3 := Lib.hid (heap_below HR2.out hW)
          have HC3 := Lib.hid (HC2.out.kept hW)
          have HZ3 := Lib.hid (heap_below HZ2.out hW)
          clear e7 hW HX2 HB2 HR2 HC2 HZ2 HATG HCW HCGK
          rename_i W3i
          obtain ⟨W3, hW3⟩ : ∃ X, W = X := ⟨_, rfl⟩
          rw [hW3] at HX4 HB3 HR3 HC3 HZ3 ⊢
          clear hW3
          cases C with
          | false =>
            have HRR := Lib.hid (H2.out (by first | rfl | trivial) (by first | rfl | trivial) (by first | rfl | trivial))
            obtain ⟨z0, z1, zf⟩ := row_cells HZ3.out
            have HSB := Lib.hid (row_set HZ3.out ⟨#[]⟩ (.slice none 0 0))
            clear H2 HH3
            go_wp2
            exact bodyPost_ret (res_cell_tmp rfl _ _ (B + 1 + 1) 25 _ (0, 0) _ (.int .i64 80) rfl rfl HSB.out Tryd.underlying25 rfl (by kernel_rfl)) rfl (HBAD.out _ HRR.out _ (HX4.out))
          | true =>
            have HRR := Lib.hid (HRV.out.symm.trans (HH3.out (by first | rfl | trivial)))
            clear H2 HH3 HX4
            obtain ⟨r0, r1, -⟩ := row_cells HR3.out
            go_upto_region 9 with (go_at_call 22; (with_reducible refine (HCP.out (by omega) _ HB3.out).mono ?_); rintro e9 w5 ⟨v3, rfl, ho5, hb5⟩; obtain ⟨g3, c3, ev, hg3, hc3, hgs⟩ := own_some ho5 (by omega); rw [hll] at ev; subst ev)
            have hal := alloc_below w5 (.cells #[.string tk, .slice (some ⟨g3, 0, none⟩) m c3] 25)
            have HS4 := Lib.hid (heap_alloc_new w5 (.cells #[.string tk, .slice (some ⟨g3, 0, none⟩) m c3] 25))
            have HO4 := Lib.hid ((ho5.mono HB3.out.size).kept hal)
            have HC4 := Lib.hid ((HC3.out.kept hb5).kept hal)
            have HZ4 := Lib.hid (heap_below (heap_below HZ3.out hb5) hal)
            have HB4 := Lib.hid ((HB3.out.trans (hb5.mono HB3.out.size)).trans (hal.mono (Nat.le_trans HB3.out.size hb5.size)))
            have HG3 := Lib.hid (Nat.le_trans HB3.out.size hg3)
            have HSG := Lib.hid (show w5.heap.size ≠ g3 by omega)
            have HZG := Lib.hid (show B + 1 + 1 ≠ g3 by have := (Array.getElem?_eq_some_iff.1 HZ3.out).1; omega)
            obtain ⟨S, hS⟩ : ∃ q, w5.heap.size = q := ⟨_, rfl⟩
            rw [hS] at HS4 HSG ⊢
            generalize w5.alloc (.cells #[.string tk, .slice (some ⟨g3, 0, none⟩) m c3] 25) = W5 at *
            clear hal hb5 ho5 hg3 hgs hS r0 r1 HR3 HC3 HZ3 HCP HB3
            have hoat := own_at HO4.out hlk
            have hu := HUPI.out
            obtain ⟨y, hck⟩ : ∃ y, cs.getD i Cl.zero = y := ⟨_, rfl⟩
            rw [hck] at hoat hu HRR
            obtain ⟨n', s', a', b', g', t', d', e'⟩ := y
            rw [hu] at HRR
            have hjj := fun W => rtwo_c n' s' a' b' g' t' d' e' n s a b g t d e W
            obtain ⟨y, hj⟩ : ∃ y, twoS ⟨n', s', a', b', g', t', d', e'⟩ ⟨n, s, a, b, g, t, d, e⟩ = y := ⟨_, rfl⟩
            rw [hj] at HRR
            simp only [hj] at hjj
            obtain ⟨n9, s9, a9, b9, g9, t9, d9, e9⟩ := y
            have HJJ := Lib.hid (fun W => show Calls Tryd.prog 50 #[.agg #[.int .i64 n', .int .i64 s', .int .i64 a', .int .i64 b', .bool g', .string (text t'), .int .i64 d', .int .i64 e'], .agg #[.int .i64 n, .int .i64 s, .int .i64 a, .int .i64 b, .bool g, .string (text t), .int .i64 d, .int .i64 e]] W (Tells (.agg #[.int .i64 n9, .int .i64 s9, .int .i64 a9, .int .i64 b9, .bool g9, .string (text t9), .int .i64 d9, .int .i64 e9]) W) from hjj W)
            have HOW := Lib.hid hoat
            have HSW := Lib.hid (fun W (h : Below W5.heap.size W5 W) => row_cells (heap_below HS4.out h))
            have HCW4 := Lib.hid (fun W (h : Below W5.heap.size W5 W) => (HC4.out.kept h).cs)
            have hkc3 : (i : Int) < (c3 : Int) := by omega
            clear hoat hu hck hjj hj HUPI
            refine wp_region_flow_tail 10 [none, none, none, none, none, none, none, none, none, none, none, none, none, none, none, none, none, none, none, none, none, none, none, none, none, none, none, none, none, none, none, none, none, none, none, none, none, none, none, some 0, some 1, some 2, some 3, some 4, some 5, some 6, some 7, some 8, some 9, none, none] (fun i => [undef, undef, undef, undef, undef, undef, undef, undef, undef, undef].getD i undef) [(fun v _ => v = .pointer (some ⟨S, 1, none⟩)), (fun v _ => v = .slice (some ⟨g3, 0, none⟩) m c3), (fun v _ => v = .int .i64 (i : Int)), (fun v _ => v = .pointer (some ⟨S, 1, none⟩)), (fun v _ => v = .slice (some ⟨g3, 0, none⟩) m c3), (fun v _ => v = .int .i64 (i : Int)), (fun v _ => v = .pointer (some ⟨g3, i * 8, none⟩)), (fun v _ => v = .agg #[.int .i64 n', .int .i64 s', .int .i64 a', .int .i64 b', .bool g', .string (text t'), .int .i64 d', .int .i64 e']), (fun v _ => v = .agg #[.int .i64 n, .int .i64 s, .int .i64 a, .int .i64 b, .bool g, .string (text t), .int .i64 d, .int .i64 e]), (fun v _ => v = .agg #[.int .i64 n9, .int .i64 s9, .int .i64 a9, .int .i64 b9, .bool g9, .string (text t9), .int .i64 d9, .int .i64 e9])] (fun _ => False) (by kernel_rfl) (by kernel_rfl) (by kernel_rfl) rfl rfl rfl ?_ ?_ ?_
            · intro g hg v X Y hX hY hv
              simp only [List.mem_cons, List.not_mem_nil, or_false] at hg
              rcases hg with rfl | rfl | rfl | rfl | rfl | rfl | rfl | rfl | rfl | rfl
              all_goals first
                | exact hv
                | exact hv.kept hY
            · simp only [flowOpsF, List.take_succ_cons, List.take_zero, and_true]
              refine ⟨?_, ?_, ?_, ?_, ?_, ?_, ?_, ?_, ?_, ?_⟩
              · intro xs W hW hn
                simp only [flowAct, List.zipWith_cons_cons, List.zipWith_nil_left]
                go_wp2_with (fail)
                exact ⟨rfl, _, rfl, Below.refl _ _, rfl, fun h => h.elim⟩
              · intro xs W hW hn
                obtain ⟨-, f1, -⟩ := HSW.out W hW
                simp [flowNeeds, Region.binds] at hn
                simp only [flowAct, List.zipWith_cons_cons, List.zipWith_nil_left]
                try simp only [hn]
                go_wp2_with (fail)
                exact ⟨rfl, _, rfl, Below.refl _ _, rfl, fun h => h.elim⟩
              · intro xs W hW hn
                simp only [flowAct, List.zipWith_cons_cons, List.zipWith_nil_left]
                go_wp2_with (fail)
                exact ⟨rfl, _, rfl, Below.refl _ _, rfl, fun h => h.elim⟩
              · intro xs W hW hn
                simp only [flowAct, List.zipWith_cons_cons, List.zipWith_nil_left]
                go_wp2_with (fail)
                exact ⟨rfl, _, rfl, Below.refl _ _, rfl, fun h => h.elim⟩
              · intro xs W hW hn
                obtain ⟨-, f1, -⟩ := HSW.out W hW
                simp [flowNeeds, Region.binds] at hn
                simp only [flowAct, List.zipWith_cons_cons, List.zipWith_nil_left]
                try simp only [hn]
                go_wp2_with (fail)
                exact ⟨rfl, _, rfl, Below.refl _ _, rfl, fun h => h.elim⟩
              · intro xs W hW hn
                simp only [flowAct, List.zipWith_cons_cons, List.zipWith_nil_left]
                go_wp2_with (fail)
                exact ⟨rfl, _, rfl, Below.refl _ _, rfl, fun h => h.elim⟩
              · intro xs W hW hn
                simp [flowNeeds, Region.binds] at hn
                simp only [flowAct, List.zipWith_cons_cons, List.zipWith_nil_left]
                try simp only [hn]
                go_wp2_with (fail)
                exact ⟨rfl, _, rfl, Below.refl _ _, rfl, fun h => h.elim⟩
              · intro xs W hW hn
                obtain ⟨p0, p1, p2, p3, p4, p5, p6, p7⟩ := HOW.out W hW
                simp only at p0 p1 p2 p3 p4 p5 p6 p7
                simp [flowNeeds, Region.binds] at hn
                simp only [flowAct, List.zipWith_cons_cons, List.zipWith_nil_left]
                try simp only [hn]
                go_wp2_with (fail)
                exact ⟨rfl, _, rfl, Below.refl _ _, rfl, fun h => h.elim⟩
              · intro xs W hW hn
                obtain ⟨c0, c1, c2, c3, c4, c5, c6, c7⟩ := HCW4.out W hW
                simp only [flowAct, List.zipWith_cons_cons, List.zipWith_nil_left]
                go_wp2_with (fail)
                exact ⟨rfl, _, rfl, Below.refl _ _, rfl, fun h => h.elim⟩
              · intro xs W hW hn
                simp [flowNeeds, Region.binds] at hn
                simp only [flowAct, List.zipWith_cons_cons, List.zipWith_nil_left]
                simp only [hn]
                go_wp2_with (go_at_call 50; (with_reducible refine (HJJ.out _).mono ?_); rintro e9 w9 ⟨rfl, hb9⟩)
                exact ⟨rfl, _, rfl, hb9, rfl, fun h => h.elim⟩
            · intro xs W hW hall hfr
              clear hfr
              simp only [flowAll, and_true, Nat.zero_add, Nat.reduceAdd] at hall
              obtain ⟨-, y1, y2, -, -, -, -, -, -, y9⟩ := hall
              simp only [flowAct, List.zipWith_cons_cons, List.zipWith_nil_left, List.drop_succ_cons, List.drop_zero]
              simp only [y1, y2, y9]
              have HBx := Lib.hid (HB4.out.trans (hW.mono HB4.out.size))
              have HOx := Lib.hid (HO4.out.kept hW)
              have HSx := Lib.hid (heap_below HS4.out hW)
              have HZx := Lib.hid (heap_below HZ4.out hW)
              have pfz := own_fz HOx.out
              obtain ⟨p0, p1, p2, p3, p4, p5, p6, p7⟩ := HOW.out W hW
              simp only at p0 p1 p2 p3 p4 p5 p6 p7
              clear y1 y2 y9 hW
              go_upto_region 10 with (fail)
              have hop := own_put HOx.out hlk n9 s9 a9 b9 g9 t9 d9 e9
              have hbp := cells_put_below (k := i) HBx.out HG3.out n9 s9 a9 b9 g9 t9 d9 e9
              have hsp := (cells_put_other (W := W) (k := i) HSG.out n9 s9 a9 b9 g9 t9 d9 e9).trans HSx.out
              have hzp := (cells_put_other (W := W) (k := i) HZG.out n9 s9 a9 b9 g9 t9 d9 e9).trans HZx.out
              clear pfz p0 p1 p2 p3 p4 p5 p6 p7
              obtain ⟨V9, hV9⟩ : ∃ Z, (((((((((W.setCell ⟨g3, i * 8, none⟩ (.int .i64 n9)).setCell ⟨g3, i * 8 + 1, none⟩ (.int .i64 s9)).setCell ⟨g3, i * 8 + 2, none⟩ (.int .i64 a9)).setCell ⟨g3, i * 8 + 3, none⟩ (.int .i64 b9)).setCell ⟨g3, i * 8 + 4, none⟩ (.bool g9)).setCell ⟨g3, i * 8 + 5, none⟩ (.string (text t9))).setCell ⟨g3, i * 8 + 6, none⟩ (.int .i64 d9)).setCell ⟨g3, i * 8 + 7, none⟩ (.int .i64 e9))) = Z := ⟨_, rfl⟩
              rw [hV9] at hop hbp hsp hzp ⊢
              obtain ⟨s0, s1, -⟩ := row_cells hsp
              obtain ⟨z0, z1, zf⟩ := row_cells hzp
              have HSR := Lib.hid (row_set hzp tk (.slice (some ⟨g3, 0, none⟩) m c3))
              have HOP := Lib.hid hop
              have HBP := Lib.hid hbp
              have HZP := Lib.hid hzp
              clear hop hbp hsp hzp hV9 HOx HBx HSx HZx
              go_wp2
              refine bodyPost_ret (res_cell_tmp rfl _ _ (B + 1 + 1) 25 _ (0, 0) _ (.int .i64 0) rfl rfl HSR.out Tryd.underlying25 rfl (by kernel_rfl)) rfl ?_
              rw [HRR.out]
              refine ⟨_, by rw [HTK.out], ?_, (HBP.out.setCell (p := ⟨B + 1 + 1, 0, none⟩) (by have := HBe.out; simp; omega) _).setCell (p := ⟨B + 1 + 1, 1, none⟩) (by have := HBe.out; simp; omega) _⟩
              exact own_set (i := 1) (show (V9.setCell ⟨B + 1 + 1, 0, none⟩ (.string tk)).heap[B + 1 + 1]? = _ from (heap_setCell_same _ _ 0 _ _ _ HZP.out).trans rfl) (by decide) (own_set (i := 0) HZP.out (by decide) HOP.out)
  · have h0n : (R != 0) = true := by simpa using h0
    have HRR := Lib.hid (H0.out h0)
    obtain ⟨z0, z1, zf⟩ := row_cells HZ2.out
    have HSB := Lib.hid (row_set HZ2.out ⟨#[]⟩ (.slice none 0 0))
    clear h0 H0 H1 H2 H3 HUP HIN HPI
    go_wp2
    exact bodyPost_ret (res_cell_tmp rfl _ _ (B + 1 + 1) 25 _ (0, 0) _ (.int .i64 R) rfl rfl HSB.out Tryd.underlying25 rfl (by kernel_rfl)) rfl (HBAD.out _ HRR.out _ HX2.out)
end Go.Proofs.YtkjpmdpljdgcjaaDoor
end

section
/-
  Row: the reference's Join.
-/
namespace Go.Proofs.YtkjpmdpljdgcjaaDoor
open Go.RowKit Go Go.Sort
set_option linter.unusedVariables false
set_option maxRecDepth 20000

theorem join_bad1 {gs : List Grp} {ka kb : List UInt8} {ca cb : List Cl} (h : ¬ rgoodS gs ka ca = 0) : rjoinS gs ka ca kb cb = ([], [], rgoodS gs ka ca) := by unfold rjoinS; rw [if_pos h]
theorem join_bad2 {gs : List Grp} {ka kb : List UInt8} {ca cb : List Cl} (h0 : rgoodS gs ka ca = 0) (h : ¬ rgoodS gs kb cb = 0) : rjoinS gs ka ca kb cb = ([], [], rgoodS gs kb cb) := by unfold rjoinS; rw [if_neg (not_not_intro h0), if_pos h]
theorem join_bad3 {gs : List Grp} {ka kb : List UInt8} {ca cb : List Cl} (h0 : rgoodS gs ka ca = 0) (h1 : rgoodS gs kb cb = 0) (h : ¬ ka = kb) : rjoinS gs ka ca kb cb = ([], [], 100) := by unfold rjoinS; rw [if_neg (not_not_intro h0), if_neg (not_not_intro h1), if_pos h]
theorem join_yes {gs : List Grp} {ka kb : List UInt8} {ca cb : List Cl} (h0 : rgoodS gs ka ca = 0) (h1 : rgoodS gs kb cb = 0) (h : ka = kb) : rjoinS gs ka ca kb cb = (ka, zipN ca cb ca.length, 0) := by unfold rjoinS; rw [if_neg (not_not_intro h0), if_neg (not_not_intro h1), if_neg (not_not_intro h)]
theorem pgood_pos {gs : List Grp} (h : pgoodS gs = 0) : 0 < gs.length := by
  rcases Nat.eq_zero_or_pos gs.length with h0 | h0
  · unfold pgoodS at h; rw [if_pos h0] at h; cases h
  · exact h0

set_option maxRecDepth 100000 in
set_option maxHeartbeats 12800000 in
theorem rrowjoin_c {w : World} {x xa xb : Option Addr} {n1 cap ma capa mb capb : Nat} {gs : List Grp} {ca cb : List Cl} (hg : Grs w x n1 cap gs) (hs : ∀ g ∈ gs, g.1.length ≤ 9223372036854775807)
    (hla : Cls w xa ma capa ca) (hxa : ∀ c ∈ ca, c.t.length ≤ 9223372036854775807) (ka : List UInt8) (hka : ka.length ≤ 9223372036854775807)
    (hlb : Cls w xb mb capb cb) (hxb : ∀ c ∈ cb, c.t.length ≤ 9223372036854775807) (kb : List UInt8) (hkb : kb.length ≤ 9223372036854775807) :
    Calls Tryd.prog 26 #[.slice x n1 cap, .agg #[.string (text ka), .slice xa ma capa], .agg #[.string (text kb), .slice xb mb capb]] w (RowPost (rjoinS gs ka ca kb cb) w) := by
  have hgl := hg.len
  have hal := hla.len
  have hbl := hlb.len
  have hlea := hla.le
  have hmaxa := hla.max
  have hleb := hlb.le
  have hmaxb := hlb.max
  have hGA := fun W (h : Below w.heap.size w W) => rrowgood_c (hg.below h) hs (hla.below h) hxa ka hka
  have hGB := fun W (h : Below w.heap.size w W) => rrowgood_c (hg.below h) hs (hlb.below h) hxb kb hkb
  have hCP := fun (hm : ma ≤ 1000000) W (h : Below w.heap.size w W) => rcopy_c (hla.below h) hm (text ka)
  have HIA := Lib.hid (@rgood_inv gs ka ca)
  have HIB := Lib.hid (@rgood_inv gs kb cb)
  have HUP := Lib.hid (fun (h : rgoodS gs ka ca = 0) (k : Nat) (hk : k < ca.length) => join_two (b := cb.getD k Cl.zero) (good_up (good_at h hk)))
  have hts := text_same ka kb
  have H1 := Lib.hid (@join_bad1 gs ka kb ca cb)
  have H2 := Lib.hid (@join_bad2 gs ka kb ca cb)
  have H3 := Lib.hid (@join_bad3 gs ka kb ca cb)
  have H4 := Lib.hid (@join_yes gs ka kb ca cb)
  have HLB := Lib.hid hlb
  obtain ⟨RA, hRA⟩ : ∃ z, rgoodS gs ka ca = z := ⟨_, rfl⟩
  obtain ⟨RB, hRB⟩ : ∃ z, rgoodS gs kb cb = z := ⟨_, rfl⟩
  obtain ⟨RV, hRV⟩ : ∃ z, rjoinS gs ka ca kb cb = z := ⟨_, rfl⟩
  rw [hRA, hRV] at H1
  rw [hRA, hRB, hRV] at H2 H3 H4
  rw [hRV]
  simp only [hRA] at hGA
  simp only [hRB] at hGB
  rw [hRA] at HIA HUP
  rw [hRB] at HIB
  obtain ⟨tka, htka⟩ : ∃ z, text ka = z := ⟨_, rfl⟩
  obtain ⟨tkb, htkb⟩ : ∃ z, text kb = z := ⟨_, rfl⟩
  rw [htka] at hGA hCP ⊢
  rw [htkb] at hGB ⊢
  rw [htka, htkb] at hts
  obtain ⟨KE, hKE⟩ : ∃ z, decide (ka = kb) = z := ⟨_, rfl⟩
  rw [hKE] at hts
  have HTK := Lib.hid htka
  have HKE := Lib.hid hKE
  have HGA := Lib.hid hGA
  have HGB := Lib.hid hGB
  have HCP := Lib.hid hCP
  have hb := ((alloc_below w (.cells #[.string tka, .slice xa ma capa] 25)).alloc (by simp) (.cells #[.string tkb, .slice xb mb capb] 25)).alloc (by simp; omega) (.cells #[.string ⟨#[]⟩, .slice none 0 0] 25)
  have hra : (((w.alloc (.cells #[.string tka, .slice xa ma capa] 25)).alloc (.cells #[.string tkb, .slice xb mb capb] 25)).alloc (.cells #[.string ⟨#[]⟩, .slice none 0 0] 25)).heap[w.heap.size]? = some (.cells #[.string tka, .slice xa ma capa] 25 (0, 0)) := (Below.heap_alloc _ _ _ (by simp; omega)).trans ((Below.heap_alloc _ _ _ (by simp)).trans (heap_alloc_new w _))
  have hrb := heap_below (heap_alloc_new (w.alloc (.cells #[.string tka, .slice xa ma capa] 25)) (.cells #[.string tkb, .slice xb mb capb] 25)) (alloc_below _ (.cells #[.string ⟨#[]⟩, .slice none 0 0] 25))
  have hz := heap_alloc_new ((w.alloc (.cells #[.string tka, .slice xa ma capa] 25)).alloc (.cells #[.string tkb, .slice xb mb capb] 25)) (.cells #[.string ⟨#[]⟩, .slice none 0 0] 25)
  simp only [World.size_alloc] at hrb hz
  clear hGA hGB hCP hRA hRB hRV htka htkb hKE hg hs hla hlb hxa hxb hka hkb
  go_enter Tryd.func26, Tryd.ntmps26
  go_upto_region 1 with (fail)
  obtain ⟨B, hB⟩ : ∃ q, w.heap.size = q := ⟨_, rfl⟩
  have HBe := Lib.hid hB
  rw [hB] at hra hrb hz ⊢
  clear hB
  generalize ((w.alloc (.cells #[.string tka, .slice xa ma capa] 25)).alloc (.cells #[.string tkb, .slice xb mb capb] 25)).alloc (.cells #[.string ⟨#[]⟩, .slice none 0 0] 25) = W1 at *
  obtain ⟨r0, r1, -⟩ := row_cells hra
  have HA1 := Lib.hid hra
  have HR1 := Lib.hid hrb
  have HZ1 := Lib.hid hz
  have HB1 := Lib.hid hb
  clear hra hrb hz hb
  have hbad : ∀ (f : Int), RV = ([], [], f) → ∀ (W : World), Below W1.heap.size W1 W → RowPost RV w (.returned (.tuple #[.agg #[.string ⟨#[]⟩, .slice none 0 0], .int .i64 f])) ((W.setCell ⟨B + 1 + 1, 0, none⟩ (.string ⟨#[]⟩)).setCell ⟨B + 1 + 1, 1, none⟩ (.slice none 0 0)) := fun f h W hW => by
    rw [h]
    exact ⟨_, rfl, OwnC.nil _ _, ((HB1.out.trans (hW.mono HB1.out.size)).setCell (p := ⟨B + 1 + 1, 0, none⟩) (by have := HBe.out; simp; omega) _).setCell (p := ⟨B + 1 + 1, 1, none⟩) (by have := HBe.out; simp; omega) _⟩
  have HBAD := Lib.hid hbad
  clear hbad
  go_upto_region 2 with (go_at_call 15; (with_reducible refine (HGA.out _ HB1.out).mono ?_); rintro e9 w2 ⟨rfl, hb2⟩; have HX2 := Lib.hid hb2; clear hb2)
  have HB2 := Lib.hid (HB1.out.trans (HX2.out.mono HB1.out.size))
  have HZ2 := Lib.hid (heap_below HZ1.out HX2.out)
  have HA2 := Lib.hid (heap_below HA1.out HX2.out)
  have HR2 := Lib.hid (heap_below HR1.out HX2.out)
  clear r0 r1 HGA
  by_cases h0 : RA = 0
  · subst h0
    obtain ⟨s0, s1, -⟩ := row_cells HR2.out
    go_upto_region 5 with (go_at_call 15; (with_reducible refine (HGB.out _ HB2.out).mono ?_); rintro e9 w3 ⟨rfl, hb3⟩; have HX3 := Lib.hid (HX2.out.trans (hb3.mono HX2.out.size)); clear hb3)
    have HB3 := Lib.hid (HB1.out.trans (HX3.out.mono HB1.out.size))
    have HZ3 := Lib.hid (heap_below HZ1.out HX3.out)
    have HA3 := Lib.hid (heap_below HA1.out HX3.out)
    have HR3 := Lib.hid (heap_below HR1.out HX3.out)
    clear s0 s1 HGB HB2 HZ2 HA2 HR2 HX2
    by_cases h1 : RB = 0
    · subst h1
      obtain ⟨r0, r1, -⟩ := row_cells HA3.out
      obtain ⟨s0, s1, -⟩ := row_cells HR3.out
      cases KE with
      | false =>
        have HRR := Lib.hid (H3.out (by first | rfl | trivial) (by first | rfl | trivial) (of_decide_eq_false HKE.out))
        obtain ⟨z0, z1, zf⟩ := row_cells HZ3.out
        have HSB := Lib.hid (row_set HZ3.out ⟨#[]⟩ (.slice none 0 0))
        clear H1 H2 H3 H4 HIA HIB HUP
        go_wp2
        exact bodyPost_ret (res_cell_tmp rfl _ _ (B + 1 + 1) 25 _ (0, 0) _ (.int .i64 100) rfl rfl HSB.out Tryd.underlying25 rfl (by kernel_rfl)) rfl (HBAD.out _ HRR.out _ (HX3.out))
      | true =>
        have HRR := Lib.hid (H4.out (by first | rfl | trivial) (by first | rfl | trivial) (of_decide_eq_true HKE.out))
        obtain ⟨hpa, -, hla, -⟩ := HIA.out (by first | rfl | trivial)
        have hlb := (HIB.out (by first | rfl | trivial)).2.2.1
        have hup := HUP.out (by first | rfl | trivial)
        have h4 := pgood_len hpa
        have hpos := pgood_pos hpa
        have hm4 : ma ≤ 1000000 := by omega
        obtain rfl : ma = mb := by omega
        have hcpos : 0 < ca.length := by omega
        have HUPK := Lib.hid hup
        clear H1 H2 H3 H4 HIA HIB HUP HBAD hpa hup HX3 HA1 HR1 HZ1 HB1
        go_upto_region 11 with (go_at_call 22; (with_reducible refine (HCP.out hm4 _ HB3.out).mono ?_); rintro e9 w5 ⟨v3, rfl, ho5, hb5⟩; obtain ⟨g3, c3, ev, hg3, hc3, hgs⟩ := own_some ho5 hcpos; rw [hal] at ev; subst ev)
        have hal5 := alloc_below w5 (.cells #[.string tka, .slice (some ⟨g3, 0, none⟩) ma c3] 25)
        have HS4 := Lib.hid (heap_alloc_new w5 (.cells #[.string tka, .slice (some ⟨g3, 0, none⟩) ma c3] 25))
        have HO4 := Lib.hid ((ho5.mono HB3.out.size).kept hal5)
        have HR4 := Lib.hid (heap_below (heap_below HR3.out hb5) hal5)
        have HZ4 := Lib.hid (heap_below (heap_below HZ3.out hb5) hal5)
        have HB4 := Lib.hid ((HB3.out.trans (hb5.mono HB3.out.size)).trans (hal5.mono (Nat.le_trans HB3.out.size hb5.size)))
        have HG3 := Lib.hid (Nat.le_trans HB3.out.size hg3)
        have HSG := Lib.hid (show w5.heap.size ≠ g3 by omega)
        have HZG := Lib.hid (show B + 1 + 1 ≠ g3 by have := (Array.getElem?_eq_some_iff.1 HZ3.out).1; omega)
        have HRG := Lib.hid (show B + 1 ≠ g3 by have := (Array.getElem?_eq_some_iff.1 HZ3.out).1; omega)
        obtain ⟨S, hS⟩ : ∃ q, w5.heap.size = q := ⟨_, rfl⟩
        rw [hS] at HS4 HSG ⊢
        generalize w5.alloc (.cells #[.string tka, .slice (some ⟨g3, 0, none⟩) ma c3] 25) = W5 at *
        clear hal5 hb5 ho5 hg3 hgs hS r0 r1 s0 s1 HA3 HR3 HZ3 HCP HB3
        go_loopw [10] (fun i wr => ∃ k : Nat, k ≤ ma ∧ i = .int .i64 (k : Int) ∧ OwnC wr w.heap.size (.slice (some ⟨g3, 0, none⟩) ma c3) (zipN ca cb k) ∧ Below w.heap.size w wr ∧ wr.heap[S]? = some (.cells #[.string tka, .slice (some ⟨g3, 0, none⟩) ma c3] 25 (0, 0)) ∧ wr.heap[B + 1]? = some (.cells #[.string tkb, .slice xb ma capb] 25 (0, 0)) ∧ wr.heap[B + 1 + 1]? = some (.cells #[.string ⟨#[]⟩, .slice none 0 0] 25 (0, 0))) (fun i _ => ma - (intOf i).toNat)
        case atStart => exact ⟨0, by omega, rfl, HO4.out, HB4.out, HS4.out, HR4.out, HZ4.out⟩
        case round =>
          clear HO4 HB4 HS4 HR4 HZ4
          obtain ⟨k, hk, rfl, ho, hB, hS, hR, hZ⟩ := hrel
          obtain ⟨s0, s1, -⟩ := row_cells hS
          have HO := Lib.hid ho
          have HB := Lib.hid hB
          have HS := Lib.hid hS
          have HR := Lib.hid hR
          have HZ := Lib.hid hZ
          clear ho hB hS hR hZ
          by_cases hlt : k < ma
          · have hki : (k : Int) < (ma : Int) := by omega
            have hkic : (k : Int) < (c3 : Int) := by omega
            have hkib : (k : Int) < (capb : Int) := by omega
            have hzl := zipN_len ca cb k
            have hlk : k < (zipN ca cb k).length := by omega
            have hzk : (zipN ca cb k).getD k Cl.zero = ca.getD k Cl.zero := by rw [zipN_get ca cb k (by omega) k, if_neg (by omega)]
            have hst : zipN ca cb (k + 1) = (zipN ca cb k).set k (twoS (ca.getD k Cl.zero) (cb.getD k Cl.zero)) := by rw [← HUPK.out k (by omega)]; rfl
            have hoat := own_at HO.out hlk
            rw [hzk] at hoat
            obtain ⟨bk, off, rfl, hat⟩ := HLB.out.at hlt
            obtain ⟨y, hck⟩ : ∃ y, ca.getD k Cl.zero = y := ⟨_, rfl⟩
            obtain ⟨z, hdk⟩ : ∃ y, cb.getD k Cl.zero = y := ⟨_, rfl⟩
            rw [hck] at hoat
            rw [hck, hdk] at hst
            rw [hdk] at hat
            obtain ⟨n, s, a, b, g, t, d, e⟩ := y
            obtain ⟨n', s', a', b', g', t', d', e'⟩ := z
            have hjj := fun W => rtwo_c n s a b g t d e n' s' a' b' g' t' d' e' W
            obtain ⟨y, hj⟩ : ∃ y, twoS ⟨n, s, a, b, g, t, d, e⟩ ⟨n', s', a', b', g', t', d', e'⟩ = y := ⟨_, rfl⟩
            rw [hj] at hst
            simp only [hj] at hjj
            obtain ⟨n9, s9, a9, b9, g9, t9, d9, e9⟩ := y
            have HJJ := Lib.hid (fun W => show Calls Tryd.prog 50 #[.agg #[.int .i64 n, .int .i64 s, .int .i64 a, .int .i64 b, .bool g, .string (text t), .int .i64 d, .int .i64 e], .agg #[.int .i64 n', .int .i64 s', .int .i64 a', .int .i64 b', .bool g', .string (text t'), .int .i64 d', .int .i64 e']] W (Tells (.agg #[.int .i64 n9, .int .i64 s9, .int .i64 a9, .int .i64 b9, .bool g9, .string (text t9), .int .i64 d9, .int .i64 e9]) W) from hjj W)
            have HST := Lib.hid hst
            have HLK := Lib.hid hlk
            have HOW := Lib.hid hoat
            have HSW := Lib.hid (fun W (h : Below wr.heap.size wr W) => row_cells (heap_below HS.out h))
            have HRW := Lib.hid (fun W (h : Below wr.heap.size wr W) => row_cells (heap_below HR.out h))
            have HAT := Lib.hid (fun W (h : Below wr.heap.size wr W) => hat W (HB.out.trans (h.mono HB.out.size)))
            clear hoat hat hck hdk hjj hj hst hzk hzl hlk
            go_upto_region 13 with (fail)
            clear s0 s1
            refine wp_region_flow_tail 14 [none, none, none, none, none, none, none, none, none, none, none, none, none, none, none, none, none, none, none, none, none, none, none, none, none, none, none, none, none, none, none, none, none, none, none, none, none, none, none, none, some 0, some 1, some 2, some 3, some 4, some 5, some 6, some 7, some 8, some 9, some 10, some 11, some 12, some 13, none, none] (fun i => [u40, u41, u42, u43, u44, u45, u46, u47, u48, u49, u50, u51, u52, u53].getD i undef) [(fun v _ => v = .pointer (some ⟨S, 1, none⟩)), (fun v _ => v = .slice (some ⟨g3, 0, none⟩) ma c3), (fun v _ => v = .int .i64 (k : Int)), (fun v _ => v = .pointer (some ⟨S, 1, none⟩)), (fun v _ => v = .slice (some ⟨g3, 0, none⟩) ma c3), (fun v _ => v = .int .i64 (k : Int)), (fun v _ => v = .pointer (some ⟨g3, k * 8, none⟩)), (fun v _ => v = .agg #[.int .i64 n, .int .i64 s, .int .i64 a, .int .i64 b, .bool g, .string (text t), .int .i64 d, .int .i64 e]), (fun v _ => v = .pointer (some ⟨B + 1, 1, none⟩)), (fun v _ => v = .slice (some ⟨bk, off, none⟩) ma capb), (fun v _ => v = .int .i64 (k : Int)), (fun v _ => v = .pointer (some ⟨bk, off + k * 8, none⟩)), (fun v _ => v = .agg #[.int .i64 n', .int .i64 s', .int .i64 a', .int .i64 b', .bool g', .string (text t'), .int .i64 d', .int .i64 e']), (fun v _ => v = .agg #[.int .i64 n9, .int .i64 s9, .int .i64 a9, .int .i64 b9, .bool g9, .string (text t9), .int .i64 d9, .int .i64 e9])] (fun _ => False) (by kernel_rfl) (by kernel_rfl) (by kernel_rfl) rfl rfl rfl ?_ ?_ ?_
            · intro g hg v X Y hX hY hv
              simp only [List.mem_cons, List.not_mem_nil, or_false] at hg
              rcases hg with rfl | rfl | rfl | rfl | rfl | rfl | rfl | rfl | rfl | rfl | rfl | rfl | rfl | rfl
              all_goals first
                | exact hv
                | exact hv.kept hY
            · simp only [flowOpsF, List.take_succ_cons, List.take_zero, and_true]
              refine ⟨?_, ?_, ?_, ?_, ?_, ?_, ?_, ?_, ?_, ?_, ?_, ?_, ?_, ?_⟩
              · intro xs W hW hn
                simp only [flowAct, List.zipWith_cons_cons, List.zipWith_nil_left]
                go_wp2_with (fail)
                exact ⟨rfl, _, rfl, Below.refl _ _, rfl, fun h => h.elim⟩
              · intro xs W hW hn
                obtain ⟨-, f1, -⟩ := HSW.out W hW
                simp [flowNeeds, Region.binds] at hn
                simp only [flowAct, List.zipWith_cons_cons, List.zipWith_nil_left]
                try simp only [hn]
                go_wp2_with (fail)
                exact ⟨rfl, _, rfl, Below.refl _ _, rfl, fun h => h.elim⟩
              · intro xs W hW hn
                simp only [flowAct, List.zipWith_cons_cons, List.zipWith_nil_left]
                go_wp2_with (fail)
                exact ⟨rfl, _, rfl, Below.refl _ _, rfl, fun h => h.elim⟩
              · intro xs W hW hn
                simp only [flowAct, List.zipWith_cons_cons, List.zipWith_nil_left]
                go_wp2_with (fail)
                exact ⟨rfl, _, rfl, Below.refl _ _, rfl, fun h => h.elim⟩
              · intro xs W hW hn
                obtain ⟨-, f1, -⟩ := HSW.out W hW
                simp [flowNeeds, Region.binds] at hn
                simp only [flowAct, List.zipWith_cons_cons, List.zipWith_nil_left]
                try simp only [hn]
                go_wp2_with (fail)
                exact ⟨rfl, _, rfl, Below.refl _ _, rfl, fun h => h.elim⟩
              · intro xs W hW hn
                simp only [flowAct, List.zipWith_cons_cons, List.zipWith_nil_left]
                go_wp2_with (fail)
                exact ⟨rfl, _, rfl, Below.refl _ _, rfl, fun h => h.elim⟩
              · intro xs W hW hn
                simp [flowNeeds, Region.binds] at hn
                simp only [flowAct, List.zipWith_cons_cons, List.zipWith_nil_left]
                try simp only [hn]
                go_wp2_with (fail)
                exact ⟨rfl, _, rfl, Below.refl _ _, rfl, fun h => h.elim⟩
              · intro xs W hW hn
                obtain ⟨p0, p1, p2, p3, p4, p5, p6, p7⟩ := HOW.out W hW
                simp only at p0 p1 p2 p3 p4 p5 p6 p7
                simp [flowNeeds, Region.binds] at hn
                simp only [flowAct, List.zipWith_cons_cons, List.zipWith_nil_left]
                try simp only [hn]
                go_wp2_with (fail)
                exact ⟨rfl, _, rfl, Below.refl _ _, rfl, fun h => h.elim⟩
              · intro xs W hW hn
                simp only [flowAct, List.zipWith_cons_cons, List.zipWith_nil_left]
                go_wp2_with (fail)
                exact ⟨rfl, _, rfl, Below.refl _ _, rfl, fun h => h.elim⟩
              · intro xs W hW hn
                obtain ⟨-, f2, -⟩ := HRW.out W hW
                simp [flowNeeds, Region.binds] at hn
                simp only [flowAct, List.zipWith_cons_cons, List.zipWith_nil_left]
                try simp only [hn]
                go_wp2_with (fail)
                exact ⟨rfl, _, rfl, Below.refl _ _, rfl, fun h => h.elim⟩
              · intro xs W hW hn
                simp only [flowAct, List.zipWith_cons_cons, List.zipWith_nil_left]
                go_wp2_with (fail)
                exact ⟨rfl, _, rfl, Below.refl _ _, rfl, fun h => h.elim⟩
              · intro xs W hW hn
                simp [flowNeeds, Region.binds] at hn
                simp only [flowAct, List.zipWith_cons_cons, List.zipWith_nil_left]
                try simp only [hn]
                go_wp2_with (fail)
                exact ⟨rfl, _, rfl, Below.refl _ _, rfl, fun h => h.elim⟩
              · intro xs W hW hn
                obtain ⟨p0, p1, p2, p3, p4, p5, p6, p7⟩ := HAT.out W hW
                simp only at p0 p1 p2 p3 p4 p5 p6 p7
                simp [flowNeeds, Region.binds] at hn
                simp only [flowAct, List.zipWith_cons_cons, List.zipWith_nil_left]
                try simp only [hn]
                go_wp2_with (fail)
                exact ⟨rfl, _, rfl, Below.refl _ _, rfl, fun h => h.elim⟩
              · intro xs W hW hn
                simp [flowNeeds, Region.binds] at hn
                simp only [flowAct, List.zipWith_cons_cons, List.zipWith_nil_left]
                simp only [hn]
                go_wp2_with (go_at_call 50; (with_reducible refine (HJJ.out _).mono ?_); rintro e9 w9 ⟨rfl, hb9⟩)
                exact ⟨rfl, _, rfl, hb9, rfl, fun h => h.elim⟩
            · intro xs W hW hall hfr
              clear hfr
              simp only [flowAll, and_true, Nat.zero_add, Nat.reduceAdd] at hall
              obtain ⟨-, y1, y2, -, -, -, -, -, -, -, -, -, -, y13⟩ := hall
              simp only [flowAct, List.zipWith_cons_cons, List.zipWith_nil_left, List.drop_succ_cons, List.drop_zero]
              simp only [y1, y2, y13]
              have HBx := Lib.hid (HB.out.trans (hW.mono HB.out.size))
              have HOx := Lib.hid (HO.out.kept hW)
              have HSx := Lib.hid (heap_below HS.out hW)
              have HRx := Lib.hid (heap_below HR.out hW)
              have HZx := Lib.hid (heap_below HZ.out hW)
              have pfz := own_fz HOx.out
              obtain ⟨p0, p1, p2, p3, p4, p5, p6, p7⟩ := HOW.out W hW
              simp only at p0 p1 p2 p3 p4 p5 p6 p7
              clear y1 y2 y13 hW
              have hop := own_put HOx.out HLK.out n9 s9 a9 b9 g9 t9 d9 e9
              have hbp := cells_put_below (k := k) HBx.out HG3.out n9 s9 a9 b9 g9 t9 d9 e9
              have hsp := (cells_put_other (W := W) (k := k) HSG.out n9 s9 a9 b9 g9 t9 d9 e9).trans HSx.out
              have hrp := (cells_put_other (W := W) (k := k) HRG.out n9 s9 a9 b9 g9 t9 d9 e9).trans HRx.out
              have hzp := (cells_put_other (W := W) (k := k) HZG.out n9 s9 a9 b9 g9 t9 d9 e9).trans HZx.out
              rw [← HST.out] at hop
              have HFIN := Lib.hid (And.intro hop (And.intro hbp (And.intro hsp (And.intro hrp hzp))))
              clear hop hbp hsp hrp hzp
              go_wp2
              go_roundw
              case rel => exact ⟨k + 1, by omega, by go_num, HFIN.out.1, HFIN.out.2.1, HFIN.out.2.2.1, HFIN.out.2.2.2.1, HFIN.out.2.2.2.2⟩
              case measure => simp [intOf]; omega
          · obtain rfl : k = ma := by omega
            obtain ⟨z0, z1, zf⟩ := row_cells HZ.out
            have HSR := Lib.hid (row_set HZ.out tka (.slice (some ⟨g3, 0, none⟩) k c3))
            go_wp2
            refine bodyPost_ret (res_cell_tmp rfl _ _ (B + 1 + 1) 25 _ (0, 0) _ (.int .i64 0) rfl rfl HSR.out Tryd.underlying25 rfl (by kernel_rfl)) rfl ?_
            rw [HRR.out, hal]
            refine ⟨_, by rw [HTK.out], ?_, (HB.out.setCell (p := ⟨B + 1 + 1, 0, none⟩) (by have := HBe.out; simp; omega) _).setCell (p := ⟨B + 1 + 1, 1, none⟩) (by have := HBe.out; simp; omega) _⟩
            exact own_set (i := 1) (show (wr.setCell ⟨B + 1 + 1, 0, none⟩ (.string tka)).heap[B + 1 + 1]? = _ from (heap_setCell_same _ _ 0 _ _ _ HZ.out).trans rfl) (by decide) (own_set (i := 0) HZ.out (by decide) HO.out)
    · have h1n : (RB != 0) = true := by simpa using h1
      have HRR := Lib.hid (H2.out (by first | rfl | trivial) h1)
      obtain ⟨z0, z1, zf⟩ := row_cells HZ3.out
      have HSB := Lib.hid (row_set HZ3.out ⟨#[]⟩ (.slice none 0 0))
      clear H1 H2 H3 H4 HIA HIB HUP h1
      go_wp2
      exact bodyPost_ret (res_cell_tmp rfl _ _ (B + 1 + 1) 25 _ (0, 0) _ (.int .i64 RB) rfl rfl HSB.out Tryd.underlying25 rfl (by kernel_rfl)) rfl (HBAD.out _ HRR.out _ (HX3.out))
  · have h0n : (RA != 0) = true := by simpa using h0
    have HRR := Lib.hid (H1.out h0)
    obtain ⟨z0, z1, zf⟩ := row_cells HZ2.out
    have HSB := Lib.hid (row_set HZ2.out ⟨#[]⟩ (.slice none 0 0))
    clear H1 H2 H3 H4 HIA HIB HUP h0
    go_wp2
    exact bodyPost_ret (res_cell_tmp rfl _ _ (B + 1 + 1) 25 _ (0, 0) _ (.int .i64 RA) rfl rfl HSB.out Tryd.underlying25 rfl (by kernel_rfl)) rfl (HBAD.out _ HRR.out _ (HX2.out))
end Go.Proofs.YtkjpmdpljdgcjaaDoor
end

section
/-
  Boxes of a call's own that a region lays and fills, in whatever order, with what its calls told; worlds of which one block alone is turned.
-/
namespace Go.Proofs.YtkjpmdpljdgcjaaDoor
open Go.RowKit Go Go.Sort
set_option linter.unusedVariables false
set_option maxRecDepth 20000

/-- What is told of a region's values stays while memory grows, and while boxes are filled. -/
structure GSt (ty : TypeId) (G : Nat → Value → World → Prop) : Prop where
  grow : ∀ i v X Y, G i v X → Below X.heap.size X Y → G i v Y
  wrote : ∀ i v X Y q cs ds, X.heap[q]? = some (.cells ds ty (0, 0)) → Wrote q cs ty X Y → G i v X → G i v Y
/-- Where the laying of n boxes stands: m operations that tell what G says, n that make boxes, n that fill them with what operation 'sr j' told. -/
def LayG (m n : Nat) (ty : TypeId) (z : Array Value) (G : Nat → Value → World → Prop) (sr : Nat → Nat) (w0 : World) (L : Nat → Bool) (xs : Nat → Value) (w : World) : Prop :=
  Below w0.heap.size w0 w ∧ (∀ i, i < m → L i = true → G i (xs i) w) ∧
  (∀ j, j < n → L (m + j) = true → ∃ g cs, xs (m + j) = .pointer (some ⟨g, 0, none⟩) ∧ w0.heap.size ≤ g ∧ w.heap[g]? = some (.cells cs ty (0, 0)) ∧ (if L (m + n + j) = true then G (sr j) (.agg cs) w else cs = z)) ∧
  (∀ j k, j < n → k < n → j ≠ k → L (m + j) = true → L (m + k) = true → xs (m + j) ≠ xs (m + k)) ∧
  (∀ j, j < n → L (m + n + j) = true → L (m + j) = true)
section
variable {m n : Nat} {ty : TypeId} {z : Array Value} {G : Nat → Value → World → Prop} {sr : Nat → Nat} {w0 w : World} {L : Nat → Bool} {xs : Nat → Value}
theorem LayG.start (h : ∀ i, i < m + n + n → L i = false) : LayG m n ty z G sr w0 L xs { w0 with drawn := w0.drawn + 1 } := by
  have f : ∀ i, i < m + n + n → L i = true → False := fun i hi ht => by rw [h i hi] at ht; cases ht
  exact ⟨⟨rfl, rfl, rfl, Nat.le_refl _, fun _ _ => rfl⟩, fun i hi ht => (f i (by omega) ht).elim, fun j hj ht => (f _ (by omega) ht).elim, fun j k hj hk _ ht _ => (f _ (by omega) ht).elim, fun j hj ht => (f _ (by omega) ht).elim⟩
theorem LayG.below (h : LayG m n ty z G sr w0 L xs w) : Below w0.heap.size w0 w := h.1
theorem LayG.set (hs : GSt ty G) (h : LayG m n ty z G sr w0 L xs w) (i : Nat) (hi : i < m) {w' : World} (hb : Below w.heap.size w w') {v : Value} (hv : G i v w') : LayG m n ty z G sr w0 (fun j => if j = i then true else L j) (fun j => if j = i then v else xs j) w' := by
  obtain ⟨h0, h1, h2, h3, h4⟩ := h
  refine ⟨h0.trans (hb.mono h0.size), fun j hj ht => ?_, fun j hj ht => ?_, fun j k hj hk => ?_, fun j hj => ?_⟩
  · by_cases e : j = i
    · subst e; simpa using hv
    · simp only [if_neg e] at ht ⊢
      exact hs.grow _ _ _ _ (h1 j hj ht) hb
  · simp only [if_neg (show ¬ m + j = i by omega), if_neg (show ¬ m + n + j = i by omega)] at ht ⊢
    obtain ⟨g, cs, e1, e2, e3, e4⟩ := h2 j hj ht
    refine ⟨g, cs, e1, e2, heap_below e3 hb, ?_⟩
    split at e4
    · rename_i hL; rw [if_pos hL]; exact hs.grow _ _ _ _ e4 hb
    · rename_i hL; rw [if_neg hL]; exact e4
  · simp only [if_neg (show ¬ m + j = i by omega), if_neg (show ¬ m + k = i by omega)]
    exact h3 j k hj hk
  · simp only [if_neg (show ¬ m + j = i by omega), if_neg (show ¬ m + n + j = i by omega)]
    exact h4 j hj
theorem LayG.alloc (hs : GSt ty G) (h : LayG m n ty z G sr w0 L xs w) (j : Nat) (hj : j < n) {k : Nat} (hk : k = m + j) (hn : L k = false) : LayG m n ty z G sr w0 (fun i => if i = k then true else L i) (fun i => if i = k then .pointer (some ⟨w.heap.size, 0, none⟩) else xs i) (w.alloc (.cells z ty)) := by
  subst hk
  obtain ⟨h0, h1, h2, h3, h4⟩ := h
  have kb := alloc_below w (.cells z ty)
  have hf : L (m + n + j) = false := by
    cases hx : L (m + n + j) with
    | false => rfl
    | true => rw [h4 j hj hx] at hn; cases hn
  have hne : ∀ i, i < n → L (m + i) = true → xs (m + i) ≠ .pointer (some ⟨w.heap.size, 0, none⟩) := fun i hi ht => by
    obtain ⟨g, cs, e1, e2, e3, e4⟩ := h2 i hi ht
    rw [e1]
    have := (Array.getElem?_eq_some_iff.1 e3).1
    intro e
    simp at e
    try omega
  refine ⟨h0.trans (kb.mono h0.size), fun i hi ht => ?_, fun i hi ht => ?_, fun i k hi hk hne2 hti htk => ?_, fun i hi ht => ?_⟩
  · simp only [if_neg (show ¬ i = m + j by omega)] at ht ⊢
    exact hs.grow _ _ _ _ (h1 i hi ht) kb
  · by_cases e : i = j
    · subst e
      simp only [if_neg (show ¬ m + n + i = m + i by omega), hf, if_pos]
      exact ⟨_, z, rfl, h0.size, heap_alloc_new w _, by simp⟩
    · simp only [if_neg (show ¬ m + i = m + j by omega), if_neg (show ¬ m + n + i = m + j by omega)] at ht ⊢
      obtain ⟨g, cs, e1, e2, e3, e4⟩ := h2 i hi ht
      refine ⟨g, cs, e1, e2, heap_below e3 kb, ?_⟩
      split at e4
      · rename_i hL; rw [if_pos hL]; exact hs.grow _ _ _ _ e4 kb
      · rename_i hL; rw [if_neg hL]; exact e4
  · by_cases e1 : i = j
    · subst e1
      simp only [if_neg (show ¬ m + k = m + i by omega), if_pos] at htk ⊢
      exact (hne k hk htk).symm
    · by_cases e2 : k = j
      · subst e2
        simp only [if_neg (show ¬ m + i = m + k by omega), if_pos] at hti ⊢
        exact hne i hi hti
      · simp only [if_neg (show ¬ m + i = m + j by omega), if_neg (show ¬ m + k = m + j by omega)] at hti htk ⊢
        exact h3 i k hi hk hne2 hti htk
  · by_cases e : i = j
    · subst e; simp
    · simp only [if_neg (show ¬ m + i = m + j by omega), if_neg (show ¬ m + n + i = m + j by omega)] at ht ⊢
      exact h4 i hi ht
theorem LayG.store (hs : GSt ty G) (h : LayG m n ty z G sr w0 L xs w) (j : Nat) (hj : j < n) {k s : Nat} (hk : k = m + j) (hse : s = m + n + j) (hL : L k = true) {g : Nat} (hg : xs k = .pointer (some ⟨g, 0, none⟩)) {cs : Array Value} (hv : G (sr j) (.agg cs) w) {w2 : World} (hw : Wrote g cs ty w w2) (v : Value) :
    LayG m n ty z G sr w0 (fun i => if i = s then true else L i) (fun i => if i = s then v else xs i) w2 := by
  subst hk hse
  obtain ⟨h0, h1, h2, h3, h4⟩ := h
  obtain ⟨g', ds, e1, hB, hgd, -⟩ := h2 j hj hL
  obtain rfl : g' = g := by
    rw [hg] at e1
    injection e1 with e1
    injection e1 with e1
    injection e1 with e1
    exact e1.symm
  have hl := Nat.le_of_lt (Array.getElem?_eq_some_iff.1 hgd).1
  refine ⟨h0.trans (hw.below hB hl), fun i hi ht => ?_, fun i hi ht => ?_, fun i k hi hk hne hti htk => ?_, fun i hi ht => ?_⟩
  · simp only [if_neg (show ¬ i = m + n + j by omega)] at ht ⊢
    exact hs.wrote _ _ _ _ _ _ _ hgd hw (h1 i hi ht)
  · simp only [if_neg (show ¬ m + i = m + n + j by omega)] at ht ⊢
    by_cases e : i = j
    · subst e
      simp only [if_pos]
      exact ⟨g', cs, hg, hB, hw.cell, hs.wrote _ _ _ _ _ _ _ hgd hw hv⟩
    · simp only [if_neg (show ¬ m + n + i = m + n + j by omega)]
      obtain ⟨g2, c2, f1, f2, f3, f4⟩ := h2 i hi ht
      have hne := h3 i j hi hj e ht hL
      have hg2 : g2 ≠ g' := by rintro rfl; exact hne (f1.trans hg.symm)
      refine ⟨g2, c2, f1, f2, (hw.rest g2 (Array.getElem?_eq_some_iff.1 f3).1 hg2).trans f3, ?_⟩
      split at f4
      · rename_i hL2; rw [if_pos hL2]; exact hs.wrote _ _ _ _ _ _ _ hgd hw f4
      · rename_i hL2; rw [if_neg hL2]; exact f4
  · simp only [if_neg (show ¬ m + i = m + n + j by omega), if_neg (show ¬ m + k = m + n + j by omega)] at hti htk ⊢
    exact h3 i k hi hk hne hti htk
  · by_cases e : i = j
    · subst e
      simp only [if_neg (show ¬ m + i = m + n + i by omega)]
      exact hL
    · simp only [if_neg (show ¬ m + i = m + n + j by omega), if_neg (show ¬ m + n + i = m + n + j by omega)] at ht ⊢
      exact h4 i hi ht
end
/-- A row of the call's own, whose block nobody else turned. -/
theorem OwnC.of_block {w w' : World} {B : Nat} {v : Value} {l : List Cl} (h : OwnC w B v l) (hb : ∀ q, v.ownBlock = some q → w'.heap[q]? = w.heap[q]?) : OwnC w' B v l := by
  obtain ⟨hlen, ⟨ev, hn⟩ | ⟨g, cap, cur, ev, hB, hg, hnc, hcm, hcs, htake⟩⟩ := h
  · exact ⟨hlen, .inl ⟨ev, hn⟩⟩
  · exact ⟨hlen, .inr ⟨g, cap, cur, ev, hB, (hb g (by subst ev; rfl)).trans hg, hnc, hcm, hcs, htake⟩⟩
/-- A world that differs in one value's own block alone. -/
structure OnlyV (v : Value) (W W' : World) : Prop where
  os : W'.os = W.os
  tape : W'.tape = W.tape
  output : W'.output = W.output
  size : W'.heap.size = W.heap.size
  rest : ∀ q, some q ≠ v.ownBlock → W'.heap[q]? = W.heap[q]?
theorem OnlyV.refl (v : Value) (W : World) : OnlyV v W W := ⟨rfl, rfl, rfl, rfl, fun _ _ => rfl⟩
theorem OnlyV.cell {g m c : Nat} {W W' : World} (h : OnlyV (.slice (some ⟨g, 0, none⟩) m c) W W') (i : Nat) (u : Value) : OnlyV (.slice (some ⟨g, 0, none⟩) m c) W (W'.setCell ⟨g, i, none⟩ u) := by
  have hb := (Below.refl 0 W').setCell (p := ⟨g, i, none⟩) (Nat.zero_le _) u
  refine ⟨hb.os.trans h.os, hb.tape.trans h.tape, hb.output.trans h.output, (World.size_setCell _ _ _).trans h.size, fun q hq => (Below.heap_setCell W' ⟨g, i, none⟩ u q (fun e => hq (by subst e; rfl))).trans (h.rest q hq)⟩
theorem OnlyV.below {v : Value} {W W' : World} (h : OnlyV v W W') {B : Nat} (hB : ∀ q, v.ownBlock = some q → B ≤ q) : Below B W W' :=
  ⟨h.os, h.tape, h.output, Nat.le_of_eq h.size.symm, fun k hk => h.rest k (fun e => by have := hB k e.symm; omega)⟩
theorem OnlyV.own {v u : Value} {W W' : World} (h : OnlyV v W W') {B : Nat} {l : List Cl} (ho : OwnC W B u l) (hne : ∀ q, u.ownBlock = some q → some q ≠ v.ownBlock) : OwnC W' B u l := ho.of_block fun q hq => h.rest q (hne q hq)
theorem OnlyV.at {v : Value} {W W' : World} (h : OnlyV v W W') {q : Nat} {o : Obj} (ho : W.heap[q]? = some o) (hne : some q ≠ v.ownBlock) : W'.heap[q]? = some o := (h.rest q hne).trans ho
/-- Stamps that count one more. -/
def bumpC (c : Cl) : Cl := { c with n := c.n + 1 }
def bumpN (cs : List Cl) : Nat → List Cl
  | 0 => cs
  | k + 1 => (bumpN cs k).set k (bumpC (cs.getD k Cl.zero))
theorem bump_len (cs : List Cl) : ∀ k, (bumpN cs k).length = cs.length
  | 0 => rfl
  | k + 1 => by show ((bumpN cs k).set k _).length = _; rw [List.length_set]; exact bump_len cs k
theorem bump_get (cs : List Cl) : ∀ (k i : Nat), k ≤ i → (bumpN cs k).getD i Cl.zero = cs.getD i Cl.zero
  | 0, _, _ => rfl
  | k + 1, i, h => by
    show ((bumpN cs k).set k _).getD i Cl.zero = _
    rw [List.getD_eq_getElem?_getD, List.getElem?_set, if_neg (by omega), ← List.getD_eq_getElem?_getD]
    exact bump_get cs k i (by omega)
/-- A stamp turned in a row of the call's own. -/
theorem own_bump {W : World} {B g m c k : Nat} {cs : List Cl} (h : OwnC W B (.slice (some ⟨g, 0, none⟩) m c) cs) (hk : k < cs.length) (z : Int) :
    OwnC (W.setCell ⟨g, k * 8, none⟩ (.int .i64 z)) B (.slice (some ⟨g, 0, none⟩) m c) (cs.set k { cs.getD k Cl.zero with n := z }) := by
  obtain ⟨hlen, ⟨ev, -⟩ | ⟨g', cap, cur, ev, hB, hg, hnc, hcm, hcs, htake⟩⟩ := h
  · cases ev
  · injection ev with e1 e2 e3
    injection e1 with e1
    injection e1 with e1
    subst e1 e2 e3
    have h0 := heap_setCell_same W g (k * 8) _ _ (.int .i64 z) hg
    have hl2 : (cs.set k ({ cs.getD k Cl.zero with n := z } : Cl)).length = cs.length := List.length_set
    refine ⟨by rw [cCells_length], .inr ⟨g, c, _, by rw [hl2], hB, h0, by rw [hl2]; exact hnc, hcm, by simpa using hcs, ?_⟩⟩
    rw [hl2]
    apply List.ext_getElem?
    intro j
    have hcl := cCells_length cs
    have hcl2 := cCells_length (cs.set k { cs.getD k Cl.zero with n := z })
    rw [hl2] at hcl2
    rw [List.getElem?_take]
    by_cases hj : j < cs.length * 8
    · rw [if_pos hj]
      have hc := take_cell htake hj
      have hsz : cs.length * 8 ≤ cur.size := by
        have h9 := congrArg List.length htake
        rw [List.length_take, hcl] at h9
        simp at h9
        omega
      simp only [Array.getElem?_toList, Array.getElem?_setIfInBounds]
      have hd : j / 8 < cs.length := by omega
      have hm : j % 8 < 8 := Nat.mod_lt _ (by omega)
      have e8 : j / 8 * 8 + j % 8 = j := by omega
      have g1 := cCells_get cs (j / 8) (j % 8) hd hm
      have g2 := cCells_get (cs.set k { cs.getD k Cl.zero with n := z }) (j / 8) (j % 8) (by rw [hl2]; exact hd) hm
      rw [e8] at g1 g2
      rw [g2, hc, g1]
      obtain ⟨r, hr⟩ : ∃ r, j % 8 = r := ⟨_, rfl⟩
      rw [hr] at hm e8 ⊢
      by_cases hq : j / 8 = k
      · rw [hq] at e8 ⊢
        have e9 : (cs.set k ({ cs.getD k Cl.zero with n := z } : Cl)).getD k Cl.zero = { cs.getD k Cl.zero with n := z } := by simp [hk]
        rw [e9]
        generalize cs.getD k Cl.zero = y
        obtain ⟨n, s, a, b, gg, t, d, e⟩ := y
        subst e8
        have hk8 : k * 8 + 7 < cs.length * 8 := by omega
        rcases (by omega : r = 0 ∨ 0 < r) with rfl | hr0
        · rw [if_pos (by omega), if_pos (by omega)]
          rfl
        · rw [if_neg (by omega)]
          rcases (by omega : r = 1 ∨ r = 2 ∨ r = 3 ∨ r = 4 ∨ r = 5 ∨ r = 6 ∨ r = 7) with rfl | rfl | rfl | rfl | rfl | rfl | rfl <;> rfl
      · have e9 : (cs.set k ({ cs.getD k Cl.zero with n := z } : Cl)).getD (j / 8) Cl.zero = cs.getD (j / 8) Cl.zero := by
          simp only [List.getD_eq_getElem?_getD, List.getElem?_set]
          rw [if_neg (fun e => hq e.symm)]
        rw [e9, if_neg (by omega)]
    · rw [if_neg hj, List.getElem?_eq_none (by omega)]
theorem own_next {W : World} {B g m c k : Nat} {cs : List Cl} (h : OwnC W B (.slice (some ⟨g, 0, none⟩) m c) (bumpN cs k)) (hk : k < cs.length) {z : Int} (hz : z = (cs.getD k Cl.zero).n + 1) :
    OwnC (W.setCell ⟨g, k * 8, none⟩ (.int .i64 z)) B (.slice (some ⟨g, 0, none⟩) m c) (bumpN cs (k + 1)) := by
  have := own_bump h (by rw [bump_len]; exact hk) z
  rw [bump_get cs k k (Nat.le_refl _)] at this
  subst hz
  exact this
/-- Stamps of cells that may be are small. -/
theorem good_n {p : Int} {c : Cl} (h : c.good p = true) : 0 ≤ c.n ∧ c.n ≤ 9223372036854775000 := by
  obtain ⟨_, h2, _, h4⟩ := good_parts h
  cases hw : c.wrote with
  | true =>
    have := (h2 hw).1
    unfold sgood at this
    simp at this
    omega
  | false => rw [(h4 hw).1]; decide
def smallN (cs : List Cl) : Prop := ∀ i, 0 ≤ (cs.getD i Cl.zero).n ∧ (cs.getD i Cl.zero).n ≤ 9223372036854775000
theorem small_nil : smallN [] := fun i => by simp [Cl.zero]
theorem small_good {gs : List Grp} {k : List UInt8} {cs : List Cl} (h : rgoodS gs k cs = 0) : smallN cs := fun i => by
  by_cases hi : i < cs.length
  · exact good_n (good_at h hi)
  · rw [List.getD_eq_getElem?_getD, List.getElem?_eq_none (by omega)]
    simp [Cl.zero]
theorem small_write (gs : List Grp) (key : List UInt8) (cs : List Cl) (k : Int) (c : Cl) : smallN (rwriteS gs key cs k c).2.1 := by
  rcases @write_cases gs key cs k c with ⟨f, h, _⟩ | ⟨h0, i, rfl, hi, hc, h⟩
  · rw [h]; exact small_nil
  · rw [h]; exact small_good (set_good h0 hi hc)
theorem small_join (gs : List Grp) (ka kb : List UInt8) (ca cb : List Cl) : smallN (rjoinS gs ka ca kb cb).2.1 := by
  by_cases h0 : rgoodS gs ka ca = 0
  · by_cases h1 : rgoodS gs kb cb = 0
    · by_cases h2 : ka = kb
      · subst h2
        have e : rjoinS gs ka ca ka cb = (ka, zipN ca cb ca.length, 0) := by unfold rjoinS; rw [if_neg (not_not_intro h0), if_neg (not_not_intro h1), if_neg (not_not_intro rfl)]
        rw [e]
        exact small_good (zip_good h0 h1)
      · have e : rjoinS gs ka ca kb cb = ([], [], 100) := by unfold rjoinS; rw [if_neg (not_not_intro h0), if_neg (not_not_intro h1), if_pos h2]
        rw [e]; exact small_nil
    · have e : rjoinS gs ka ca kb cb = ([], [], rgoodS gs kb cb) := by unfold rjoinS; rw [if_neg (not_not_intro h0), if_pos h1]
      rw [e]; exact small_nil
  · have e : rjoinS gs ka ca kb cb = ([], [], rgoodS gs ka ca) := by unfold rjoinS; rw [if_pos h0]
    rw [e]; exact small_nil
end Go.Proofs.YtkjpmdpljdgcjaaDoor
end

section
/-
  Row: the walk of RowWrites.
-/
namespace Go.Proofs.YtkjpmdpljdgcjaaDoor
open Go.RowKit Go Go.Sort
set_option linter.unusedVariables false
set_option maxRecDepth 20000

theorem light_two {g : Nat} {ka kb : List UInt8} {ca cb : List Cl} (h : lightN g [(ka, ca), (kb, cb)] 2 ≤ 5000) : ca.length ≤ 5000 ∧ cb.length ≤ 5000 := by
  have step : ∀ (n : Nat) (k : List UInt8) (cs : List Cl), cellsN cs (satN (satN n k.length) cs.length) cs.length ≤ 5000 → n ≤ 5000 ∧ cs.length ≤ 5000 := by
    intro n k cs h
    by_cases hk : 5000 < satN (satN n k.length) cs.length
    · have := cellsN_full (cs := cs) (n := satN (satN n k.length) cs.length) (k := 0) hk (satN_le _ _) cs.length (Nat.zero_le _)
      omega
    · have h1 := satN_fits (n := satN n k.length) (k := cs.length) (by omega)
      have h2 := satN_fits (n := n) (k := k.length) (by omega)
      omega
  have h1 := step (lightN g [(ka, ca), (kb, cb)] 1) kb cb h
  have h2 := step (lightN g [(ka, ca), (kb, cb)] 0) ka ca h1.1
  exact ⟨h2.2, h1.2⟩
theorem own_cls {W : World} {B : Nat} {a : Option Addr} {m c : Nat} {cs : List Cl} (h : OwnC W B (.slice a m c) cs) : Cls W a m c cs := by
  obtain ⟨a', c', ev, hc⟩ := h.cls
  injection ev with e1 e2 e3
  subst e1 e2 e3
  exact hc
theorem RowPost.own {r : List UInt8 × List Cl × Int} {w : World} {e : Ending} {w' : World} (h : RowPost r w e w') : ∃ a c, e = .returned (.tuple #[.agg #[.string (text r.1), .slice a r.2.1.length c], .int .i64 r.2.2]) ∧ OwnC w' w.heap.size (.slice a r.2.1.length c) r.2.1 ∧ Below w.heap.size w w' := by
  obtain ⟨v, rfl, ho, hb⟩ := h
  obtain ⟨a, c, rfl, hc⟩ := ho.cls
  exact ⟨a, c, rfl, ho, hb⟩
theorem ne_out {v : Value} {lo hi q : Nat} (h : ∀ b, v.ownBlock = some b → lo ≤ b ∧ b < hi) (hq : q < lo ∨ hi ≤ q) : some q ≠ v.ownBlock := fun e => by have := h q e.symm; omega
theorem ne_own {v u : Value} {lo hi lo2 hi2 : Nat} (h : ∀ b, v.ownBlock = some b → lo ≤ b ∧ b < hi) (h2 : ∀ b, u.ownBlock = some b → lo2 ≤ b ∧ b < hi2) (hd : hi2 ≤ lo ∨ hi ≤ lo2) : ∀ q, u.ownBlock = some q → some q ≠ v.ownBlock := fun q hq e => by
  have a := h2 q hq
  have b := h q e.symm
  omega
/-- What the copying of two rows tells. -/
def CopyG (B0 base : Nat) (ka kb : ByteArray) (xa : Option Addr) (ma pa : Nat) (ca : List Cl) (xb : Option Addr) (mb pb : Nat) (cb : List Cl) : Nat → Value → World → Prop
  | 0, v, _ => v = .pointer (some ⟨B0, 0, none⟩)
  | 1, v, _ => v = .agg #[.string ka, .slice xa ma pa]
  | 2, v, W => ∃ a c, v = .agg #[.string ka, .slice a ma c] ∧ OwnC W base (.slice a ma c) ca
  | 3, v, _ => v = .agg #[.string kb, .slice xb mb pb]
  | 4, v, W => ∃ a c, v = .agg #[.string kb, .slice a mb c] ∧ OwnC W base (.slice a mb c) cb
  | _, _, _ => True
theorem own_wrote {X Y : World} {q B : Nat} {cs ds : Array Value} {u : Value} {l : List Cl} (hq : X.heap[q]? = some (.cells ds 25 (0, 0))) (hw : Wrote q cs 25 X Y) (ho : OwnC X B u l) : OwnC Y B u l :=
  ho.of_block fun b hb => hw.rest b (ho.lt b hb).2 (fun e => own_ne hq (by decide) ho (by rw [hb, e]))
theorem copy_st (B0 base : Nat) (ka kb : ByteArray) (xa : Option Addr) (ma pa : Nat) (ca : List Cl) (xb : Option Addr) (mb pb : Nat) (cb : List Cl) : GSt 25 (CopyG B0 base ka kb xa ma pa ca xb mb pb cb) := by
  refine ⟨fun i v X Y h hb => ?_, fun i v X Y q cs ds hq hw h => ?_⟩
  · rcases i with _ | _ | _ | _ | _ | i
    · exact h
    · exact h
    · obtain ⟨a, c, e, ho⟩ := h; exact ⟨a, c, e, ho.kept hb⟩
    · exact h
    · obtain ⟨a, c, e, ho⟩ := h; exact ⟨a, c, e, ho.kept hb⟩
    · exact trivial
  · rcases i with _ | _ | _ | _ | _ | i
    · exact h
    · exact h
    · obtain ⟨a, c, e, ho⟩ := h; exact ⟨a, c, e, own_wrote hq hw ho⟩
    · exact h
    · obtain ⟨a, c, e, ho⟩ := h; exact ⟨a, c, e, own_wrote hq hw ho⟩
    · exact trivial

set_option maxRecDepth 100000 in
set_option maxHeartbeats 12800000 in
theorem rwrites_walk {w : World} {x xa xb : Option Addr} {n1 cap ma pa mb pb : Nat} {gs : List Grp} {ca cb : List Cl} (hg : Grs w x n1 cap gs) (hs : ∀ g ∈ gs, g.1.length ≤ 9223372036854775807)
    (hla : Cls w xa ma pa ca) (hxa : ∀ c ∈ ca, c.t.length ≤ 9223372036854775807) (ka : List UInt8) (hka : ka.length ≤ 9223372036854775807) (k : Int) (n s a b : Int) (g : Bool) (t : List UInt8) (d e : Int) (ht : t.length ≤ 9223372036854775807)
    (hlb : Cls w xb mb pb cb) (hxb : ∀ c ∈ cb, c.t.length ≤ 9223372036854775807) (kb : List UInt8) (hkb : kb.length ≤ 9223372036854775807) (hT : TabW w) :
    Calls Tryd.prog 4 #[.slice x n1 cap, .agg #[.string (text ka), .slice xa ma pa, .int .i64 k, .int .i64 n, .int .i64 s, .int .i64 a, .int .i64 b, .bool g, .string (text t), .int .i64 d, .int .i64 e], .agg #[.string (text kb), .slice xb mb pb]] w (Tells (.bool true) w) := by
  have hal := hla.len
  have hbl := hlb.len
  have HLv := Lib.hid (fun W (h : Below w.heap.size w W) => rlives_c (hT.below h))
  have hLT := fun W (h : Below w.heap.size w W) (q : Nat) (hr : RowsAt W q [(ka, ca), (kb, cb)]) => light_c (hg.below h) hr (rfl : _ = 2) (by omega)
    (fun r hr => by simp only [List.mem_cons, List.not_mem_nil, or_false] at hr; rcases hr with rfl | rfl <;> assumption) (fun r hr => by simp only [List.mem_cons, List.not_mem_nil, or_false] at hr; rcases hr with rfl | rfl <;> assumption)
  have hLK := @light_two gs.length ka kb ca cb
  have hWO := fun (W : World) (h : Below w.heap.size w W) (u9 : Option Addr) (p : Nat) (hh : Cls W u9 ma p ca) => (rowwrite_c (hg.below h) hs hh hxa ka hka k n s a b g t d e ht).mono fun _ _ h => h.own
  have hWR := fun (W : World) (h : Below w.heap.size w W) => (rrowwrite_c (hg.below h) hs (hla.below h) hxa ka hka k n s a b g t d e ht).mono fun _ _ h => h.own
  have hJO := fun (W : World) (h : Below w.heap.size w W) (a b : Option Addr) (p q : Nat) (h1 : Cls W a ma p ca) (h2 : Cls W b mb q cb) => (rowjoin_c (hg.below h) hs h1 hxa ka hka h2 hxb kb hkb).mono fun _ _ h => h.own
  have hJR := fun (W : World) (h : Below w.heap.size w W) => (rrowjoin_c (hg.below h) hs (hla.below h) hxa ka hka (hlb.below h) hxb kb hkb).mono fun _ _ h => h.own
  have hCA := fun (hm : ma ≤ 1000000) (W : World) (h : Below w.heap.size w W) => rcopy_c (hla.below h) hm (text ka)
  have hCB := fun (hm : mb ≤ 1000000) (W : World) (h : Below w.heap.size w W) => rcopy_c (hlb.below h) hm (text kb)
  have hSX := small_write gs ka ca k ⟨n, s, a, b, g, t, d, e⟩
  have hSZ := small_join gs ka kb ca cb
  obtain ⟨LB, hL⟩ : ∃ q, decide (lightN gs.length [(ka, ca), (kb, cb)] 2 ≤ 5000) = q := ⟨_, rfl⟩
  simp only [hL] at hLT
  have hLK2 : LB = true → ma ≤ 1000000 ∧ mb ≤ 1000000 := fun h => by
    have := hLK (of_decide_eq_true (hL.trans h))
    omega
  obtain ⟨⟨xk, lx, xf⟩, hRW⟩ : ∃ q, rwriteS gs ka ca k ⟨n, s, a, b, g, t, d, e⟩ = q := ⟨_, rfl⟩
  obtain ⟨⟨zk, lz, zf⟩, hRJ⟩ : ∃ q, rjoinS gs ka ca kb cb = q := ⟨_, rfl⟩
  simp only [hRW] at hWO hWR hSX
  simp only [hRJ] at hJO hJR hSZ
  obtain ⟨xn, hxn⟩ : ∃ q, lx.length = q := ⟨_, rfl⟩
  obtain ⟨zn, hzn⟩ : ∃ q, lz.length = q := ⟨_, rfl⟩
  obtain ⟨tx, htx⟩ : ∃ q, text xk = q := ⟨_, rfl⟩
  obtain ⟨tz, htz⟩ : ∃ q, text zk = q := ⟨_, rfl⟩
  simp only [hxn, htx] at hWO hWR
  simp only [hzn, htz] at hJO hJR
  obtain ⟨tka, htka⟩ : ∃ q, text ka = q := ⟨_, rfl⟩
  obtain ⟨tkb, htkb⟩ : ∃ q, text kb = q := ⟨_, rfl⟩
  simp only [htka] at hWO hWR hCA
  simp only [htkb] at hCB
  simp only [htka, htkb] at hJO hJR
  rw [htka, htkb]
  have hsz : ((text t).size : Int) = (t.length : Int) := by rw [text_size]
  obtain ⟨tl, htl⟩ : ∃ q, t.length = q := ⟨_, rfl⟩
  rw [htl] at hsz
  have HTA := Lib.hid htka
  have HTB := Lib.hid htkb
  have HLA := Lib.hid hla
  have HLB := Lib.hid hlb
  have HLT := Lib.hid hLT
  have HLK := Lib.hid hLK2
  have HWO := Lib.hid hWO
  have HWR := Lib.hid hWR
  have HJO := Lib.hid hJO
  have HJR := Lib.hid hJR
  have HCA := Lib.hid hCA
  have HCB := Lib.hid hCB
  have HSX := Lib.hid hSX
  have HSZ := Lib.hid hSZ
  have HXN := Lib.hid hxn
  have HZN := Lib.hid hzn
  have hal1 := (alloc_below w (.cells #[.string tka, .slice xa ma pa, .int .i64 k, .int .i64 n, .int .i64 s, .int .i64 a, .int .i64 b, .bool g, .string (text t), .int .i64 d, .int .i64 e] 52)).alloc (by simp) (.cells #[.string tkb, .slice xb mb pb] 25)
  have hr1 : ((w.alloc (.cells #[.string tka, .slice xa ma pa, .int .i64 k, .int .i64 n, .int .i64 s, .int .i64 a, .int .i64 b, .bool g, .string (text t), .int .i64 d, .int .i64 e] 52)).alloc (.cells #[.string tkb, .slice xb mb pb] 25)).heap[w.heap.size]? = some (.cells #[.string tka, .slice xa ma pa, .int .i64 k, .int .i64 n, .int .i64 s, .int .i64 a, .int .i64 b, .bool g, .string (text t), .int .i64 d, .int .i64 e] 52 (0, 0)) := (Below.heap_alloc _ _ _ (by simp)).trans (heap_alloc_new w _)
  have hr2 := heap_alloc_new (w.alloc (.cells #[.string tka, .slice xa ma pa, .int .i64 k, .int .i64 n, .int .i64 s, .int .i64 a, .int .i64 b, .bool g, .string (text t), .int .i64 d, .int .i64 e] 52)) (.cells #[.string tkb, .slice xb mb pb] 25)
  simp only [World.size_alloc] at hr2
  clear hLT hLK hLK2 hWO hWR hJO hJR hCA hCB hSX hSZ hL hRW hRJ hxn hzn htx htz htka htkb htl hg hs hla hlb hxa hxb hka hkb ht hT
  go_enter Tryd.func4, Tryd.ntmps4
  go_upto_region 1 with (fail)
  obtain ⟨B, hBe⟩ : ∃ q, w.heap.size = q := ⟨_, rfl⟩
  have HBe := Lib.hid hBe
  rw [hBe] at hr1 hr2 ⊢
  clear hBe
  generalize (w.alloc (.cells #[.string tka, .slice xa ma pa, .int .i64 k, .int .i64 n, .int .i64 s, .int .i64 a, .int .i64 b, .bool g, .string (text t), .int .i64 d, .int .i64 e] 52)).alloc (.cells #[.string tkb, .slice xb mb pb] 25) = W1 at *
  have HB1 := Lib.hid hal1
  have T1 := Lib.hid hr1
  have R1 := Lib.hid hr2
  clear hal1 hr1 hr2
  have hal4 := alloc_below W1 (.cells #[.string tka, .slice xa ma pa, .string tkb, .slice xb mb pb] 25)
  have HB2 := Lib.hid (HB1.out.trans (hal4.mono HB1.out.size))
  have HLC := Lib.hid (HLT.out _ HB2.out _ (rowsAt_two (heap_alloc_new W1 (.cells #[.string tka, .slice xa ma pa, .string tkb, .slice xb mb pb] 25)) HTA.out HTB.out (HLA.out.below HB2.out) (HLB.out.below HB2.out)))
  have T2 := Lib.hid (heap_below T1.out hal4)
  have R2 := Lib.hid (heap_below R1.out hal4)
  obtain ⟨⟨t0, t1, t2⟩, c0, c1, c2, c3, c4, c5, c6, c7⟩ := rowtwo_cells n s a b g t d e T1.out
  obtain ⟨r0, r1, -⟩ := row_cells R1.out
  clear hal4 HLT
  cases LB with
  | false =>
    go_wp2_with (first
      | (go_at_call 8; (with_reducible refine HLC.out.mono ?_); rintro e9 w9 ⟨rfl, hb9⟩; have T3 := Lib.hid (heap_below T2.out hb9); have R3 := Lib.hid (heap_below R2.out hb9); have HB3 := Lib.hid (HB2.out.trans (hb9.mono HB2.out.size)); clear hb9; obtain ⟨⟨t0, t1, t2⟩, c0, c1, c2, c3, c4, c5, c6, c7⟩ := rowtwo_cells n s a b g t d e T3.out)
      | (go_at_call 9; (with_reducible refine (HLv.out _ HB3.out).mono ?_); rintro e9 w8 ⟨rfl, hb9⟩; have HBz := Lib.hid (HB3.out.trans (hb9.mono HB3.out.size)); clear hb9))
    go_ret
    exact ⟨rfl, HBz.out⟩
  | true =>
    by_cases h2 : 1000 < tl
    · have h2i : (1000 : Int) < (tl : Int) := by omega
      go_wp2_with (first
        | (go_at_call 8; (with_reducible refine HLC.out.mono ?_); rintro e9 w9 ⟨rfl, hb9⟩; have T3 := Lib.hid (heap_below T2.out hb9); have R3 := Lib.hid (heap_below R2.out hb9); have HB3 := Lib.hid (HB2.out.trans (hb9.mono HB2.out.size)); clear hb9; obtain ⟨⟨t0, t1, t2⟩, c0, c1, c2, c3, c4, c5, c6, c7⟩ := rowtwo_cells n s a b g t d e T3.out)
        | (go_at_call 9; (with_reducible refine (HLv.out _ HB3.out).mono ?_); rintro e9 w8 ⟨rfl, hb9⟩; have HBz := Lib.hid (HB3.out.trans (hb9.mono HB3.out.size)); clear hb9))
      go_ret
      exact ⟨rfl, HBz.out⟩
    · have h2i : ¬ (1000 : Int) < (tl : Int) := by omega
      obtain ⟨hma, hmb⟩ := HLK.out (by first | rfl | trivial)
      go_upto_region 3 with (go_at_call 8; (with_reducible refine HLC.out.mono ?_); rintro e9 w9 ⟨rfl, hb9⟩; have T3 := Lib.hid (heap_below T2.out hb9); have R3 := Lib.hid (heap_below R2.out hb9); have HB3 := Lib.hid (HB2.out.trans (hb9.mono HB2.out.size)); clear hb9; obtain ⟨⟨t0, t1, t2⟩, c0, c1, c2, c3, c4, c5, c6, c7⟩ := rowtwo_cells n s a b g t d e T3.out)
      clear t0 t1 t2 c0 c1 c2 c3 c4 c5 c6 c7 r0 r1 T1 R1 T2 R2 HB1 HB2 HLC HLK
      have HST := Lib.hid (copy_st B w.heap.size tka tkb xa ma pa ca xb mb pb cb)
      obtain ⟨V3, hV3⟩ : ∃ X, w9 = X := ⟨_, rfl⟩
      rw [hV3] at T3 R3 HB3 ⊢
      clear hV3
      refine wp_region_inv [none, none, none, none, none, none, none, some 5, some 6, none, none, none, none, none, none, none, none, none, none, none, none, none, none, none, none, none, none, none, none, none, none, none, none, none, none, none, some 0, some 1, some 2, some 3, some 4, none, none, none, none, none, none, none, none, none, none, none, none, none, none, none, none, none, none, none, none, none, none, none, none, none, none, none, none, none, none, none, none, none, none, none, none, none, none, none, none, none, none, none, none, none, none, none, none, none, none, none, none, none, none, none, none, none, none, none, none, none, none, none, none, none, none, none, none, none, none, none, none, none, none, none, none, none, none, none, none, none, none, none, none, none, none, none, none, none, none, none, none, none, none, none, none, none, none, none, none, none, none, none, none, none, none, none, none, none, none, none, none, none, none, none, none, none, none, none, none, none, none, none, none, none, none, none, none, none, none, none, none, none, none, none, none, none, none, none, none] (fun _ => undef) (LayG 5 2 25 #[.string ⟨#[]⟩, .slice none 0 0] (CopyG B w.heap.size tka tkb xa ma pa ca xb mb pb cb) (fun j => [2, 4].getD j 0) V3) (by kernel_rfl) (by kernel_rfl) rfl rfl (fun L hL => LayG.start hL) ?_ ?_
      · simp only [invOps, and_true]
        refine ⟨?_, ?_, ?_, ?_, ?_, ?_, ?_, ?_, ?_⟩
        · intro L xs W hI hL hn
          simp only [flowAct, List.zipWith_cons_cons, List.zipWith_nil_left]
          go_wp2_with (fail)
          exact ⟨rfl, _, rfl, hI.set HST.out 0 (by decide) (Below.refl _ _) rfl⟩
        · intro L xs W hI hL hn
          obtain ⟨⟨t0, t1, t2⟩, c0, c1, c2, c3, c4, c5, c6, c7⟩ := rowtwo_cells n s a b g t d e (heap_below T3.out hI.below)
          simp [invNeeds, Region.binds] at hn
          have e0 : xs 0 = .pointer (some ⟨B, 0, none⟩) := hI.2.1 0 (by decide) (by simp_all)
          simp only [flowAct, List.zipWith_cons_cons, List.zipWith_nil_left]
          simp only [e0]
          go_wp2_with (fail)
          exact ⟨rfl, _, rfl, hI.set HST.out 1 (by decide) (Below.refl _ _) rfl⟩
        · intro L xs W hI hL hn
          simp [invNeeds, Region.binds] at hn
          have e1 : xs 1 = .agg #[.string tka, .slice xa ma pa] := hI.2.1 1 (by decide) (by simp_all)
          simp only [flowAct, List.zipWith_cons_cons, List.zipWith_nil_left]
          simp only [e1]
          go_wp2_with (go_at_call 22; (with_reducible refine (HCA.out hma _ (HB3.out.trans (hI.below.mono HB3.out.size))).mono ?_); rintro e9 w9 ⟨v9, rfl, ho9, hb9⟩; obtain ⟨a9, c9, ev, -⟩ := ho9.cls; rw [hal] at ev; subst ev)
          exact ⟨rfl, _, rfl, hI.set HST.out 2 (by decide) hb9 ⟨a9, c9, rfl, ho9.mono (Nat.le_trans HB3.out.size hI.below.size)⟩⟩
        · intro L xs W hI hL hn
          obtain ⟨r0, r1, -⟩ := row_cells (heap_below R3.out hI.below)
          simp only [flowAct, List.zipWith_cons_cons, List.zipWith_nil_left]
          go_wp2_with (fail)
          exact ⟨rfl, _, rfl, hI.set HST.out 3 (by decide) (Below.refl _ _) rfl⟩
        · intro L xs W hI hL hn
          simp [invNeeds, Region.binds] at hn
          have e3 : xs 3 = .agg #[.string tkb, .slice xb mb pb] := hI.2.1 3 (by decide) (by simp_all)
          simp only [flowAct, List.zipWith_cons_cons, List.zipWith_nil_left]
          simp only [e3]
          go_wp2_with (go_at_call 22; (with_reducible refine (HCB.out hmb _ (HB3.out.trans (hI.below.mono HB3.out.size))).mono ?_); rintro e9 w9 ⟨v9, rfl, ho9, hb9⟩; obtain ⟨a9, c9, ev, -⟩ := ho9.cls; rw [hbl] at ev; subst ev)
          exact ⟨rfl, _, rfl, hI.set HST.out 4 (by decide) hb9 ⟨a9, c9, rfl, ho9.mono (Nat.le_trans HB3.out.size hI.below.size)⟩⟩
        · intro L xs W hI hL hn
          simp only [flowAct, List.zipWith_cons_cons, List.zipWith_nil_left]
          go_wp2_with (fail)
          exact ⟨rfl, _, rfl, hI.alloc HST.out 0 (by decide) rfl hL⟩
        · intro L xs W hI hL hn
          simp only [flowAct, List.zipWith_cons_cons, List.zipWith_nil_left]
          go_wp2_with (fail)
          exact ⟨rfl, _, rfl, hI.alloc HST.out 1 (by decide) rfl hL⟩
        · intro L xs W hI hL hn
          simp [invNeeds, Region.binds] at hn
          obtain ⟨hk, hv⟩ : L 5 = true ∧ L 2 = true := by simp_all
          obtain ⟨g5, cs5, eg, lg, hgc, hz5⟩ := hI.2.2.1 0 (by decide) hk
          rw [if_neg (by rw [show L (5 + 2 + 0) = false from hL]; decide)] at hz5
          subst hz5
          obtain ⟨a9, c9, e0, ho9⟩ := hI.2.1 2 (by decide) hv
          have e1 : xs 5 = .pointer (some ⟨g5, 0, none⟩) := eg
          obtain ⟨p0, p1, pfz⟩ := row_cells hgc
          simp only [flowAct, List.zipWith_cons_cons, List.zipWith_nil_left]
          simp only [e0, e1]
          go_wp2_with (fail)
          exact ⟨rfl, undef, rfl, hI.store HST.out 0 (by decide) rfl rfl hk eg ⟨a9, c9, rfl, ho9⟩ (Wrote.row hgc tka (.slice a9 ma c9)) undef⟩
        · intro L xs W hI hL hn
          simp [invNeeds, Region.binds] at hn
          obtain ⟨hk, hv⟩ : L 6 = true ∧ L 4 = true := by simp_all
          obtain ⟨g5, cs5, eg, lg, hgc, hz5⟩ := hI.2.2.1 1 (by decide) hk
          rw [if_neg (by rw [show L (5 + 2 + 1) = false from hL]; decide)] at hz5
          subst hz5
          obtain ⟨a9, c9, e0, ho9⟩ := hI.2.1 4 (by decide) hv
          have e1 : xs 6 = .pointer (some ⟨g5, 0, none⟩) := eg
          obtain ⟨p0, p1, pfz⟩ := row_cells hgc
          simp only [flowAct, List.zipWith_cons_cons, List.zipWith_nil_left]
          simp only [e0, e1]
          go_wp2_with (fail)
          exact ⟨rfl, undef, rfl, hI.store HST.out 1 (by decide) rfl rfl hk eg ⟨a9, c9, rfl, ho9⟩ (Wrote.row hgc tkb (.slice a9 mb c9)) undef⟩
      · intro L xs W hI hall
        obtain ⟨hW, -, hP, -, -⟩ := hI
        obtain ⟨q7, cs7, e7, l7, h7, g7⟩ := hP 0 (by decide) (hall 5 (by decide))
        obtain ⟨q8, cs8, e8, l8, h8, g8⟩ := hP 1 (by decide) (hall 6 (by decide))
        rw [if_pos (hall (5 + 2 + 0) (by decide))] at g7
        rw [if_pos (hall (5 + 2 + 1) (by decide))] at g8
        obtain ⟨a7, c7, ev7, o7⟩ := g7
        obtain ⟨a8, c8, ev8, o8⟩ := g8
        injection ev7 with ev7
        injection ev8 with ev8
        subst ev7 ev8
        replace e7 : xs 5 = _ := e7
        replace e8 : xs 6 = _ := e8
        clear hP hall
        simp only [flowAct, List.zipWith_cons_cons, List.zipWith_nil_left]
        simp only [e7, e8]
        have HB4 := Lib.hid (HB3.out.trans (hW.mono HB3.out.size))
        have T4 := Lib.hid (heap_below T3.out hW)
        have R4 := Lib.hid (heap_below R3.out hW)
        have A4 := Lib.hid h7
        have C4 := Lib.hid h8
        have OA4 := Lib.hid o7
        have OC4 := Lib.hid o8
        clear e7 e8 l7 l8 h7 h8 o7 o8 hW T3 R3 HB3 HST HCA HCB
        rename_i W4i
        obtain ⟨V4, hV4⟩ : ∃ X, W = X := ⟨_, rfl⟩
        rw [hV4] at HB4 T4 R4 A4 C4 OA4 OC4 ⊢
        clear hV4
        have LA := Lib.hid (fun b hb => (OA4.out.lt b hb))
        have LC := Lib.hid (fun b hb => (OC4.out.lt b hb))
        have QT := Lib.hid (Array.getElem?_eq_some_iff.1 T4.out).1
        have QR := Lib.hid (Array.getElem?_eq_some_iff.1 R4.out).1
        have QA := Lib.hid (Array.getElem?_eq_some_iff.1 A4.out).1
        have QC := Lib.hid (Array.getElem?_eq_some_iff.1 C4.out).1
        obtain ⟨S3, hS3⟩ : ∃ z, V4.heap.size = z := ⟨_, rfl⟩
        have HS3 := Lib.hid hS3
        rw [hS3] at LA LC
        rw [hS3] at QT QR QA QC
        have HWS := Lib.hid (show w.heap.size ≤ S3 by rw [← hS3]; exact HB4.out.size)
        clear hS3
        obtain ⟨⟨t0, t1, t2⟩, c0, c1, c2, c3, c4, c5, c6, c7⟩ := rowtwo_cells n s a b g t d e T4.out
        obtain ⟨a0, a1, -⟩ := row_cells A4.out
        go_upto_region 5 with (go_at_call 23; (with_reducible refine (HWO.out _ HB4.out _ _ (own_cls OA4.out)).mono ?_); rintro e9 w9 ⟨ax, cx, rfl, hX, hb9⟩; have HBm := Lib.hid (HB4.out.trans (hb9.mono HB4.out.size)); have hXm := Lib.hid hX; have hSm := Lib.hid hb9.size; have Tm := Lib.hid (heap_below T4.out hb9); have Rm := Lib.hid (heap_below R4.out hb9); have Am := Lib.hid (heap_below A4.out hb9); have Cm := Lib.hid (heap_below C4.out hb9); have OAm := Lib.hid (OA4.out.kept hb9); have OCm := Lib.hid (OC4.out.kept hb9); clear hb9 hX)
        have hal9 := alloc_below w9 (.cells #[.string tx, .slice ax xn cx] 25)
        have T5 := Lib.hid (heap_below Tm.out hal9)
        have R5 := Lib.hid (heap_below Rm.out hal9)
        have A5 := Lib.hid (heap_below Am.out hal9)
        have C5 := Lib.hid (heap_below Cm.out hal9)
        have OA5 := Lib.hid (OAm.out.kept hal9)
        have OC5 := Lib.hid (OCm.out.kept hal9)
        have HB5 := Lib.hid (HBm.out.trans (hal9.mono HBm.out.size))
        have hnew := heap_alloc_new w9 (.cells #[.string tx, .slice ax xn cx] 25)
        have hown := hXm.out.kept hal9
        have hltm := hXm.out.lt
        have hsm := hSm.out
        have hsz9 : (w9.alloc (.cells #[.string tx, .slice ax xn cx] 25)).heap.size = w9.heap.size + 1 := World.size_alloc _ _
        obtain ⟨qX, hq⟩ : ∃ q, w9.heap.size = q := ⟨_, rfl⟩
        rw [hq] at hnew hltm hsm hsz9 ⊢
        have X5 := Lib.hid hnew
        rw [HS3.out] at hown hltm hsm
        have OX5 := Lib.hid hown
        have LX := Lib.hid hltm
        have QX := Lib.hid hsm
        have HZ5 := Lib.hid hsz9
        generalize w9.alloc (.cells #[.string tx, .slice ax xn cx] 25) = V5 at *
        clear hal9 hnew hown hltm hsm hsz9 hq hXm hSm HBm HB4 T4 Tm R4 Rm A4 Am C4 Cm OA4 OAm OC4 OCm t0 t1 t2 c0 c1 c2 c3 c4 c5 c6 c7 a0 a1
        obtain ⟨⟨t0, t1, t2⟩, c0, c1, c2, c3, c4, c5, c6, c7⟩ := rowtwo_cells n s a b g t d e T5.out
        go_upto_region 6 with (go_at_call 24; (with_reducible refine (HWR.out _ HB5.out).mono ?_); rintro e9 w9 ⟨ay, cy, rfl, hX, hb9⟩; have HBm := Lib.hid (HB5.out.trans (hb9.mono HB5.out.size)); have hXm := Lib.hid hX; have hSm := Lib.hid hb9.size; have Tm := Lib.hid (heap_below T5.out hb9); have Rm := Lib.hid (heap_below R5.out hb9); have Am := Lib.hid (heap_below A5.out hb9); have Cm := Lib.hid (heap_below C5.out hb9); have Xm := Lib.hid (heap_below X5.out hb9); have OAm := Lib.hid (OA5.out.kept hb9); have OCm := Lib.hid (OC5.out.kept hb9); have OXm := Lib.hid (OX5.out.kept hb9); clear hb9 hX)
        have hal9 := alloc_below w9 (.cells #[.string tx, .slice ay xn cy] 25)
        have T6 := Lib.hid (heap_below Tm.out hal9)
        have R6 := Lib.hid (heap_below Rm.out hal9)
        have A6 := Lib.hid (heap_below Am.out hal9)
        have C6 := Lib.hid (heap_below Cm.out hal9)
        have X6 := Lib.hid (heap_below Xm.out hal9)
        have OA6 := Lib.hid (OAm.out.kept hal9)
        have OC6 := Lib.hid (OCm.out.kept hal9)
        have OX6 := Lib.hid (OXm.out.kept hal9)
        have HB6 := Lib.hid (HBm.out.trans (hal9.mono HBm.out.size))
        have hnew := heap_alloc_new w9 (.cells #[.string tx, .slice ay xn cy] 25)
        have hown := hXm.out.kept hal9
        have hltm := hXm.out.lt
        have hsm := hSm.out
        have hsz9 : (w9.alloc (.cells #[.string tx, .slice ay xn cy] 25)).heap.size = w9.heap.size + 1 := World.size_alloc _ _
        obtain ⟨qY, hq⟩ : ∃ q, w9.heap.size = q := ⟨_, rfl⟩
        rw [hq] at hnew hltm hsm hsz9 ⊢
        have Y6 := Lib.hid hnew
        rw [HZ5.out] at hown hltm hsm
        have OY6 := Lib.hid hown
        have LY := Lib.hid hltm
        have QY := Lib.hid hsm
        have HZ6 := Lib.hid hsz9
        generalize w9.alloc (.cells #[.string tx, .slice ay xn cy] 25) = V6 at *
        clear hal9 hnew hown hltm hsm hsz9 hq hXm hSm HBm HB5 T5 Tm R5 Rm A5 Am C5 Cm X5 Xm OA5 OAm OC5 OCm OX5 OXm t0 t1 t2 c0 c1 c2 c3 c4 c5 c6 c7  HZ5
        obtain ⟨a0, a1, -⟩ := row_cells A6.out
        obtain ⟨d0, d1, -⟩ := row_cells C6.out
        go_upto_region 7 with (go_at_call 25; (with_reducible refine (HJO.out _ HB6.out _ _ _ _ (own_cls OA6.out) (own_cls OC6.out)).mono ?_); rintro e9 w9 ⟨az, cz, rfl, hX, hb9⟩; have HBm := Lib.hid (HB6.out.trans (hb9.mono HB6.out.size)); have hXm := Lib.hid hX; have hSm := Lib.hid hb9.size; have Tm := Lib.hid (heap_below T6.out hb9); have Rm := Lib.hid (heap_below R6.out hb9); have Am := Lib.hid (heap_below A6.out hb9); have Cm := Lib.hid (heap_below C6.out hb9); have Xm := Lib.hid (heap_below X6.out hb9); have Ym := Lib.hid (heap_below Y6.out hb9); have OAm := Lib.hid (OA6.out.kept hb9); have OCm := Lib.hid (OC6.out.kept hb9); have OXm := Lib.hid (OX6.out.kept hb9); have OYm := Lib.hid (OY6.out.kept hb9); clear hb9 hX)
        have hal9 := alloc_below w9 (.cells #[.string tz, .slice az zn cz] 25)
        have T7 := Lib.hid (heap_below Tm.out hal9)
        have R7 := Lib.hid (heap_below Rm.out hal9)
        have A7 := Lib.hid (heap_below Am.out hal9)
        have C7 := Lib.hid (heap_below Cm.out hal9)
        have X7 := Lib.hid (heap_below Xm.out hal9)
        have Y7 := Lib.hid (heap_below Ym.out hal9)
        have OA7 := Lib.hid (OAm.out.kept hal9)
        have OC7 := Lib.hid (OCm.out.kept hal9)
        have OX7 := Lib.hid (OXm.out.kept hal9)
        have OY7 := Lib.hid (OYm.out.kept hal9)
        have HB7 := Lib.hid (HBm.out.trans (hal9.mono HBm.out.size))
        have hnew := heap_alloc_new w9 (.cells #[.string tz, .slice az zn cz] 25)
        have hown := hXm.out.kept hal9
        have hltm := hXm.out.lt
        have hsm := hSm.out
        have hsz9 : (w9.alloc (.cells #[.string tz, .slice az zn cz] 25)).heap.size = w9.heap.size + 1 := World.size_alloc _ _
        obtain ⟨qZ, hq⟩ : ∃ q, w9.heap.size = q := ⟨_, rfl⟩
        rw [hq] at hnew hltm hsm hsz9 ⊢
        have Z7 := Lib.hid hnew
        rw [HZ6.out] at hown hltm hsm
        have OZ7 := Lib.hid hown
        have LZ := Lib.hid hltm
        have QZ := Lib.hid hsm
        have HZ7 := Lib.hid hsz9
        generalize w9.alloc (.cells #[.string tz, .slice az zn cz] 25) = V7 at *
        clear hal9 hnew hown hltm hsm hsz9 hq hXm hSm HBm HB6 T6 Tm R6 Rm A6 Am C6 Cm X6 Xm Y6 Ym OA6 OAm OC6 OCm OX6 OXm OY6 OYm a0 a1 d0 d1  HZ6
        obtain ⟨⟨t0, t1, t2⟩, c0, c1, c2, c3, c4, c5, c6, c7⟩ := rowtwo_cells n s a b g t d e T7.out
        obtain ⟨r0, r1, -⟩ := row_cells R7.out
        go_upto_region 8 with (go_at_call 26; (with_reducible refine (HJR.out _ HB7.out).mono ?_); rintro e9 w9 ⟨au, cu, rfl, hX, hb9⟩; have HBm := Lib.hid (HB7.out.trans (hb9.mono HB7.out.size)); have hXm := Lib.hid hX; have hSm := Lib.hid hb9.size; have Tm := Lib.hid (heap_below T7.out hb9); have Rm := Lib.hid (heap_below R7.out hb9); have Am := Lib.hid (heap_below A7.out hb9); have Cm := Lib.hid (heap_below C7.out hb9); have Xm := Lib.hid (heap_below X7.out hb9); have Ym := Lib.hid (heap_below Y7.out hb9); have Zm := Lib.hid (heap_below Z7.out hb9); have OAm := Lib.hid (OA7.out.kept hb9); have OCm := Lib.hid (OC7.out.kept hb9); have OXm := Lib.hid (OX7.out.kept hb9); have OYm := Lib.hid (OY7.out.kept hb9); have OZm := Lib.hid (OZ7.out.kept hb9); clear hb9 hX)
        have hal9 := alloc_below w9 (.cells #[.string tz, .slice au zn cu] 25)
        have T8 := Lib.hid (heap_below Tm.out hal9)
        have R8 := Lib.hid (heap_below Rm.out hal9)
        have A8 := Lib.hid (heap_below Am.out hal9)
        have C8 := Lib.hid (heap_below Cm.out hal9)
        have X8 := Lib.hid (heap_below Xm.out hal9)
        have Y8 := Lib.hid (heap_below Ym.out hal9)
        have Z8 := Lib.hid (heap_below Zm.out hal9)
        have OA8 := Lib.hid (OAm.out.kept hal9)
        have OC8 := Lib.hid (OCm.out.kept hal9)
        have OX8 := Lib.hid (OXm.out.kept hal9)
        have OY8 := Lib.hid (OYm.out.kept hal9)
        have OZ8 := Lib.hid (OZm.out.kept hal9)
        have HB8 := Lib.hid (HBm.out.trans (hal9.mono HBm.out.size))
        have hnew := heap_alloc_new w9 (.cells #[.string tz, .slice au zn cu] 25)
        have hown := hXm.out.kept hal9
        have hltm := hXm.out.lt
        have hsm := hSm.out
        have hsz9 : (w9.alloc (.cells #[.string tz, .slice au zn cu] 25)).heap.size = w9.heap.size + 1 := World.size_alloc _ _
        obtain ⟨qU, hq⟩ : ∃ q, w9.heap.size = q := ⟨_, rfl⟩
        rw [hq] at hnew hltm hsm hsz9 ⊢
        have U8 := Lib.hid hnew
        rw [HZ7.out] at hown hltm hsm
        have OU8 := Lib.hid hown
        have LU := Lib.hid hltm
        have QU := Lib.hid hsm
        have HZ8 := Lib.hid hsz9
        generalize w9.alloc (.cells #[.string tz, .slice au zn cu] 25) = V8 at *
        clear hal9 hnew hown hltm hsm hsz9 hq hXm hSm HBm HB7 T7 Tm R7 Rm A7 Am C7 Cm X7 Xm Y7 Ym Z7 Zm OA7 OAm OC7 OCm OX7 OXm OY7 OYm OZ7 OZm t0 t1 t2 c0 c1 c2 c3 c4 c5 c6 c7 r0 r1  HZ7
        clear HWO HWR HJO HJR HZ8
        have iT := QT.out
        have iR := QR.out
        have iA := QA.out
        have iC := QC.out
        have iX := QX.out
        have iY := QY.out
        have iZ := QZ.out
        have iU := QU.out
        have hws := HWS.out
        have HORD := Lib.hid (show B < S3 ∧ B + 1 < S3 ∧ q7 < S3 ∧ q8 < S3 ∧ S3 ≤ qX ∧ qX + 1 ≤ qY ∧ qY + 1 ≤ qZ ∧ qZ + 1 ≤ qU ∧ w.heap.size ≤ S3 from ⟨iT, iR, iA, iC, iX, iY, iZ, iU, hws⟩)
        clear iT iR iA iC iX iY iZ iU hws QT QR QA QC QX QY QZ QU HWS HS3
        obtain ⟨x0, x1, -⟩ := row_cells X8.out
        go_upto_region 9 with (fail)
        go_wp2
        clear x0 x1
        go_loopw [80] (fun i wr => ∃ k : Nat, k ≤ xn ∧ i = .int .i64 (k : Int) ∧ OnlyV (.slice ax xn cx) V8 wr ∧ OwnC wr (S3) (.slice ax xn cx) (bumpN lx k)) (fun i _ => xn - (intOf i).toNat)
        case atStart => exact ⟨0, by omega, rfl, OnlyV.refl _ _, OX8.out⟩
        case round =>
          obtain ⟨j, hj, rfl, hov, hoo⟩ := hrel
          have HOV := Lib.hid hov
          have HOO := Lib.hid hoo
          clear hov hoo
          by_cases hlt : j < xn
          · have hji : (j : Int) < (xn : Int) := by omega
            obtain ⟨g5, c5, ev, -, hc5, -⟩ := own_some HOO.out (by rw [bump_len, HXN.out]; omega)
            rw [bump_len, HXN.out] at ev hc5
            injection ev with e1 e2 e3
            subst e1 e3
            clear e2
            have hmx := (own_cls HOO.out).max
            have hjc : (j : Int) < (cx : Int) := by omega
            have hjl : j < lx.length := by rw [HXN.out]; exact hlt
            have hbx := HOV.out.at X8.out (ne_out LX.out (.inr (Nat.le_refl _)))
            obtain ⟨x0, x1, -⟩ := row_cells hbx
            obtain ⟨p0, -⟩ := own_at HOO.out (k := j) (by rw [bump_len]; exact hjl) _ (Below.refl _ _)
            rw [bump_get lx j j (Nat.le_refl _)] at p0
            have hsm := HSX.out j
            have HNX := Lib.hid (fun (z : Int) (hz : z = (lx.getD j Cl.zero).n + 1) => And.intro (HOV.out.cell (j * 8) (.int .i64 z)) (own_next HOO.out hjl hz))
            obtain ⟨y5, hy5⟩ : ∃ z, (lx.getD j Cl.zero).n = z := ⟨_, rfl⟩
            rw [hy5] at p0 hsm HNX
            have hs1 : y5 + 1 ≤ 9223372036854775807 := by omega
            have hs2 : -9223372036854775808 ≤ y5 + 1 := by omega
            have pfz := own_fz HOO.out
            clear hsm hy5 hbx hjl hc5
            go_wp2
            go_roundw
            case rel => exact ⟨j + 1, by omega, by go_num, (HNX.out _ rfl).1, (HNX.out _ rfl).2⟩
            case measure => simp [intOf]; omega
          · obtain rfl : xn = j := by omega
            have hord := HORD.out
            have T9 := Lib.hid (HOV.out.at T8.out (ne_out LX.out (by omega)))
            have R9 := Lib.hid (HOV.out.at R8.out (ne_out LX.out (by omega)))
            have A9 := Lib.hid (HOV.out.at A8.out (ne_out LX.out (by omega)))
            have C9 := Lib.hid (HOV.out.at C8.out (ne_out LX.out (by omega)))
            have X9 := Lib.hid (HOV.out.at X8.out (ne_out LX.out (by omega)))
            have Y9 := Lib.hid (HOV.out.at Y8.out (ne_out LX.out (by omega)))
            have Z9 := Lib.hid (HOV.out.at Z8.out (ne_out LX.out (by omega)))
            have U9 := Lib.hid (HOV.out.at U8.out (ne_out LX.out (by omega)))
            have OA9 := Lib.hid (HOV.out.own OA8.out (ne_own LX.out LA.out (by omega)))
            have OC9 := Lib.hid (HOV.out.own OC8.out (ne_own LX.out LC.out (by omega)))
            have OX9 := HOO
            have OY9 := Lib.hid (HOV.out.own OY8.out (ne_own LX.out LY.out (by omega)))
            have OZ9 := Lib.hid (HOV.out.own OZ8.out (ne_own LX.out LZ.out (by omega)))
            have OU9 := Lib.hid (HOV.out.own OU8.out (ne_own LX.out LU.out (by omega)))
            have HB9 := Lib.hid (HB8.out.trans (HOV.out.below (B := w.heap.size) (fun q hq => by have := (LX.out q hq).1; omega)))
            clear hord hj hlt HOV HOO HB8 T8 R8 A8 C8 X8 Y8 Z8 U8 OA8 OC8 OX8 OY8 OZ8 OU8
            obtain ⟨V9, hV⟩ : ∃ X, wr = X := ⟨_, rfl⟩
            rw [hV] at HB9 T9 R9 A9 C9 X9 Y9 Z9 U9 OA9 OC9 OX9 OY9 OZ9 OU9 ⊢
            clear hV
            obtain ⟨x0, x1, -⟩ := row_cells Z9.out
            go_upto_region 14 with (fail)
            go_wp2
            clear x0 x1
            go_loopw [98] (fun i wr => ∃ k : Nat, k ≤ zn ∧ i = .int .i64 (k : Int) ∧ OnlyV (.slice az zn cz) V9 wr ∧ OwnC wr (qY + 1) (.slice az zn cz) (bumpN lz k)) (fun i _ => zn - (intOf i).toNat)
            case atStart => exact ⟨0, by omega, rfl, OnlyV.refl _ _, OZ9.out⟩
            case round =>
              obtain ⟨j, hj, rfl, hov, hoo⟩ := hrel
              have HOV := Lib.hid hov
              have HOO := Lib.hid hoo
              clear hov hoo
              by_cases hlt : j < zn
              · have hji : (j : Int) < (zn : Int) := by omega
                obtain ⟨g5, c5, ev, -, hc5, -⟩ := own_some HOO.out (by rw [bump_len, HZN.out]; omega)
                rw [bump_len, HZN.out] at ev hc5
                injection ev with e1 e2 e3
                subst e1 e3
                clear e2
                have hmx := (own_cls HOO.out).max
                have hjc : (j : Int) < (cz : Int) := by omega
                have hjl : j < lz.length := by rw [HZN.out]; exact hlt
                have hbx := HOV.out.at Z9.out (ne_out LZ.out (.inr (Nat.le_refl _)))
                obtain ⟨x0, x1, -⟩ := row_cells hbx
                obtain ⟨p0, -⟩ := own_at HOO.out (k := j) (by rw [bump_len]; exact hjl) _ (Below.refl _ _)
                rw [bump_get lz j j (Nat.le_refl _)] at p0
                have hsm := HSZ.out j
                have HNX := Lib.hid (fun (z : Int) (hz : z = (lz.getD j Cl.zero).n + 1) => And.intro (HOV.out.cell (j * 8) (.int .i64 z)) (own_next HOO.out hjl hz))
                obtain ⟨y5, hy5⟩ : ∃ z, (lz.getD j Cl.zero).n = z := ⟨_, rfl⟩
                rw [hy5] at p0 hsm HNX
                have hs1 : y5 + 1 ≤ 9223372036854775807 := by omega
                have hs2 : -9223372036854775808 ≤ y5 + 1 := by omega
                have pfz := own_fz HOO.out
                clear hsm hy5 hbx hjl hc5
                go_wp2
                go_roundw
                case rel => exact ⟨j + 1, by omega, by go_num, (HNX.out _ rfl).1, (HNX.out _ rfl).2⟩
                case measure => simp [intOf]; omega
              · obtain rfl : zn = j := by omega
                have hord := HORD.out
                have T10 := Lib.hid (HOV.out.at T9.out (ne_out LZ.out (by omega)))
                have R10 := Lib.hid (HOV.out.at R9.out (ne_out LZ.out (by omega)))
                have A10 := Lib.hid (HOV.out.at A9.out (ne_out LZ.out (by omega)))
                have C10 := Lib.hid (HOV.out.at C9.out (ne_out LZ.out (by omega)))
                have X10 := Lib.hid (HOV.out.at X9.out (ne_out LZ.out (by omega)))
                have Y10 := Lib.hid (HOV.out.at Y9.out (ne_out LZ.out (by omega)))
                have Z10 := Lib.hid (HOV.out.at Z9.out (ne_out LZ.out (by omega)))
                have U10 := Lib.hid (HOV.out.at U9.out (ne_out LZ.out (by omega)))
                have OA10 := Lib.hid (HOV.out.own OA9.out (ne_own LZ.out LA.out (by omega)))
                have OC10 := Lib.hid (HOV.out.own OC9.out (ne_own LZ.out LC.out (by omega)))
                have OX10 := Lib.hid (HOV.out.own OX9.out (ne_own LZ.out LX.out (by omega)))
                have OY10 := Lib.hid (HOV.out.own OY9.out (ne_own LZ.out LY.out (by omega)))
                have OZ10 := HOO
                have OU10 := Lib.hid (HOV.out.own OU9.out (ne_own LZ.out LU.out (by omega)))
                have HB10 := Lib.hid (HB9.out.trans (HOV.out.below (B := w.heap.size) (fun q hq => by have := (LZ.out q hq).1; omega)))
                clear hord hj hlt HOV HOO HB9 T9 R9 A9 C9 X9 Y9 Z9 U9 OA9 OC9 OX9 OY9 OZ9 OU9
                obtain ⟨V10, hV⟩ : ∃ X, wr = X := ⟨_, rfl⟩
                rw [hV] at HB10 T10 R10 A10 C10 X10 Y10 Z10 U10 OA10 OC10 OX10 OY10 OZ10 OU10 ⊢
                clear hV
                obtain ⟨x0, x1, -⟩ := row_cells Y10.out
                go_upto_region 19 with (fail)
                go_wp2
                clear x0 x1
                go_loopw [116] (fun i wr => ∃ k : Nat, k ≤ xn ∧ i = .int .i64 (k : Int) ∧ OnlyV (.slice ay xn cy) V10 wr ∧ OwnC wr (qX + 1) (.slice ay xn cy) (bumpN lx k)) (fun i _ => xn - (intOf i).toNat)
                case atStart => exact ⟨0, by omega, rfl, OnlyV.refl _ _, OY10.out⟩
                case round =>
                  obtain ⟨j, hj, rfl, hov, hoo⟩ := hrel
                  have HOV := Lib.hid hov
                  have HOO := Lib.hid hoo
                  clear hov hoo
                  by_cases hlt : j < xn
                  · have hji : (j : Int) < (xn : Int) := by omega
                    obtain ⟨g5, c5, ev, -, hc5, -⟩ := own_some HOO.out (by rw [bump_len, HXN.out]; omega)
                    rw [bump_len, HXN.out] at ev hc5
                    injection ev with e1 e2 e3
                    subst e1 e3
                    clear e2
                    have hmx := (own_cls HOO.out).max
                    have hjc : (j : Int) < (cy : Int) := by omega
                    have hjl : j < lx.length := by rw [HXN.out]; exact hlt
                    have hbx := HOV.out.at Y10.out (ne_out LY.out (.inr (Nat.le_refl _)))
                    obtain ⟨x0, x1, -⟩ := row_cells hbx
                    obtain ⟨p0, -⟩ := own_at HOO.out (k := j) (by rw [bump_len]; exact hjl) _ (Below.refl _ _)
                    rw [bump_get lx j j (Nat.le_refl _)] at p0
                    have hsm := HSX.out j
                    have HNX := Lib.hid (fun (z : Int) (hz : z = (lx.getD j Cl.zero).n + 1) => And.intro (HOV.out.cell (j * 8) (.int .i64 z)) (own_next HOO.out hjl hz))
                    obtain ⟨y5, hy5⟩ : ∃ z, (lx.getD j Cl.zero).n = z := ⟨_, rfl⟩
                    rw [hy5] at p0 hsm HNX
                    have hs1 : y5 + 1 ≤ 9223372036854775807 := by omega
                    have hs2 : -9223372036854775808 ≤ y5 + 1 := by omega
                    have pfz := own_fz HOO.out
                    clear hsm hy5 hbx hjl hc5
                    go_wp2
                    go_roundw
                    case rel => exact ⟨j + 1, by omega, by go_num, (HNX.out _ rfl).1, (HNX.out _ rfl).2⟩
                    case measure => simp [intOf]; omega
                  · obtain rfl : xn = j := by omega
                    have hord := HORD.out
                    have T11 := Lib.hid (HOV.out.at T10.out (ne_out LY.out (by omega)))
                    have R11 := Lib.hid (HOV.out.at R10.out (ne_out LY.out (by omega)))
                    have A11 := Lib.hid (HOV.out.at A10.out (ne_out LY.out (by omega)))
                    have C11 := Lib.hid (HOV.out.at C10.out (ne_out LY.out (by omega)))
                    have X11 := Lib.hid (HOV.out.at X10.out (ne_out LY.out (by omega)))
                    have Y11 := Lib.hid (HOV.out.at Y10.out (ne_out LY.out (by omega)))
                    have Z11 := Lib.hid (HOV.out.at Z10.out (ne_out LY.out (by omega)))
                    have U11 := Lib.hid (HOV.out.at U10.out (ne_out LY.out (by omega)))
                    have OA11 := Lib.hid (HOV.out.own OA10.out (ne_own LY.out LA.out (by omega)))
                    have OC11 := Lib.hid (HOV.out.own OC10.out (ne_own LY.out LC.out (by omega)))
                    have OX11 := Lib.hid (HOV.out.own OX10.out (ne_own LY.out LX.out (by omega)))
                    have OY11 := HOO
                    have OZ11 := Lib.hid (HOV.out.own OZ10.out (ne_own LY.out LZ.out (by omega)))
                    have OU11 := Lib.hid (HOV.out.own OU10.out (ne_own LY.out LU.out (by omega)))
                    have HB11 := Lib.hid (HB10.out.trans (HOV.out.below (B := w.heap.size) (fun q hq => by have := (LY.out q hq).1; omega)))
                    clear hord hj hlt HOV HOO HB10 T10 R10 A10 C10 X10 Y10 Z10 U10 OA10 OC10 OX10 OY10 OZ10 OU10
                    obtain ⟨V11, hV⟩ : ∃ X, wr = X := ⟨_, rfl⟩
                    rw [hV] at HB11 T11 R11 A11 C11 X11 Y11 Z11 U11 OA11 OC11 OX11 OY11 OZ11 OU11 ⊢
                    clear hV
                    obtain ⟨x0, x1, -⟩ := row_cells U11.out
                    go_upto_region 24 with (fail)
                    go_wp2
                    clear x0 x1
                    go_loopw [134] (fun i wr => ∃ k : Nat, k ≤ zn ∧ i = .int .i64 (k : Int) ∧ OnlyV (.slice au zn cu) V11 wr ∧ OwnC wr (qZ + 1) (.slice au zn cu) (bumpN lz k)) (fun i _ => zn - (intOf i).toNat)
                    case atStart => exact ⟨0, by omega, rfl, OnlyV.refl _ _, OU11.out⟩
                    case round =>
                      obtain ⟨j, hj, rfl, hov, hoo⟩ := hrel
                      have HOV := Lib.hid hov
                      have HOO := Lib.hid hoo
                      clear hov hoo
                      by_cases hlt : j < zn
                      · have hji : (j : Int) < (zn : Int) := by omega
                        obtain ⟨g5, c5, ev, -, hc5, -⟩ := own_some HOO.out (by rw [bump_len, HZN.out]; omega)
                        rw [bump_len, HZN.out] at ev hc5
                        injection ev with e1 e2 e3
                        subst e1 e3
                        clear e2
                        have hmx := (own_cls HOO.out).max
                        have hjc : (j : Int) < (cu : Int) := by omega
                        have hjl : j < lz.length := by rw [HZN.out]; exact hlt
                        have hbx := HOV.out.at U11.out (ne_out LU.out (.inr (Nat.le_refl _)))
                        obtain ⟨x0, x1, -⟩ := row_cells hbx
                        obtain ⟨p0, -⟩ := own_at HOO.out (k := j) (by rw [bump_len]; exact hjl) _ (Below.refl _ _)
                        rw [bump_get lz j j (Nat.le_refl _)] at p0
                        have hsm := HSZ.out j
                        have HNX := Lib.hid (fun (z : Int) (hz : z = (lz.getD j Cl.zero).n + 1) => And.intro (HOV.out.cell (j * 8) (.int .i64 z)) (own_next HOO.out hjl hz))
                        obtain ⟨y5, hy5⟩ : ∃ z, (lz.getD j Cl.zero).n = z := ⟨_, rfl⟩
                        rw [hy5] at p0 hsm HNX
                        have hs1 : y5 + 1 ≤ 9223372036854775807 := by omega
                        have hs2 : -9223372036854775808 ≤ y5 + 1 := by omega
                        have pfz := own_fz HOO.out
                        clear hsm hy5 hbx hjl hc5
                        go_wp2
                        go_roundw
                        case rel => exact ⟨j + 1, by omega, by go_num, (HNX.out _ rfl).1, (HNX.out _ rfl).2⟩
                        case measure => simp [intOf]; omega
                      · obtain rfl : zn = j := by omega
                        have hord := HORD.out
                        have T12 := Lib.hid (HOV.out.at T11.out (ne_out LU.out (by omega)))
                        have R12 := Lib.hid (HOV.out.at R11.out (ne_out LU.out (by omega)))
                        have A12 := Lib.hid (HOV.out.at A11.out (ne_out LU.out (by omega)))
                        have C12 := Lib.hid (HOV.out.at C11.out (ne_out LU.out (by omega)))
                        have X12 := Lib.hid (HOV.out.at X11.out (ne_out LU.out (by omega)))
                        have Y12 := Lib.hid (HOV.out.at Y11.out (ne_out LU.out (by omega)))
                        have Z12 := Lib.hid (HOV.out.at Z11.out (ne_out LU.out (by omega)))
                        have U12 := Lib.hid (HOV.out.at U11.out (ne_out LU.out (by omega)))
                        have OA12 := Lib.hid (HOV.out.own OA11.out (ne_own LU.out LA.out (by omega)))
                        have OC12 := Lib.hid (HOV.out.own OC11.out (ne_own LU.out LC.out (by omega)))
                        have OX12 := Lib.hid (HOV.out.own OX11.out (ne_own LU.out LX.out (by omega)))
                        have OY12 := Lib.hid (HOV.out.own OY11.out (ne_own LU.out LY.out (by omega)))
                        have OZ12 := Lib.hid (HOV.out.own OZ11.out (ne_own LU.out LZ.out (by omega)))
                        have OU12 := HOO
                        have HB12 := Lib.hid (HB11.out.trans (HOV.out.below (B := w.heap.size) (fun q hq => by have := (LU.out q hq).1; omega)))
                        clear hord hj hlt HOV HOO HB11 T11 R11 A11 C11 X11 Y11 Z11 U11 OA11 OC11 OX11 OY11 OZ11 OU11
                        obtain ⟨V12, hV⟩ : ∃ X, wr = X := ⟨_, rfl⟩
                        rw [hV] at HB12 T12 R12 A12 C12 X12 Y12 Z12 U12 OA12 OC12 OX12 OY12 OZ12 OU12 ⊢
                        clear hV
                        have HS1 := Lib.hid (fun W (h : Below V12.heap.size V12 W) => rrowsame_c ((own_cls OX12.out).below h) ((own_cls OY12.out).below h) tx)
                        have HS2 := Lib.hid (fun W (h : Below V12.heap.size V12 W) => rrowsame_c ((own_cls OZ12.out).below h) ((own_cls OU12.out).below h) tz)
                        have HS3 := Lib.hid (fun W (h : Below V12.heap.size V12 W) => rrowsame_c ((own_cls OA12.out).below h) (HLA.out.below (HB12.out.trans (h.mono HB12.out.size))) tka)
                        have HS4 := Lib.hid (fun W (h : Below V12.heap.size V12 W) => rrowsame_c ((own_cls OC12.out).below h) (HLB.out.below (HB12.out.trans (h.mono HB12.out.size))) tkb)
                        have HX1 := Lib.hid (fun W (h : Below V12.heap.size V12 W) => And.intro (row_cells (heap_below Z12.out h)) (row_cells (heap_below U12.out h)))
                        have HX2 := Lib.hid (fun W (h : Below V12.heap.size V12 W) => And.intro (row_cells (heap_below A12.out h)) (rowtwo_cells n s a b g t d e (heap_below T12.out h)))
                        have HX3 := Lib.hid (fun W (h : Below V12.heap.size V12 W) => And.intro (row_cells (heap_below C12.out h)) (row_cells (heap_below R12.out h)))
                        obtain ⟨x0, x1, -⟩ := row_cells X12.out
                        obtain ⟨y0, y1, -⟩ := row_cells Y12.out
                        go_wp2_with (first
                          | (go_at_call 16; (with_reducible refine (HS1.out _ (Below.refl _ _)).mono ?_); rintro e9 wa ⟨rfl, hba⟩; have HBa := Lib.hid hba; clear hba x0 x1 y0 y1; obtain ⟨⟨g0, g1, -⟩, h0, h1, -⟩ := HX1.out _ HBa.out)
                          | (go_at_call 16; (with_reducible refine (HS2.out _ HBa.out).mono ?_); rintro e9 wb ⟨rfl, hbb⟩; have HBb := Lib.hid (HBa.out.trans (hbb.mono HBa.out.size)); clear hbb g0 g1 h0 h1; obtain ⟨⟨g0, g1, -⟩, ⟨t0, t1, t2⟩, -⟩ := HX2.out _ HBb.out)
                          | (go_at_call 16; (with_reducible refine (HS3.out _ HBb.out).mono ?_); rintro e9 wc ⟨rfl, hbc⟩; have HBc := Lib.hid (HBb.out.trans (hbc.mono HBb.out.size)); clear hbc g0 g1 t0 t1 t2; obtain ⟨⟨g0, g1, -⟩, h0, h1, -⟩ := HX3.out _ HBc.out)
                          | (go_at_call 16; (with_reducible refine (HS4.out _ HBc.out).mono ?_); rintro e9 wd ⟨rfl, hbd⟩; have HBd := Lib.hid (HB12.out.trans ((HBc.out.trans (hbd.mono HBc.out.size)).mono HB12.out.size)); clear hbd g0 g1 h0 h1)
                          | (go_at_call 9; (with_reducible refine (HLv.out _ HBd.out).mono ?_); rintro e9 we ⟨rfl, hbe⟩; have HBz := Lib.hid (HBd.out.trans (hbe.mono HBd.out.size)); clear hbe))
                        go_ret
                        exact ⟨rfl, HBz.out⟩





end Go.Proofs.YtkjpmdpljdgcjaaDoor
end

