/-
  Merged: MA MB MC MD.
-/
import Derived.Test.YtkjpmdpljdgcjaaDoorR0
import Derived.Test.YtkjpmdpljdgcjaaDoorCX
import Derived.Maps.AppendAt
import Derived.Shelf.Abstract
import Derived.WalkKit
import Derived.OwnWalkIn
import Derived.TacticsInMore
import Derived.LoopNIn
import Derived.LoopIn

section
/-
  Row: what the document says, as plain mathematics: which rows may be, what they hang on, what of them is to be seen.
-/
namespace Go.Proofs.YtkjpmdpljdgcjaaDoor
open Go.RowKit Go Go.Sort
set_option linter.unusedVariables false
set_option maxRecDepth 20000

def keyS (k : List UInt8) : Int := if k = [] then 2 else if 32 < k.length then 3 else 0
/-- Whether the cell of a group may be. -/
def cgAt (gs : List Grp) (cs : List Cl) (i : Nat) : Bool := (cs.getD i Cl.zero).good (gs.getD i ([], 0)).2
def rgoodS (gs : List Grp) (k : List UInt8) (cs : List Cl) : Int :=
  if ¬ pgoodS gs = 0 then pgoodS gs else if ¬ keyS k = 0 then keyS k else if ¬ cs.length = gs.length then 100 else if (List.range gs.length).all (cgAt gs cs) = true then 0 else 80
theorem rgood_pol {gs : List Grp} {k : List UInt8} {cs : List Cl} (h : ¬ pgoodS gs = 0) : rgoodS gs k cs = pgoodS gs := by unfold rgoodS; rw [if_pos h]
theorem rgood_key {gs : List Grp} {k : List UInt8} {cs : List Cl} (h : pgoodS gs = 0) (h2 : ¬ keyS k = 0) : rgoodS gs k cs = keyS k := by unfold rgoodS; rw [if_neg (by simp [h]), if_pos h2]
theorem rgood_len {gs : List Grp} {k : List UInt8} {cs : List Cl} (h : pgoodS gs = 0) (h2 : keyS k = 0) (h3 : ¬ cs.length = gs.length) : rgoodS gs k cs = 100 := by unfold rgoodS; rw [if_neg (by simp [h]), if_neg (by simp [h2]), if_pos h3]
theorem rgood_bad {gs : List Grp} {k : List UInt8} {cs : List Cl} (h : pgoodS gs = 0) (h2 : keyS k = 0) (h3 : cs.length = gs.length) {j : Nat} (hj : j < gs.length) (hb : cgAt gs cs j = false) : rgoodS gs k cs = 80 := by
  unfold rgoodS
  rw [if_neg (by simp [h]), if_neg (by simp [h2]), if_neg (by simp [h3]), if_neg]
  intro ha
  have := List.all_eq_true.1 ha j (List.mem_range.2 hj)
  rw [hb] at this
  cases this
theorem rgood_yes {gs : List Grp} {k : List UInt8} {cs : List Cl} (h : pgoodS gs = 0) (h2 : keyS k = 0) (h3 : cs.length = gs.length) (ha : ∀ j, j < gs.length → cgAt gs cs j = true) : rgoodS gs k cs = 0 := by
  unfold rgoodS
  rw [if_neg (by simp [h]), if_neg (by simp [h2]), if_neg (by simp [h3]), if_pos]
  exact List.all_eq_true.2 fun j hj => ha j (List.mem_range.1 hj)
theorem rgood_inv {gs : List Grp} {k : List UInt8} {cs : List Cl} (h : rgoodS gs k cs = 0) : pgoodS gs = 0 ∧ keyS k = 0 ∧ cs.length = gs.length ∧ ∀ j, j < gs.length → cgAt gs cs j = true := by
  unfold rgoodS at h
  by_cases h1 : pgoodS gs = 0
  · rw [if_neg (by simp [h1])] at h
    by_cases h2 : keyS k = 0
    · rw [if_neg (by simp [h2])] at h
      by_cases h3 : cs.length = gs.length
      · rw [if_neg (by simp [h3])] at h
        by_cases h4 : (List.range gs.length).all (cgAt gs cs) = true
        · exact ⟨h1, h2, h3, fun j hj => List.all_eq_true.1 h4 j (List.mem_range.2 hj)⟩
        · rw [if_neg h4] at h; cases h
      · rw [if_pos h3] at h; cases h
    · rw [if_pos h2] at h; exact absurd h h2
  · rw [if_pos h1] at h; exact absurd h h1
theorem pgood_len {gs : List Grp} (h : pgoodS gs = 0) : gs.length ≤ 4 := by
  unfold pgoodS at h
  split at h
  · cases h
  · split at h
    · cases h
    · omega
theorem pgood_pol {gs : List Grp} (h : pgoodS gs = 0) : ∀ j, j < gs.length → (gs.getD j ([], 0)).2 = 1 ∨ (gs.getD j ([], 0)).2 = 2 := by
  have key : ∀ (l ahead : List Grp), goodFrom ahead l = 0 → ∀ g ∈ l, g.2 = 1 ∨ g.2 = 2 := by
    intro l
    induction l with
    | nil => intro ahead _ g hg; cases hg
    | cons x r ih =>
      intro ahead hh g hg
      unfold goodFrom at hh
      split at hh
      · cases hh
      · rename_i h1
        split at hh
        · cases hh
        · rcases List.mem_cons.1 hg with rfl | hg
          · exact (Classical.not_not.1 h1).2
          · exact ih _ hh g hg
  unfold pgoodS at h
  split at h
  · cases h
  · split at h
    · cases h
    · intro j hj
      refine key gs [] h _ ?_
      rw [List.getD_eq_getElem?_getD, List.getElem?_eq_getElem hj]
      exact List.getElem_mem _
/-- A row without writes is good just if its schema and its key are. -/
theorem rgood_bare {gs : List Grp} {k : List UInt8} (h : pgoodS gs = 0) (h2 : keyS k = 0) : rgoodS gs k (List.replicate gs.length Cl.zero) = 0 := by
  refine rgood_yes h h2 (by simp) fun j hj => ?_
  unfold cgAt
  have e : (List.replicate gs.length Cl.zero).getD j Cl.zero = Cl.zero := by rw [List.getD_eq_getElem?_getD, List.getElem?_replicate, if_pos hj]; rfl
  rw [e]
  exact good_zero (pgood_pol h j hj)
def bareS (cs : List Cl) : Bool := cs.all (fun c => sameC c Cl.zero)
def cknown (c : Cl) : Int × Int := joinS [(c.a, c.b), (c.d, c.e)]
def knownS (cs : List Cl) : Int × Int := cs.foldl (fun r c => joinS [r, cknown c]) (0, 0)
theorem known_take (cs : List Cl) (k : Nat) (h : k < cs.length) : knownS (cs.take (k + 1)) = joinS [knownS (cs.take k), cknown (cs.getD k Cl.zero)] := by
  unfold knownS
  rw [List.take_add_one, List.getElem?_eq_getElem h, List.getD_eq_getElem?_getD, List.getElem?_eq_getElem h, Option.toList_some, List.foldl_append]
  rfl
theorem bare_take (cs : List Cl) (k : Nat) (h : k < cs.length) : bareS (cs.take (k + 1)) = (bareS (cs.take k) && sameC (cs.getD k Cl.zero) Cl.zero) := by
  unfold bareS
  rw [List.take_add_one, List.getElem?_eq_getElem h, List.getD_eq_getElem?_getD, List.getElem?_eq_getElem h, Option.toList_some, List.all_append]
  simp
theorem bare_not {cs : List Cl} {k : Nat} (h : k < cs.length) (hn : sameC (cs.getD k Cl.zero) Cl.zero = false) : bareS cs = false := by
  rw [Bool.eq_false_iff]
  intro ha
  have := List.all_eq_true.1 ha (cs.getD k Cl.zero) (by rw [List.getD_eq_getElem?_getD, List.getElem?_eq_getElem h]; exact List.getElem_mem _)
  rw [hn] at this
  cases this
end Go.Proofs.YtkjpmdpljdgcjaaDoor
end

section
/-
  Rounds over a function: what they keep, what they leave.
-/
namespace Go.Proofs.YtkjpmdpljdgcjaaDoor
open Go.RowKit Go Go.Sort
set_option linter.unusedVariables false
set_option maxRecDepth 20000

attribute [local go_sem] Oper.semAt_some
theorem wpIn_scope_wide {n : Nat} {P : Program} {Q : Exit → Act → World → Prop} {a : Act} {w : World} {c : Code} (h : c.wpIn Fence.wide n P (Exit.noGoto Q) a w) : (Code.scope c).wpIn Fence.wide n P Q a w :=
  wpIn_wide.2 (wp_scope_straight (wpIn_wide.1 h))
/-- What an iterator turns is no block of another type. -/
theorem turn_keep {B k : Nat} {T t : TypeId} {W W' : World} {row : Option Nat} {cs : Array Value} {fr : Nat × Nat} (hg : W.grownBy W' row)
    (hr : ∀ r, row = some r → B ≤ r ∧ ∃ o : Obj, W.heap[r]? = some o ∧ (o.isCells = false ∨ ∃ cs fr, o = .cells cs T fr)) (h : W.heap[k]? = some (.cells cs t fr)) (ht : t ≠ T) : W'.heap[k]? = some (.cells cs t fr) := by
  refine (hg.block k (Array.getElem?_eq_some_iff.1 h).1 (fun e => ?_)).trans h
  obtain ⟨_, o, ho, hc⟩ := hr k e.symm
  rw [h] at ho
  cases ho
  rcases hc with hc | ⟨cs', fr', hc⟩
  · cases hc
  · cases hc; exact ht rfl
theorem turn_row {B B0 s k : Nat} {e T : TypeId} {W W' : World} {row : Option Nat} {v : Value} {xs : List Value} (hg : W.grownBy W' row)
    (hr : ∀ r, row = some r → B ≤ r ∧ ∃ o : Obj, W.heap[r]? = some o ∧ (o.isCells = false ∨ ∃ cs fr, o = .cells cs T fr)) (h : W.ownsRow B0 e s v k xs) (ht : e ≠ T) : W'.ownsRow B0 e s v k xs := by
  refine ⟨h.1, ?_⟩
  rcases h.2 with hn | ⟨g, cap, cur, rfl, hB, hg', rest⟩
  · exact .inl hn
  · exact .inr ⟨g, cap, cur, rfl, hB, turn_keep hg hr hg' ht, rest⟩
theorem turn_below {B n₀ : Nat} {T : TypeId} {w W W' : World} {row : Option Nat} (hg : W.grownBy W' row)
    (hr : ∀ r, row = some r → B ≤ r ∧ ∃ o : Obj, W.heap[r]? = some o ∧ (o.isCells = false ∨ ∃ cs fr, o = .cells cs T fr)) (hB : n₀ ≤ B) (hn : n₀ ≤ W.heap.size) (h : Below n₀ w W) : Below n₀ w W' :=
  h.grown hg hn (fun k e => Nat.le_trans hB (hr k e).1)
theorem below_keeps {B : Nat} {W W' : World} (h : Below W.heap.size W W') : KeepsFrom B W W' := ⟨h.size, fun k o _ hk _ => (h.block k (Array.getElem?_eq_some_iff.1 hk).1).trans hk⟩
/-- What a step leaves as it was that writes the boxes Bs and a row of T at or beyond base. -/
structure LeavesT (T : TypeId) (Bs : Nat → Prop) (base : Nat) (W W' : World) : Prop where
  size : W.heap.size ≤ W'.heap.size
  same : ∀ (j : Nat) (o : Obj), W.heap[j]? = some o → ¬ Bs j → (j < base ∨ ∀ cs fr, o ≠ .cells cs T fr) → W'.heap[j]? = some o
theorem LeavesT.trans {T : TypeId} {Bs : Nat → Prop} {base : Nat} {X Y Z : World} (h : LeavesT T Bs base X Y) (k : LeavesT T Bs base Y Z) : LeavesT T Bs base X Z :=
  ⟨Nat.le_trans h.size k.size, fun j o hj hb ho => k.same j o (h.same j o hj hb ho) hb ho⟩
theorem LeavesT.below {T : TypeId} {Bs : Nat → Prop} {base : Nat} {W W' : World} (h : Below W.heap.size W W') : LeavesT T Bs base W W' :=
  ⟨h.size, fun j o hj _ _ => (h.block j (Array.getElem?_eq_some_iff.1 hj).1).trans hj⟩
theorem LeavesT.setCell {T : TypeId} {Bs : Nat → Prop} {base : Nat} (W : World) {B : Nat} (hB : Bs B) (u : Value) : LeavesT T Bs base W (W.setCell ⟨B, 0, none⟩ u) :=
  ⟨(KeepsWalks.setCell W _ u).size, fun j o hj hb _ => (Below.heap_setCell W ⟨B, 0, none⟩ u j (fun e => by subst e; exact hb hB)).trans hj⟩
theorem LeavesT.alloc {T : TypeId} {Bs : Nat → Prop} {base : Nat} (W : World) (o : Obj) : LeavesT T Bs base W (W.alloc o) :=
  ⟨by simp, fun j o' hj _ _ => (Below.heap_alloc W o j (Array.getElem?_eq_some_iff.1 hj).1).trans hj⟩
theorem LeavesT.append {T : TypeId} {Bs : Nat → Prop} {base s : Nat} {W w1 : World} {v : Value} {k : Nat} {xs : List Value} (hrow : W.ownsRow base T s v k xs) (hgrow : W.grownBy w1 v.ownBlock) : LeavesT T Bs base W w1 := by
  refine ⟨hgrow.size, fun j o hj hb ho => (hgrow.block j (Array.getElem?_eq_some_iff.1 hj).1 ?_).trans hj⟩
  rcases hrow.2 with ⟨rfl, _⟩ | ⟨g, cap, cur, rfl, hbg, hg, _⟩
  · simp [Value.ownBlock]
  · intro e'
    obtain rfl : j = g := by simpa [Value.ownBlock] using e'
    rcases ho with h | h
    · omega
    · rw [hg] at hj; cases hj; exact h _ _ rfl
theorem LeavesT.keeps {T : TypeId} {Bs : Nat → Prop} {base B : Nat} {W W' : World} (h : LeavesT T Bs base W W') (hb : ∀ j, Bs j → j < B) : KeepsFrom B W W' :=
  ⟨h.size, fun j o hB hj ho => h.same j o hj (fun hh => by have := hb j hh; omega) (.inr (fun cs fr e => by subst e; cases ho))⟩
/-- What a round keeps: what lay below, and the boxes named. -/
structure KP (n₀ : Nat) (Bs : Nat → Prop) (W W' : World) : Prop where
  below : Below n₀ W W'
  box : ∀ (k : Nat) (o : Obj), Bs k → W.heap[k]? = some o → W'.heap[k]? = some o
theorem KP.refl (n₀ : Nat) (Bs : Nat → Prop) (W : World) : KP n₀ Bs W W := ⟨Below.refl _ _, fun _ _ _ h => h⟩
theorem KP.trans {n₀ : Nat} {Bs : Nat → Prop} {A B C : World} (h : KP n₀ Bs A B) (k : KP n₀ Bs B C) : KP n₀ Bs A C := ⟨h.below.trans k.below, fun i o hi ho => k.box i o hi (h.box i o hi ho)⟩
theorem KP.of_below {n₀ : Nat} {Bs : Nat → Prop} {W W' : World} (hn : n₀ ≤ W.heap.size) (h : Below W.heap.size W W') : KP n₀ Bs W W' :=
  ⟨h.mono hn, fun k o _ hk => (h.block k (Array.getElem?_eq_some_iff.1 hk).1).trans hk⟩
theorem KP.putObj {n₀ : Nat} {Bs : Nat → Prop} (W : World) (l : Nat) (o o' : Obj) (hl : n₀ ≤ l) (hb : ∀ k, Bs k → k < l) (h : W.heap[l]? = some o) : KP n₀ Bs W (W.putObj l o') :=
  ⟨(Below.refl n₀ W).grown (grownBy_putObj' W l o') (by have := (Array.getElem?_eq_some_iff.1 h).1; omega) (fun k e => by cases e; omega),
   fun k o hk ho => (World.putObj_heap_other (by have := hb k hk; omega)).trans ho⟩
theorem grown_none {W W' : World} (h : Below W.heap.size W W') : W.grownBy W' none := ⟨h.os, h.tape, h.output, h.size, fun i hi _ => h.block i hi⟩
def placeOf : Value → Nat | .int _ n => n.toNat | _ => 0
end Go.Proofs.YtkjpmdpljdgcjaaDoor
end

section
/-
  The iterator over a row's places.
-/
namespace Go.Proofs.YtkjpmdpljdgcjaaDoor
open Go.RowKit Go Go.Sort
set_option linter.unusedVariables false
set_option maxRecDepth 20000

/-- What the iterator hands over, by its number. -/
def penc (gs : List Grp) (cs : List Cl) (k : Nat) : Array Value :=
  #[.agg #[.int .i64 (k : Int), .int .i64 (gs.getD k ([], 0)).2, .int .i64 (cs.getD k Cl.zero).n, .int .i64 (cs.getD k Cl.zero).s, .int .i64 (cs.getD k Cl.zero).a, .int .i64 (cs.getD k Cl.zero).b, .bool (cs.getD k Cl.zero).g, .string (text (cs.getD k Cl.zero).t), .int .i64 (cs.getD k Cl.zero).d, .int .i64 (cs.getD k Cl.zero).e]]
def two9 (x y k : Nat) : Prop := k = x ∨ k = y

set_option maxRecDepth 100000 in
set_option maxHeartbeats 400000 in
theorem places_c {w : World} {x x2 : Option Addr} {n1 cap m cap2 : Nat} {key : ByteArray} :
    Calls Tryd.prog 38 #[.slice x n1 cap, .agg #[.string key, .slice x2 m cap2]] w fun e w' => e = .returned (.func (.func 62) #[] #[.pointer (some ⟨w.heap.size, 0, none⟩), .pointer (some ⟨w.heap.size + 1, 0, none⟩)]) ∧
      w' = (w.alloc (.cells #[.slice x n1 cap] 22)).alloc (.cells #[.string key, .slice x2 m cap2] 25) := by
  go_enter Tryd.func38, Tryd.ntmps38
  go_wp2
  go_ret
  exact ⟨by simp, rfl⟩

set_option maxRecDepth 100000 in
set_option maxHeartbeats 3200000 in
theorem places_tells {w0 w : World} {x x2 : Option Addr} {m cap cap2 : Nat} {gs : List Grp} {cs : List Cl} {key : ByteArray} (hg : Grs w0 x m cap gs) (hl : Cls w0 x2 m cap2 cs) (hw : Below w0.heap.size w0 w) (N Bl Br : Nat) (hBl : Bl < w.heap.size) (hBr : Br < w.heap.size)
    (hcl : w.heap[Bl]? = some (.cells #[.slice x m cap] 22 (0, 0))) (hcr : w.heap[Br]? = some (.cells #[.string key, .slice x2 m cap2] 25 (0, 0))) :
    SeqTells Fence.wide N Tryd.prog 87 62 #[.pointer (some ⟨Bl, 0, none⟩), .pointer (some ⟨Br, 0, none⟩)] (penc gs cs) (KP w0.heap.size (two9 Bl Br)) (fun pre k => k = pre.length ∧ k < m) (fun _ => True)
      (fun xs _ => xs.length = m) (fun _ _ => True) w := fun q J Jx W hW hJ hY h0 => by
  have hle := hl.le
  have hmax := hl.max
  have hle1 := hg.le
  have hmax1 := hg.max
  refine callsIn_of_wp Tryd.func62 rfl trivial ?_ rfl
  simp only [Tryd.ntmps62, List.size_toArray, List.length_cons, List.length_nil, Nat.reduceAdd, Nat.reduceSub, Array.replicate_succ, Array.replicate_zero, List.push_toArray, List.append_toArray, List.nil_append, List.cons_append]
  have hW0 : w0.heap.size ≤ W.heap.size := Nat.le_trans hw.size hW.size
  have hcell : W.cell? ⟨Bl, 0, none⟩ = some (.slice x m cap) := by
    have := (hW.block Bl hBl).trans hcl
    simp [World.cell?, this]
  gi_wp2_with fail
  gi_loopw [8] (fun p wr => ∃ (pre : List Nat) (k : Nat), p = .int .i64 k ∧ k ≤ m ∧ pre.length = k ∧ J pre wr ∧ Below w0.heap.size w0 wr ∧ W.heap.size ≤ wr.heap.size ∧ wr.heap[Bl]? = some (.cells #[.slice x m cap] 22 (0, 0)) ∧ wr.heap[Br]? = some (.cells #[.string key, .slice x2 m cap2] 25 (0, 0)))
    (fun p wr => m - placeOf p)
  case atStart => exact ⟨[], 0, rfl, Nat.zero_le _, rfl, h0, hw.trans (hW.mono hw.size), Nat.le_refl _, (hW.block Bl hBl).trans hcl, (hW.block Br hBr).trans hcr⟩
  case round =>
    clear hcell
    obtain ⟨pre, k, rfl, hk, hpl, hJp, hbw, hsW, hbl, hbr⟩ := hrel
    by_cases hlt : k < m
    · have hki : (k : Int) < (m : Int) := by omega
      have hki1 : (k : Int) < (cap : Int) := by omega
      have hki2 : (k : Int) < (cap2 : Int) := by omega
      obtain ⟨bg, offg, rfl, hatg⟩ := hg.at hlt
      obtain ⟨bk, off, rfl, hat⟩ := hl.at hlt
      obtain ⟨⟨nm, pk⟩, hgk⟩ : ∃ y, gs.getD k ([], 0) = y := ⟨_, rfl⟩
      obtain ⟨y, hck⟩ : ∃ y, cs.getD k Cl.zero = y := ⟨_, rfl⟩
      rw [hck] at hat
      rw [hgk] at hatg
      obtain ⟨n, s, a, b, g, t, d, e⟩ := y
      obtain ⟨m0, m1⟩ := hatg wr hbw
      simp only at m0 m1
      have HGK := Lib.hid hgk
      have HCK := Lib.hid hck
      have HPL := Lib.hid hpl
      have HJ := Lib.hid hJp
      have HBW := Lib.hid hbw
      have HSW := Lib.hid hsW
      have HBL := Lib.hid hbl
      have HBR := Lib.hid hbr
      have HBX := Lib.hid (alloc_below wr (.cells #[.string (text nm), .int .i64 pk] 87))
      have hgn := GrpAt.new wr nm pk
      have HPW0 := Lib.hid hat
      clear hgk hck hpl hJp hbw hsW hbl hbr hat hatg
      gi_wp2_with fail
      obtain ⟨gB, hgB⟩ : ∃ g, wr.heap.size = g := ⟨_, rfl⟩
      rw [hgB] at hgn ⊢
      clear hgB m0 m1
      obtain ⟨W3, hW3⟩ : ∃ X, wr.alloc (.cells #[.string (text nm), .int .i64 pk] 87) = X := ⟨_, rfl⟩
      rw [hW3] at hgn HBX ⊢
      clear hW3
      have HGX := Lib.hid (fun W1 (h : Below W3.heap.size W3 W1) => And.intro (hgn.kept h).c0 (hgn.kept h).c1)
      have HPW := Lib.hid (fun W1 (h : Below W3.heap.size W3 W1) => HPW0.out W1 (HBW.out.trans ((HBX.out.trans (h.mono HBX.out.size)).mono (Nat.le_trans hW0 HSW.out))))
      have HRB := Lib.hid (fun W1 (h : Below W3.heap.size W3 W1) => (show W1.cell? ⟨Br, 1, none⟩ = some (.slice (some ⟨bk, off, none⟩) m cap2) by
        have := ((HBX.out.trans (h.mono HBX.out.size)).block Br (Array.getElem?_eq_some_iff.1 HBR.out).1).trans HBR.out
        rw [cell_of_row _ Br 1 _ _ (0, 0) this]; rfl))
      clear hgn HPW0
      refine wpIn_region_flow (fun x y => Below x.heap.size x y) 10 [none, none, none, none, none, none, none, none, none, none, none, none, none, some 0, some 1, some 2, some 3, some 4, some 5, some 6, some 7, some 8, some 9, none, none, none] (fun i => [u13, u14, u15, u16, u17, u18, u19, u20, u21, u22].getD i undef) [(fun v _ => v = .func (.yield q) #[] #[]), (fun v _ => v = .int .i64 (k : Int)), (fun v _ => v = .pointer (some ⟨gB, 1, none⟩)), (fun v _ => v = .int .i64 pk), (fun v _ => v = .pointer (some ⟨Br, 1, none⟩)), (fun v _ => v = .slice (some ⟨bk, off, none⟩) m cap2), (fun v _ => v = .int .i64 (k : Int)), (fun v _ => v = .pointer (some ⟨bk, off + k * 8, none⟩)), (fun v _ => v = .agg #[.int .i64 n, .int .i64 s, .int .i64 a, .int .i64 b, .bool g, .string (text t), .int .i64 d, .int .i64 e]), (fun v _ => v = .agg #[.int .i64 (k : Int), .int .i64 pk, .int .i64 n, .int .i64 s, .int .i64 a, .int .i64 b, .bool g, .string (text t), .int .i64 d, .int .i64 e])] (fun _ => False) (by kernel_rfl) (by kernel_rfl) (by kernel_rfl) rfl rfl rfl (fun a b c h1 h2 => h1.trans (h2.mono h1.size)) ⟨rfl, rfl, rfl, Nat.le_refl _, fun _ _ => rfl⟩ ?_ ?_ ?_
      · intro g hg v X Y hX hY hv
        simp only [List.mem_cons, List.not_mem_nil, or_false] at hg
        rcases hg with rfl | rfl | rfl | rfl | rfl | rfl | rfl | rfl | rfl | rfl
        all_goals first
          | exact hv
          | exact hv.kept hY
      · simp only [flowOpsI, List.take_succ_cons, List.take_zero, and_true]
        refine ⟨?_, ?_, ?_, ?_, ?_, ?_, ?_, ?_, ?_, ?_⟩
        · intro xs W1 hW hn
          simp only [flowAct, List.zipWith_cons_cons, List.zipWith_nil_left]
          gi_wp2_with (fail)
          exact ⟨rfl, _, rfl, Below.refl _ _, rfl, fun h => h.elim⟩
        · intro xs W1 hW hn
          simp only [flowAct, List.zipWith_cons_cons, List.zipWith_nil_left]
          gi_wp2_with (fail)
          exact ⟨rfl, _, rfl, Below.refl _ _, rfl, fun h => h.elim⟩
        · intro xs W1 hW hn
          simp only [flowAct, List.zipWith_cons_cons, List.zipWith_nil_left]
          gi_wp2_with (fail)
          exact ⟨rfl, _, rfl, Below.refl _ _, rfl, fun h => h.elim⟩
        · intro xs W1 hW hn
          obtain ⟨h0, h1⟩ := HGX.out W1 hW
          simp [flowNeeds, Region.binds] at hn
          simp only [flowAct, List.zipWith_cons_cons, List.zipWith_nil_left]
          try simp only [hn]
          gi_wp2_with (fail)
          exact ⟨rfl, _, rfl, Below.refl _ _, rfl, fun h => h.elim⟩
        · intro xs W1 hW hn
          simp only [flowAct, List.zipWith_cons_cons, List.zipWith_nil_left]
          gi_wp2_with (fail)
          exact ⟨rfl, _, rfl, Below.refl _ _, rfl, fun h => h.elim⟩
        · intro xs W1 hW hn
          have rb1 := HRB.out W1 hW
          simp [flowNeeds, Region.binds] at hn
          simp only [flowAct, List.zipWith_cons_cons, List.zipWith_nil_left]
          try simp only [hn]
          gi_wp2_with (fail)
          exact ⟨rfl, _, rfl, Below.refl _ _, rfl, fun h => h.elim⟩
        · intro xs W1 hW hn
          simp only [flowAct, List.zipWith_cons_cons, List.zipWith_nil_left]
          gi_wp2_with (fail)
          exact ⟨rfl, _, rfl, Below.refl _ _, rfl, fun h => h.elim⟩
        · intro xs W1 hW hn
          simp [flowNeeds, Region.binds] at hn
          simp only [flowAct, List.zipWith_cons_cons, List.zipWith_nil_left]
          try simp only [hn]
          gi_wp2_with (fail)
          exact ⟨rfl, _, rfl, Below.refl _ _, rfl, fun h => h.elim⟩
        · intro xs W1 hW hn
          obtain ⟨p0, p1, p2, p3, p4, p5, p6, p7⟩ := HPW.out W1 hW
          simp only at p0 p1 p2 p3 p4 p5 p6 p7
          simp [flowNeeds, Region.binds] at hn
          simp only [flowAct, List.zipWith_cons_cons, List.zipWith_nil_left]
          try simp only [hn]
          gi_wp2_with (fail)
          exact ⟨rfl, _, rfl, Below.refl _ _, rfl, fun h => h.elim⟩
        · intro xs W1 hW hn
          simp [flowNeeds, Region.binds] at hn
          simp only [flowAct, List.zipWith_cons_cons, List.zipWith_nil_left]
          try simp only [hn]
          gi_wp2_with (fail)
          exact ⟨rfl, _, rfl, Below.refl _ _, rfl, fun h => h.elim⟩
      · intro xs W1 hW hall hfr
        clear hfr
        simp only [flowAll, and_true, Nat.zero_add, Nat.reduceAdd] at hall
        obtain ⟨e0, -, -, -, -, -, -, -, -, e9⟩ := hall
        simp only [flowAct, List.zipWith_cons_cons, List.zipWith_nil_left, List.drop_succ_cons, List.drop_zero]
        simp only [e0, e9]
        have hW2 := (HBX.out.trans (hW.mono HBX.out.size))
        obtain ⟨fn, tmps, assign, body, hy, hR⟩ := hY pre k W1 (hJ pre wr _ none HJ.out (grown_none hW2) (fun r e => by cases e)) ⟨HPL.out.symm, hlt⟩
        unfold penc at hy
        rw [HGK.out, HCK.out] at hy
        simp only at hy
        gi_wp2_with fail
        refine ⟨fun h => (by cases h), hR.mono ?_⟩
        rintro e9 W2 (⟨rfl, hJ2, hk2, -⟩ | ⟨rfl, hJx2, hk2⟩)
        · have hbx := hk2.box Bl _ (.inl rfl) ((hW2.block Bl (Array.getElem?_eq_some_iff.1 HBL.out).1).trans HBL.out)
          have hbr := hk2.box Br _ (.inr rfl) ((hW2.block Br (Array.getElem?_eq_some_iff.1 HBR.out).1).trans HBR.out)
          have hb2 : Below w0.heap.size w0 W2 := HBW.out.trans ((hW2.mono (Nat.le_trans hW0 HSW.out)).trans hk2.below)
          have hs2 : W.heap.size ≤ W2.heap.size := Nat.le_trans HSW.out (Nat.le_trans hW2.size hk2.below.size)
          clear hy hR e0 e9
          gi_wp2
          go_roundw
          case rel => exact ⟨pre ++ [k], k + 1, by go_num, by omega, by simp [HPL.out], hJ2, hb2, hs2, hbx, hbr⟩
          case measure => simp [placeOf]; omega
        · clear e0 e9
          gi_wp2
          refine bodyPost_ret (results_none rfl _ _ _) rfl ?_
          exact ⟨⟨_, rfl⟩, .inr ⟨pre ++ [k], trivial, hJx2⟩⟩
    · obtain rfl : k = m := by omega
      gi_wp2
      go_end0
      exact ⟨⟨_, rfl⟩, .inl ⟨pre, hpl, hJp⟩⟩
end Go.Proofs.YtkjpmdpljdgcjaaDoor
end

section
/-
  Row: the program's Good.
-/
namespace Go.Proofs.YtkjpmdpljdgcjaaDoor
open Go.RowKit Go Go.Sort
set_option linter.unusedVariables false
set_option maxRecDepth 20000

attribute [local go_sem] Oper.semAt_some
theorem res_cell_one {P : Program} {fn : Func} {p : Tmp} {ty : TypeId} (h : fn.results = #[.cell p ty]) (tmps : Array Value) (w : World) (g : Nat) (v : Value) (d : TypeDesc)
    (hp : tmps.getD p undef = .pointer (some ⟨g, 0, none⟩)) (hg : w.cell? ⟨g, 0, none⟩ = some v) (hu : P.underlying ty = some d) (hd : (match d with | .struct _ | .array _ _ => true | _ => false) = false) :
    (results fn tmps).run P w = .ok v w := by
  have hp' : tmps[p]?.getD undef = .pointer (some ⟨g, 0, none⟩) := by simpa using hp
  have hagg : (isAgg ty).run P w = .ok false w := by
    unfold isAgg
    rw [Sem.run_bind, run_underlying hu w]
    cases d <;> simp_all
  simp [results, h, hp', asAddr, loadVar, Sem.run_bind, hagg, go_sem, hg]
theorem text_nilb (k : List UInt8) : ((text k).toList == []) = (k == []) := by rw [text_toList]
theorem key_nil {k : List UInt8} (h : (k == []) = true) : keyS k = 2 := by
  have : k = [] := by simpa using h
  unfold keyS; rw [if_pos this]
theorem key_long {k : List UInt8} (h : (k == []) = false) (h2 : 32 < k.length) : keyS k = 3 := by
  have : ¬ k = [] := by simpa using h
  unfold keyS; rw [if_neg this, if_pos h2]
theorem key_ok {k : List UInt8} (h : (k == []) = false) (h2 : ¬ 32 < k.length) : keyS k = 0 := by
  have : ¬ k = [] := by simpa using h
  unfold keyS; rw [if_neg this, if_neg h2]

theorem mem_getDd {l : List Cl} {k : Nat} (h : k < l.length) : l.getD k Cl.zero ∈ l := by
  rw [List.getD_eq_getElem?_getD, List.getElem?_eq_getElem h]; exact List.getElem_mem _
theorem place_cells {W : World} {q : Nat} {k pk : Int} {n s a b : Int} {g : Bool} {t : List UInt8} {d e : Int} (h : W.heap[q]? = some (.cells #[.int .i64 k, .int .i64 pk, .int .i64 n, .int .i64 s, .int .i64 a, .int .i64 b, .bool g, .string (text t), .int .i64 d, .int .i64 e] 81 (0, 0))) :
    W.cell? ⟨q, 2, none⟩ = some (.int .i64 n) ∧ W.cell? ⟨q, 3, none⟩ = some (.int .i64 s) ∧ W.cell? ⟨q, 4, none⟩ = some (.int .i64 a) ∧ W.cell? ⟨q, 5, none⟩ = some (.int .i64 b) ∧
    W.cell? ⟨q, 6, none⟩ = some (.bool g) ∧ W.cell? ⟨q, 7, none⟩ = some (.string (text t)) ∧ W.cell? ⟨q, 8, none⟩ = some (.int .i64 d) ∧ W.cell? ⟨q, 9, none⟩ = some (.int .i64 e) := by
  refine ⟨?_, ?_, ?_, ?_, ?_, ?_, ?_, ?_⟩ <;> (rw [cell_of_row _ q _ _ _ (0, 0) h]; rfl)
theorem putObj_cell {W : World} {D : Nat} {o : Obj} (p : Addr) (h : p.block ≠ D) : (W.putObj D o).cell? p = W.cell? p := by
  have e : (W.putObj D o).heap[p.block]? = W.heap[p.block]? := by first | exact World.putObj_heap_other h | exact World.putObj_heap_other (Ne.symm h)
  unfold World.cell?
  rw [e]

/-- Between two rounds; how a round may leave. -/
def GoodI (gs : List Grp) (cs : List Cl) (n₀ base : Nat) (w : World) (xs : List Nat) (W : World) : Prop :=
  Boxed W (n₀ + 1) 28 (.int .i64 0) ∧ (∀ j, j < xs.length → cgAt gs cs j = true) ∧ Below n₀ w W ∧ base ≤ W.heap.size
def GoodX (gs : List Grp) (cs : List Cl) (m n₀ base : Nat) (w : World) (c : Code) (xs : List Nat) (W : World) : Prop :=
  c = .ret ∧ Boxed W (n₀ + 1) 28 (.int .i64 80) ∧ (∃ j, j < m ∧ cgAt gs cs j = false) ∧ Below n₀ w W ∧ base ≤ W.heap.size
theorem GoodI.own {gs : List Grp} {cs : List Cl} {n₀ base B : Nat} {w : World} (h1 : n₀ ≤ B) (h2 : n₀ ≤ base) : OwnT B 87 (GoodI gs cs n₀ base w) := by
  rintro xs X Y row ⟨hb, hx, hw, hs⟩ hg hr
  exact ⟨turn_keep hg hr hb (by decide), hx, turn_below hg hr h1 (Nat.le_trans h2 hs) hw, Nat.le_trans hs hg.size⟩
theorem GoodX.own {gs : List Grp} {cs : List Cl} {m n₀ base B : Nat} {w : World} (c : Code) (h1 : n₀ ≤ B) (h2 : n₀ ≤ base) : OwnFrom B (GoodX gs cs m n₀ base w c) := by
  have : OwnT B 87 (GoodX gs cs m n₀ base w c) := by
    rintro xs X Y row ⟨hc, hb, hx, hw, hs⟩ hg hr
    exact ⟨hc, turn_keep hg hr hb (by decide), hx, turn_below hg hr h1 (Nat.le_trans h2 hs) hw, Nat.le_trans hs hg.size⟩
  exact this.from
/-- A round's own place: at a block's head. -/
def placeA (gs : List Grp) (cs : List Cl) (k : Nat) : Array Value := #[.int .i64 (k : Int), .int .i64 (gs.getD k ([], 0)).2, .int .i64 (cs.getD k Cl.zero).n, .int .i64 (cs.getD k Cl.zero).s, .int .i64 (cs.getD k Cl.zero).a, .int .i64 (cs.getD k Cl.zero).b, .bool (cs.getD k Cl.zero).g, .string (text (cs.getD k Cl.zero).t), .int .i64 (cs.getD k Cl.zero).d, .int .i64 (cs.getD k Cl.zero).e]
def PlaceA (gs : List Grp) (cs : List Cl) (tm : Nat → Nat → Array Value) (k : Nat) (a' : Act) (W : World) : Prop := ∃ q, W.heap[q]? = some (.cells (placeA gs cs k) 81 (0, 0)) ∧ a' = { tmps := tm q k, defers := [] }
theorem PlaceA.own {gs : List Grp} {cs : List Cl} {tm : Nat → Nat → Array Value} {B : Nat} (k : Nat) (a' : Act) : OwnFrom B (fun (_ : Unit) W => PlaceA gs cs tm k a' W) := by
  rintro s X Y row ⟨q, h1, h2⟩ hg hr
  refine ⟨q, (hg.block q (Array.getElem?_eq_some_iff.1 h1).1 (fun e => ?_)).trans h1, h2⟩
  obtain ⟨_, o, ho, hc⟩ := hr q e.symm
  rw [h1] at ho; cases ho; cases hc

set_option maxRecDepth 100000 in
set_option maxHeartbeats 6400000 in
theorem rowgood_c {w : World} {x x2 : Option Addr} {n1 cap m cap2 : Nat} {gs : List Grp} {cs : List Cl} (hg : Grs w x n1 cap gs) (hs : ∀ g ∈ gs, g.1.length ≤ 9223372036854775807)
    (hl : Cls w x2 m cap2 cs) (hx : ∀ c ∈ cs, c.t.length ≤ 9223372036854775807) (key : List UInt8) (hk : key.length ≤ 9223372036854775807) :
    Calls Tryd.prog 14 #[.slice x n1 cap, .agg #[.string (text key), .slice x2 m cap2]] w (Tells (.int .i64 (rgoodS gs key cs)) w) := by
  have hgl := hg.len
  have hll := hl.len
  have hle1 := hg.le
  have hmax1 := hg.max
  have hle2 := hl.le
  have hmax2 := hl.max
  have HPG := Lib.hid (fun W (h : Below w.heap.size w W) => pgood_c (hg.below h) hs)
  have hts := text_nilb key
  have hsz : ((text key).size : Int) = (key.length : Int) := by rw [text_size]
  have H0 := Lib.hid (@rgood_pol gs key cs)
  have H1 := Lib.hid (@rgood_key gs key cs)
  have H2 := Lib.hid (@rgood_len gs key cs)
  have H3 := Lib.hid (@rgood_bad gs key cs)
  have H4 := Lib.hid (@rgood_yes gs key cs)
  have HK2 := Lib.hid (@key_nil key)
  have HK3 := Lib.hid (@key_long key)
  have HK0 := Lib.hid (@key_ok key)
  obtain ⟨R, hR⟩ : ∃ z, rgoodS gs key cs = z := ⟨_, rfl⟩
  obtain ⟨P0, hP⟩ : ∃ z, pgoodS gs = z := ⟨_, rfl⟩
  obtain ⟨K0, hK⟩ : ∃ z, keyS key = z := ⟨_, rfl⟩
  obtain ⟨kb, hkb⟩ : ∃ z, (key == []) = z := ⟨_, rfl⟩
  obtain ⟨kl, hkl⟩ : ∃ z, key.length = z := ⟨_, rfl⟩
  obtain ⟨tk, htk⟩ : ∃ z, text key = z := ⟨_, rfl⟩
  simp only [hR, hP, hK, hgl, hll] at H0 H1 H2 H3 H4
  simp only [hP] at HPG
  simp only [hkb, hkl, hK] at HK2 HK3 HK0
  rw [hkb, htk] at hts
  rw [hkl, htk] at hsz
  rw [hR, htk]
  have hB1 := (alloc_below w (.cells #[.string tk, .slice x2 m cap2] 25)).alloc (by simp) (.cells #[.int .i64 0] 28)
  have hr1 : ((w.alloc (.cells #[.string tk, .slice x2 m cap2] 25)).alloc (.cells #[.int .i64 0] 28)).heap[w.heap.size]? = some (.cells #[.string tk, .slice x2 m cap2] 25 (0, 0)) := (Below.heap_alloc _ _ _ (by simp)).trans (heap_alloc_new w _)
  have he1 := Boxed.new (w.alloc (.cells #[.string tk, .slice x2 m cap2] 25)) 28 (.int .i64 0)
  simp only [World.size_alloc] at he1
  clear hR hP hK hkb hkl htk hk
  refine (callsIn_wide (n := 3)).1 ?_
  refine callsIn_of_wp_marks Tryd.func14 rfl trivial ?_ rfl
  simp only [Tryd.ntmps14, List.size_toArray, List.length_cons, List.length_nil, Nat.reduceAdd, Nat.reduceSub, Array.replicate_succ, Array.replicate_zero, List.push_toArray, List.append_toArray, List.nil_append, List.cons_append]
  gi_wp2_with fail
  refine ⟨trivial, (callsIn_wide.2 (HPG.out _ hB1)).mono ?_⟩
  rintro e w2 ⟨rfl, hb2⟩
  have hr2 := (hb2.block _ (Array.getElem?_eq_some_iff.1 hr1).1).trans hr1
  have he2 : Boxed w2 (w.heap.size + 1) 28 (.int .i64 0) := (hb2.block _ he1.lt).trans he1
  have hB2 := hB1.trans (hb2.mono hB1.size)
  clear hr1 he1 hB1 hb2 HPG
  obtain ⟨B, hB⟩ : ∃ q, w.heap.size = q := ⟨_, rfl⟩
  have HBe := Lib.hid hB
  rw [hB] at hr2 he2 ⊢
  clear hB
  have r0 : w2.cell? ⟨B, 0, none⟩ = some (.string tk) := by rw [cell_of_row _ B 0 _ _ (0, 0) hr2]; rfl
  have r1 : w2.cell? ⟨B, 1, none⟩ = some (.slice x2 m cap2) := by rw [cell_of_row _ B 1 _ _ (0, 0) hr2]; rfl
  have x0 := he2.cell
  have xf := he2.frozen
  have HE2 := Lib.hid he2
  have HR2 := Lib.hid hr2
  have HB2 := Lib.hid hB2
  have HRES := Lib.hid (fun (z : Int) => Boxed.cell (he2.set (.int .i64 z)))
  have HFIN := Lib.hid (fun (z : Int) => hB2.setCell (p := ⟨B + 1, 0, none⟩) (by have := HBe.out; simp; omega) (.int .i64 z))
  clear hr2 he2 hB2
  by_cases h0 : P0 = 0
  · subst h0
    cases kb with
    | true =>
      have HR := Lib.hid (show R = 2 by have h := H1.out rfl (by rw [HK2.out rfl]; decide); rw [h, HK2.out rfl])
      gi_wp2
      exact ⟨_, res_cell_one rfl _ _ (B + 1) _ _ rfl (HRES.out 2) Tryd.underlying28 rfl, by rw [HR.out], HFIN.out 2⟩
    | false =>
      by_cases hkl : 32 < kl
      · have hkli : (32 : Int) < (kl : Int) := by omega
        have HR := Lib.hid (show R = 3 by have h := H1.out rfl (by rw [HK3.out rfl hkl]; decide); rw [h, HK3.out rfl hkl])
        gi_wp2
        exact ⟨_, res_cell_one rfl _ _ (B + 1) _ _ rfl (HRES.out 3) Tryd.underlying28 rfl, by rw [HR.out], HFIN.out 3⟩
      · have hkli : ¬ (32 : Int) < (kl : Int) := by omega
        have HKZ := Lib.hid (HK0.out rfl hkl)
        by_cases hmn : m = n1
        · subst hmn
          gi_wp2_with fail
          refine ⟨trivial, (callsIn_wide.2 places_c).mono ?_⟩
          rintro e w1 ⟨rfl, rfl⟩
          gi_wp2_with fail
          have bL := (heap_alloc_new w2 (.cells #[.slice x m cap] 22))
          have bR := heap_alloc_new (w2.alloc (.cells #[.slice x m cap] 22)) (.cells #[.string tk, .slice x2 m cap2] 25)
          replace bL := (Below.heap_alloc (w2.alloc (.cells #[.slice x m cap] 22)) (.cells #[.string tk, .slice x2 m cap2] 25) w2.heap.size (by simp)).trans bL
          rw [World.size_alloc] at bR
          have hbW := (alloc_below w2 (.cells #[.slice x m cap] 22)).alloc (by simp) (.cells #[.string tk, .slice x2 m cap2] 25)
          have hsz : ((w2.alloc (.cells #[.slice x m cap] 22)).alloc (.cells #[.string tk, .slice x2 m cap2] 25)).heap.size = w2.heap.size + 1 + 1 := by simp
          have hlt2 : B + 1 < w2.heap.size := HE2.out.lt
          obtain ⟨W0, hW0⟩ : ∃ W0, (w2.alloc (.cells #[.slice x m cap] 22)).alloc (.cells #[.string tk, .slice x2 m cap2] 25) = W0 := ⟨_, rfl⟩
          rw [hW0] at bL bR hbW hsz ⊢
          clear hW0
          have hB0 := HB2.out.trans (hbW.mono HB2.out.size)
          have hE0 : Boxed W0 (B + 1) 28 (.int .i64 0) := (hbW.block _ HE2.out.lt).trans HE2.out
          obtain ⟨G, hG⟩ : ∃ q, w2.heap.size = q := ⟨_, rfl⟩
          rw [hG] at bL bR hsz hlt2 ⊢
          have HSZ := Lib.hid hsz
          clear hG hbW
          refine wpIn_range_tells (F := Fence.wide) rfl (by omega) (gf := 62) (lb := #[.pointer (some ⟨G, 0, none⟩), .pointer (some ⟨G + 1, 0, none⟩)]) rfl trivial (enters_of Tryd.func62 (by kernel_rfl) rfl)
            (places_tells hg hl hB0 2 G (G + 1) (by omega) (by omega) bL bR) KP.trans (fun W l o o' hl h ho _ => KP.putObj W l o o' (by have := hB0.size; omega) (by rintro k (rfl | rfl) <;> omega) h)
            (fun xs X Y row hs hg hr => hs) (fun xs X Y row hs hg hr => hs) (fun _ => rfl)
            (GoodI gs cs w.heap.size W0.heap.size w) (GoodX gs cs m w.heap.size W0.heap.size w) (GoodI.own hB0.size hB0.size) (fun c => GoodX.own c hB0.size hB0.size)
            ⟨by rw [HBe.out]; exact hE0, fun j hj => by simp at hj, hB0, Nat.le_refl _⟩
            (PlaceA gs cs (fun q k => #[.slice x m cap, .agg #[.string tk, .slice x2 m cap2], undef, .pointer (some ⟨B, 0, none⟩), .pointer (some ⟨B + 1, 0, none⟩), .int .i64 0, .pointer (some ⟨q, 0, none⟩), .slice x m cap, .int .i64 0, .int .i64 0, .bool false, undef, .bool false, .pointer (some ⟨B, 0, none⟩), .string tk, .bool false, .bool (decide ((32 : Int) < (kl : Int))), .pointer (some ⟨B, 0, none⟩), .string tk, .int .i64 (kl : Int), .bool (decide ((32 : Int) < (kl : Int))), .bool false, .pointer (some ⟨B, 1, none⟩), .slice x2 m cap2, .int .i64 (m : Int), .slice x m cap, .int .i64 (m : Int), .bool false, .slice x m cap, .agg #[.string tk, .slice x2 m cap2], .func (.func 62) #[] #[.pointer (some ⟨G, 0, none⟩), .pointer (some ⟨G + 1, 0, none⟩)], .agg (placeA gs cs k), undef, undef, undef, undef, undef, undef])) (fun k a' => PlaceA.own k a') ?assign ?body ?done ?stop
          case assign =>
            rintro q pre k W K hI - hK
            obtain ⟨hb, hgd, hw, hs⟩ := hI
            obtain ⟨y, hck⟩ : ∃ y, cs.getD k Cl.zero = y := ⟨_, rfl⟩
            dsimp only [penc]
            rw [hck]
            obtain ⟨n, s, a, b, g, t, d, e⟩ := y
            dsimp only
            gi_wp2
            have h3 := HSZ.out
            refine hK _ _ ((KeepsOthers.alloc _ _).from _) (KP.of_below (by have := hB0.size; omega) ((Below.refl _ W).alloc (Nat.le_refl _) _)) ((GoodI.own (B := W0.heap.size) hB0.size hB0.size).from.alloc _ ⟨hb, hgd, hw, hs⟩) ⟨W.heap.size, ?_, ?_⟩
            · unfold placeA; rw [hck]; exact heap_alloc_new W _
            · dsimp only; unfold placeA; rw [hck]; rfl
          case body =>
            rintro q pre k a' W ⟨hb, hgd, hw, hs⟩ ⟨g9, hpq, rfl⟩ ⟨rfl, hlt⟩
            obtain ⟨k, hkp⟩ : ∃ k, pre.length = k := ⟨_, rfl⟩
            rw [hkp] at hlt hpq hgd ⊢
            unfold placeA at hpq
            dsimp only [placeA]
            have hcx := hx (cs.getD k Cl.zero) (mem_getDd (by omega))
            have hC := fun W => cgood_c (gs.getD k ([], 0)).2 (cs.getD k Cl.zero).n (cs.getD k Cl.zero).s (cs.getD k Cl.zero).a (cs.getD k Cl.zero).b (cs.getD k Cl.zero).g (cs.getD k Cl.zero).t (cs.getD k Cl.zero).d (cs.getD k Cl.zero).e hcx W
            have hcg : cgAt gs cs k = cgoodS (gs.getD k ([], 0)).2 (cs.getD k Cl.zero).n (cs.getD k Cl.zero).s (cs.getD k Cl.zero).a (cs.getD k Cl.zero).b (cs.getD k Cl.zero).g (cs.getD k Cl.zero).t (cs.getD k Cl.zero).d (cs.getD k Cl.zero).e := rfl
            obtain ⟨C, hCC⟩ : ∃ z, cgAt gs cs k = z := ⟨_, rfl⟩
            rw [← hcg, hCC] at hC
            have HCC := Lib.hid hCC
            have HC := Lib.hid hC
            clear hcg hC hCC hcx
            obtain ⟨⟨nm, pk⟩, hgk⟩ : ∃ y, gs.getD k ([], 0) = y := ⟨_, rfl⟩
            obtain ⟨y, hck⟩ : ∃ y, cs.getD k Cl.zero = y := ⟨_, rfl⟩
            rw [hgk, hck] at hpq HC ⊢
            obtain ⟨n, s, a, b, g, t, d, e⟩ := y
            dsimp only at hpq HC ⊢
            have e0 : W.cell? ⟨g9, 1, none⟩ = some (.int .i64 pk) := by rw [cell_of_row _ g9 1 _ _ (0, 0) hpq]; rfl
            obtain ⟨c0, c1, c2, c3, c4, c5, c6, c7⟩ := place_cells hpq
            have HH := Lib.hid (And.intro hb (And.intro hgd (And.intro hw hs)))
            clear hb hgd hw hs hgk hck hpq
            gi_wp2_with fail
            refine ⟨trivial, (CallsIn.inRound q (callsIn_wide.2 (HC.out W))).mono ?_⟩
            rintro e w1 ⟨rfl, hb1⟩
            obtain ⟨hb, hgd, hw, hs⟩ := HH.out
            have h3 := HSZ.out
            have hwsz := hB0.size
            cases C with
            | true =>
              have HR := Lib.hid (show RoundPost W0.heap.size (KP w.heap.size (two9 G (G + 1))) (fun _ => True) (GoodI gs cs w.heap.size W0.heap.size w) (GoodX gs cs m w.heap.size W0.heap.size w) pre k W .normal { tmps := #[], defers := [] } w1 from
                ⟨below_keeps hb1, KP.of_below (by omega) hb1, trivial, ⟨(hb1.block _ hb.lt).trans hb, fun j hj => by
                  rw [List.length_append, List.length_singleton, hkp] at hj
                  by_cases e : j = k
                  · subst e; exact HCC.out
                  · exact hgd j (by omega), hw.trans (hb1.mono (by omega)), Nat.le_trans hs hb1.size⟩⟩)
              clear hb hgd hw hs
              gi_wp2
              exact HR.out
            | false =>
              have hb2 : Boxed w1 (w.heap.size + 1) 28 (.int .i64 0) := (hb1.block _ hb.lt).trans hb
              rw [HBe.out] at hb2
              have z0 := hb2.cell
              have zf := hb2.frozen
              have hL : LeavesT 3 (fun j => j = B + 1) W0.heap.size W (w1.setCell ⟨B + 1, 0, none⟩ (.int .i64 80)) := (LeavesT.below hb1).trans (LeavesT.setCell (Bs := fun j => j = B + 1) w1 (B := B + 1) rfl (.int .i64 80))
              have hbW := (hb1.mono (show w.heap.size ≤ W.heap.size by omega)).setCell (p := ⟨B + 1, 0, none⟩) (by have := HBe.out; simp; omega) (.int .i64 80)
              have HR := Lib.hid (show RoundPost W0.heap.size (KP w.heap.size (two9 G (G + 1))) (fun _ => True) (GoodI gs cs w.heap.size W0.heap.size w) (GoodX gs cs m w.heap.size W0.heap.size w) pre k W .ret { tmps := #[], defers := [] } (w1.setCell ⟨B + 1, 0, none⟩ (.int .i64 80)) from
                ⟨hL.keeps (by rintro j rfl; omega), ⟨hbW, fun j o hj ho => hL.same j o ho (by rcases hj with rfl | rfl <;> omega) (.inl (by rcases hj with rfl | rfl <;> omega))⟩, ⟨rfl, by rw [HBe.out]; exact hb2.set _, ⟨k, hlt, HCC.out⟩, hw.trans hbW, Nat.le_trans hs hL.size⟩⟩)
              clear hb hgd hw hs hb2
              gi_wp2
              exact HR.out
          case done =>
            rintro D xs W hD hxs ⟨hb, hgd, hw, hs⟩ hK
            rw [HBe.out] at hb
            have z0 := hb.cell
            have zf := hb.frozen
            have HR := Lib.hid (show R = 0 from H4.out (by first | rfl | trivial) HKZ.out (by first | rfl | trivial) (fun j hj => hgd j (by omega)))
            have HZ := Lib.hid (Boxed.cell (hb.set (.int .i64 0)))
            have HW := Lib.hid (hw.setCell (p := ⟨B + 1, 0, none⟩) (by have := HBe.out; simp; omega) (.int .i64 0))
            have hlD : B + 1 < D := by have := HSZ.out; omega
            have HK := Lib.hid (show (W.setCell ⟨B + 1, 0, none⟩ (.int .i64 0)).heap[D]? = some (.deferred (some [])) from (heap_setCell_other W ⟨B + 1, 0, none⟩ D (.int .i64 0) (by simp; omega)).trans hK)
            clear hb hgd hw hs hK hxs
            gi_wp2
            refine ⟨by simp, .inl ⟨_, _, rfl, run_takeDeferred HK.out, ?_⟩⟩
            refine ⟨_, res_cell_one rfl _ _ (B + 1) (.int .i64 0) _ rfl ?_ Tryd.underlying28 rfl, by rw [HR.out], ?_⟩
            · rw [putObj_cell ⟨B + 1, 0, none⟩ (by simp; omega)]; exact HZ.out
            · exact HW.out.trans (belowK_b (w := w) (Nat.le_refl _) _ D _ _ (by have := HBe.out; omega) HK.out rfl rfl)
          case stop =>
            rintro D c pre W hD - ⟨rfl, hb, ⟨j, hj, hjb⟩, hw, hs⟩ hK
            rw [HBe.out] at hb
            have HR := Lib.hid (show R = 80 from H3.out (by first | rfl | trivial) HKZ.out (by first | rfl | trivial) hj hjb)
            have hlD : B + 1 < D := by have := HSZ.out; omega
            gi_wp2
            refine ⟨by simp, .inl ⟨_, _, rfl, run_takeDeferred hK, ?_⟩⟩
            refine ⟨_, res_cell_one rfl _ _ (B + 1) (.int .i64 80) _ rfl ?_ Tryd.underlying28 rfl, by rw [HR.out], ?_⟩
            · rw [putObj_cell ⟨B + 1, 0, none⟩ (by simp; omega)]; exact hb.cell
            · exact hw.trans (belowK_b (w := w) (Nat.le_refl _) W D _ _ (by have := HBe.out; omega) hK rfl rfl)
        · have hmni : ((m : Int) != (n1 : Int)) = true := by rw [bne_iff_ne]; omega
          have HR := Lib.hid (show R = 100 from H2.out rfl HKZ.out hmn)
          gi_wp2
          exact ⟨_, res_cell_one rfl _ _ (B + 1) _ _ rfl (HRES.out 100) Tryd.underlying28 rfl, by rw [HR.out], HFIN.out 100⟩
  · have h0b : (P0 == 0) = false := by simpa using h0
    have h0n : (P0 != 0) = true := by simpa using h0
    have HR := Lib.hid (show R = P0 from H0.out h0)
    clear h0
    gi_wp2
    exact ⟨_, res_cell_one rfl _ _ (B + 1) _ _ rfl (HRES.out P0) Tryd.underlying28 rfl, by rw [HR.out], HFIN.out P0⟩
end Go.Proofs.YtkjpmdpljdgcjaaDoor
end

