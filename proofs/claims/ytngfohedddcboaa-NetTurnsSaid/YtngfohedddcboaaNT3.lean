/-
  Net: append of packets, told where they stand; a packet taken out of a list; worlds that differ in what was drawn alone; what a region that draws its order keeps.
-/
import Derived.Test.YtngfohedddcboaaNT2
import Derived.Maps.AppendAt
import Derived.Deep.AppendSrc
namespace Go.Proofs.Ytngfohedddcboaa
open Go.RowKit Go Go.Sort Go.Lib Go.Maps
set_option linter.unusedVariables false
set_option maxRecDepth 20000

/-- The same memory. -/
structure SameN (w W : World) : Prop where
  os : W.os = w.os
  tape : W.tape = w.tape
  output : W.output = w.output
  heap : W.heap = w.heap
section
variable {w W W' : World}
theorem SameN.below (h : SameN w W) : Below w.heap.size w W := ⟨h.os, h.tape, h.output, by rw [h.heap]; exact Nat.le_refl _, fun k _ => by rw [h.heap]⟩
theorem SameN.drawn (w : World) (n : Nat) : SameN w { w with drawn := n } := ⟨rfl, rfl, rfl, rfl⟩
theorem SameN.nt (h : SameN w W) {ty : TypeId} {g : Nat} {v : Value} {q : Nt} (hn : NtIn w ty g v q) : NtIn W ty g v q := hn.below h.below
end
def TrivN : Prop := True
theorem trivN : TrivN := trivial
def RvN (vals : List (Option Value)) (i : Nat) (v : Value) : Prop := ∀ x, vals.getD i none = some x → v = x
section
variable {S : List Nat} {n : Nat} {V : Nat → Value → Prop} {R : Nat → World → Prop} {L : Nat → Bool} {xs : Nat → Value} {W : World}
theorem InvQ.laterN (h : InvQ S n V R L xs W) {j j' p p' : Nat} (hj : S[j]? = some p) (hj' : S[j']? = some p') (hjj : j ≤ j') (hL : L p = false) : L p' = false := by
  obtain ⟨k, hk, hs, -⟩ := h.stage
  cases hp : L p' with
  | false => rfl
  | true =>
    have h1 := (hs j' p' hj').1 hp
    have h2 := (hs j p hj).2 (by omega)
    rw [hL] at h2
    cases h2
/-- As long as the operation at place j of S has not run, the world is one of the stages up to j. -/
theorem InvQ.upto (h : InvQ S n V R L xs W) {j p : Nat} (hj : S[j]? = some p) (hL : L p = false) : ∃ k, k ≤ j ∧ R k W := by
  obtain ⟨k, hk, hs, hr⟩ := h.stage
  refine ⟨k, ?_, hr⟩
  cases Nat.lt_or_ge j k with
  | inl h1 => have := (hs j p hj).2 h1; rw [hL] at this; cases this
  | inr h1 => exact h1
end
theorem infoPk : (Try.prog.info? 43).map (fun i => (i.zero, i.size, i.bytes)) = some (some (.agg #[.int .i64 0, .string ⟨#[]⟩]), 2, 24) := by kernel_rfl
theorem pk_one (x : Pk) : ∀ u ∈ x.arr.toList, u.oneCell' = true := by
  intro u hu
  simp only [Pk.arr, List.mem_cons, List.not_mem_nil, or_false] at hu
  rcases hu with rfl | rfl <;> rfl
theorem pks_one (l : List Pk) : ∀ u ∈ lCells Pk.arr l, u.oneCell' = true := by
  intro u hu
  obtain ⟨c, -, hc⟩ := List.mem_flatMap.1 hu
  exact pk_one c u hc
/-- append(v, packets...). -/
theorem wpList_append_pks {w : World} {ops : Array Oper} {rest : List Oper} {o : Oper} {ac : Act} {Q : Exit → Act → World → Prop} (hgd : o.guard = none) (os ox : Operand)
    (ho : o.op = .call { callee := .builtin .append, args := #[os, ox], argTypes := #[39, 39] })
    {base : Nat} {u : Value} {l M : List Pk} (hs : ac.eval os = u) (hown : OwnL 2 43 Pk.arr w base u l) {ad : Addr} {m cap : Nat} (hx : ac.eval ox = .slice (some ad) m cap) (hm : M.length = m) (hc : ∀ j v, (lCells Pk.arr M)[j]? = some v → w.cell? (ad.add j) = some v) (h63 : l.length + m ≤ 2000000) (hbase : base ≤ w.heap.size)
    (h : ∀ v' w', OwnL 2 43 Pk.arr w' base v' (l ++ M) → w.grownBy w' u.ownBlock → (v'.ownBlock = u.ownBlock ∨ v'.ownBlock = some w.heap.size) → wpList Try.prog ops Q rest (ac.put o.dst v') w') :
    wpList Try.prog ops Q (o :: rest) ac w := by
  obtain ⟨i0, hi, hz0, hz1, hz2⟩ := info_parts infoPk
  subst hm
  obtain ⟨v', w', hr, h2, h3, -, h5⟩ := run_append_own_at (P := Try.prog) (w := w) base 39 o.type 43 i0 _ 2 24 Try.underlying39 hi hz0 hz1 hz2 rfl (by decide) u l.length (lCells Pk.arr l) hown
    ad M.length cap (lCells Pk.arr M) (lCells_length pk_size M) hc (pks_one M) (by unfold maxLen; omega) (by omega) hbase
  refine wpList_plain hgd fun K hK => ?_
  unfold Oper.wp execOp
  simp only [ho, resolve, invoke, builtin, Sem.run_bind, Sem.run_pure, Result.andThen_ok, List.map_toArray, List.map_cons, List.map_nil, hs, hx, hr]
  exact hK _ _ (h v' w' (by unfold OwnL; rw [List.length_append, lCells_append]; exact h2) h3 h5)
/-- .. of a list that has no memory. -/
theorem wpList_append_pk0 {w : World} {ops : Array Oper} {rest : List Oper} {o : Oper} {ac : Act} {Q : Exit → Act → World → Prop} (hgd : o.guard = none) (os ox : Operand)
    (ho : o.op = .call { callee := .builtin .append, args := #[os, ox], argTypes := #[39, 39] })
    {base : Nat} {g c : Nat} (hs : ac.eval os = .slice (some ⟨g, 0, none⟩) 0 c) (hx : ac.eval ox = .slice none 0 0)
    (h : wpList Try.prog ops Q rest (ac.put o.dst (.slice (some ⟨g, 0, none⟩) 0 c)) w) :
    wpList Try.prog ops Q (o :: rest) ac w := by
  obtain ⟨i0, hi, hz0, hz1, hz2⟩ := info_parts infoPk
  have hr : (Builtin.append_ #[39, 39] o.type #[.slice (some ⟨g, 0, none⟩) 0 c, .slice none 0 0]).run Try.prog w = .ok (.slice (some ⟨g, 0, none⟩) 0 c) w := by
    simp [Builtin.append_, run_underlying Try.underlying39, sizeOf, typeInfo, hi, Builtin.lenOf, Builtin.firstCells, storeCells]
  refine wpList_plain hgd fun K hK => ?_
  unfold Oper.wp execOp
  simp only [ho, resolve, invoke, builtin, Sem.run_bind, Sem.run_pure, Result.andThen_ok, List.map_toArray, List.map_cons, List.map_nil, hs, hx, hr]
  exact hK _ _ h
/-- A packet put into a block, then appended. -/
theorem wpList_append_pk {w : World} {ops : Array Oper} {rest : List Oper} {o : Oper} {ac : Act} {Q : Exit → Act → World → Prop} (hgd : o.guard = none) (os ox : Operand)
    (ho : o.op = .call { callee := .builtin .append, args := #[os, ox], argTypes := #[39, 39] })
    {base : Nat} {u : Value} {l : List Pk} (hs : ac.eval os = u) (hown : OwnL 2 43 Pk.arr w base u l) (x : Pk) {b : Nat} (hx : ac.eval ox = .slice (some ⟨b, 0, none⟩) 1 1) (hb : PkB w b x) (h63 : l.length + 1 ≤ 2000000) (hbase : base ≤ w.heap.size)
    (h : ∀ v' w', OwnL 2 43 Pk.arr w' base v' (l ++ [x]) → w.grownBy w' u.ownBlock → (v'.ownBlock = u.ownBlock ∨ v'.ownBlock = some w.heap.size) → wpList Try.prog ops Q rest (ac.put o.dst v') w') :
    wpList Try.prog ops Q (o :: rest) ac w :=
  wpList_append_pks hgd os ox ho hs hown hx rfl (fun j v hj => by
    rw [addr_add, Nat.zero_add, cell_of_row w b j _ 43 (0, 0) hb]
    rw [← hj]
    simp [lCells]) h63 hbase h
theorem empty_pks (w : World) (base : Nat) (hb : base ≤ w.heap.size) : OwnL 2 43 Pk.arr (w.alloc (.cells #[] 43)) base (.slice (some ⟨w.heap.size, 0, none⟩) 0 0) [] :=
  ⟨rfl, .inr ⟨w.heap.size, 0, #[], rfl, hb, heap_alloc_new w _, Nat.le_refl _, by unfold maxLen; omega, by simp, rfl⟩⟩
theorem heap_setCells_atN (g : Nat) (ty : TypeId) : ∀ (vs : List Value) (o : Nat) (w : World) (cur : Array Value), w.heap[g]? = some (.cells cur ty (0, 0)) → ∃ cur', (w.setCells g o vs).heap[g]? = some (.cells cur' ty (0, 0)) ∧ cur'.size = cur.size ∧
    (∀ j, j < vs.length → o + j < cur.size → cur'[o + j]? = vs[j]?) ∧ ∀ k, k < o ∨ o + vs.length ≤ k → cur'[k]? = cur[k]?
  | [], o, w, cur, h => ⟨cur, h, rfl, fun j hj => by simp at hj, fun _ _ => rfl⟩
  | v :: r, o, w, cur, h => by
    obtain ⟨cur', h1, h2, h3, h4⟩ := heap_setCells_atN g ty r (o + 1) (w.setCell ⟨g, o, none⟩ v) _ (heap_setCell_same w g o _ _ v h)
    refine ⟨cur', h1, by rw [h2]; simp, fun j hj hs => ?_, fun k hk => ?_⟩
    · cases j with
      | zero =>
        rw [h4 (o + 0) (.inl (by omega)), Nat.add_zero, Array.getElem?_setIfInBounds, if_pos rfl, if_pos (by omega)]
        rfl
      | succ j =>
        have := h3 j (by simpa using hj) (by simp; omega)
        rw [show o + 1 + j = o + (j + 1) by omega] at this
        rw [this]
        rfl
    · rw [h4 k (by simp at hk; omega), Array.getElem?_setIfInBounds, if_neg (by simp at hk; omega)]
/-- One taken out: the others moved down, the last place's cells cleared. -/
theorem OwnL.out {w w1 w2 : World} {B g cap i : Nat} {l : List Pk} (h : OwnL 2 43 Pk.arr w B (.slice (some ⟨g, 0, none⟩) l.length cap) l) (hi : i < l.length)
    (h1 : w1.heap = (w.setCells g (i * 2) ((lCells Pk.arr l).drop ((i + 1) * 2))).heap) (h2 : w2.heap = (w1.setCells g ((l.length - 1) * 2) [.int .i64 0, .string ⟨#[]⟩]).heap) : OwnL 2 43 Pk.arr w2 B (.slice (some ⟨g, 0, none⟩) (l.length - 1) cap) (l.take i ++ l.drop (i + 1)) := by
  obtain ⟨hlen, ⟨ev, hn⟩ | ⟨g', cap', cur, ev, hB, hg, hnc, hcm, hcs, htake⟩⟩ := h
  · cases ev
  · injection ev with e1 e2 e3
    injection e1 with e1
    injection e1 with e1
    subst e1 e3
    have hll := lCells_length (arr := Pk.arr) (sz := 2) pk_size l
    obtain ⟨c1, g1, s1, a1, o1⟩ := heap_setCells_atN g 43 ((lCells Pk.arr l).drop ((i + 1) * 2)) (i * 2) w cur hg
    rw [← h1] at g1
    obtain ⟨c2, g2, s2, a2, o2⟩ := heap_setCells_atN g 43 [.int .i64 0, .string ⟨#[]⟩] ((l.length - 1) * 2) w1 c1 g1
    rw [← h2] at g2
    rw [List.length_drop, hll] at a1 o1
    have hlen2 : (l.take i ++ l.drop (i + 1)).length = l.length - 1 := by simp; omega
    unfold OwnL
    rw [hlen2]
    refine ⟨by rw [lCells_length (sz := 2) pk_size, hlen2], .inr ⟨g, cap, c2, rfl, hB, g2, by omega, hcm, by omega, ?_⟩⟩
    have htk : lCells Pk.arr (l.take i) = (lCells Pk.arr l).take (i * 2) := by
      have e := lCells_append (arr := Pk.arr) (l.take i) (l.drop i)
      rw [List.take_append_drop] at e
      rw [e, List.take_left' (by rw [lCells_length (sz := 2) pk_size, List.length_take, Nat.min_eq_left (by omega)])]
    have hdr : lCells Pk.arr (l.drop (i + 1)) = (lCells Pk.arr l).drop ((i + 1) * 2) := by
      have e := lCells_append (arr := Pk.arr) (l.take (i + 1)) (l.drop (i + 1))
      rw [List.take_append_drop] at e
      rw [e, List.drop_left' (by rw [lCells_length (sz := 2) pk_size, List.length_take, Nat.min_eq_left (by omega)])]
    rw [lCells_append, htk, hdr]
    apply List.ext_getElem?
    intro j
    rw [List.getElem?_take]
    by_cases hj : j < (l.length - 1) * 2
    · rw [if_pos hj, Array.getElem?_toList, o2 j (.inl hj)]
      by_cases b1 : j < i * 2
      · rw [o1 j (.inl b1), List.getElem?_append_left (by rw [List.length_take, hll]; omega), List.getElem?_take, if_pos b1, ← htake, List.getElem?_take, if_pos (by omega), Array.getElem?_toList]
      · rw [List.getElem?_append_right (by rw [List.length_take, hll]; omega), List.length_take, hll, Nat.min_eq_left (by omega)]
        have := a1 (j - i * 2) (by omega) (by omega)
        rw [show i * 2 + (j - i * 2) = j by omega] at this
        exact this
    · rw [if_neg hj, List.getElem?_eq_none]
      rw [List.length_append, List.length_take, List.length_drop, hll]
      omega
end Go.Proofs.Ytngfohedddcboaa
