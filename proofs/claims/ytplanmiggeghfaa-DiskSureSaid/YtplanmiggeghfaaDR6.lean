/-
  Disk: the reference: append onto an empty literal; one file of the list is another.
-/
import Derived.Test.YtplanmiggeghfaaDR5
import Derived.Laws.Append
import Derived.Laws.AppendOwn
namespace Go.Proofs.Ytplanmiggeghfaa
open Go.RowKit Go Go.Sort Go.Maps Go.WideMaps
set_option linter.unusedVariables false
set_option maxRecDepth 20000

/-- append([]byte{}, l...): what it leaves lies in a block of its own, nothing of the old is turned. -/
theorem run_append_e0 {P : Program} {w : World} {base : Nat} {t ty e : TypeId} {i : TypeInfo} (ht : P.underlying t = some (.slice e)) (hi : P.info? e = some i) (hz : i.zero = some (.int .u8 0))
    (hsize : i.size = 1) (hby : i.bytes = 1) {g : Nat} (hown : OwnB w base e (.slice (some ⟨g, 0, none⟩) 0 0) [])
    {a : Option Addr} {m c : Nat} {l : List UInt8} (hb : Bys w a m c l) (h63 : m ≤ 140737488355328) (hbase : base ≤ w.heap.size) :
    ∃ v' w', (Builtin.append_ #[t, t] ty #[.slice (some ⟨g, 0, none⟩) 0 0, .slice a m c]).run P w = .ok v' w' ∧ OwnB w' base e v' l ∧ Below w.heap.size w w' := by
  have hlen := hb.len
  by_cases hm : m = 0
  · subst hm
    have hl : l = [] := List.eq_nil_of_length_eq_zero hb.len
    subst hl
    refine ⟨_, w, ?_, hown, Below.refl _ _⟩
    cases a with
    | none => simp [Builtin.append_, run_underlying ht, sizeOf, typeInfo, hi, Builtin.lenOf, Builtin.firstCells, storeCells]
    | some ad =>
      simp [Builtin.append_, run_underlying ht, sizeOf, typeInfo, hi, Builtin.lenOf, Builtin.firstCells, storeCells, loadCells, loadCellsFrom]
  · subst hlen
    obtain ⟨ad, rfl, hc⟩ := hb.cells (by omega)
    have hr := run_append_grow (P := P) w t ty e i (.int .u8 0) ht hi hz ⟨g, 0, none⟩ 0 0 [] (by simp) (by intro j v hj; simp at hj) ad l.length c (u8v l) (by rw [u8v_length, hsize]; omega) hc (by omega) (by omega)
      (growslice_fits (by omega) (by rw [hby]; omega))
    simp only [Nat.zero_add] at hr
    have hge := grownCap_ge w l.length 0 e
    have hcm : grownCap w l.length 0 e ≤ maxLen := grownCap_le_maxLen w l.length 0 e (by unfold maxLen; omega)
    refine ⟨_, _, hr, ?_, ⟨rfl, rfl, rfl, by simp, fun k hk => heap_alloc_old w.drew _ hk⟩⟩
    generalize grownCap w l.length 0 e = cap at hge hcm
    refine ⟨by rw [u8v_length, Nat.mul_one], .inr ⟨w.heap.size, cap, _, rfl, hbase, heap_alloc_new w.drew _, by omega, hcm, ?_, ?_⟩⟩
    · simp [u8v_length, size_zeroCells, Value.cells]
      omega
    · have : l.length * 1 = (u8v l).length := by rw [u8v_length, Nat.mul_one]
      rw [this]
      simp
theorem wpList_append_e0 {P : Program} {w : World} {ops : Array Oper} {rest : List Oper} {o : Oper} {a : Act} {Q : Exit → Act → World → Prop} (hgd : o.guard = none) (s x : Operand) (t : TypeId)
    (ho : o.op = .call { callee := .builtin .append, args := #[s, x], argTypes := #[t, t] })
    {base : Nat} {e : TypeId} {i : TypeInfo} (ht : P.underlying t = some (.slice e)) (hi : P.info? e = some i) (hz : i.zero = some (.int .u8 0))
    (hsize : i.size = 1) (hby : i.bytes = 1) {g : Nat} (hs : a.eval s = .slice (some ⟨g, 0, none⟩) 0 0) (hown : OwnB w base e (.slice (some ⟨g, 0, none⟩) 0 0) [])
    {ad : Option Addr} {m c : Nat} {l : List UInt8} (hx : a.eval x = .slice ad m c) (hb : Bys w ad m c l) (h63 : m ≤ 140737488355328) (hbase : base ≤ w.heap.size)
    (h : ∀ v' w', OwnB w' base e v' l → Below w.heap.size w w' → wpList P ops Q rest (a.put o.dst v') w') : wpList P ops Q (o :: rest) a w := by
  refine wpList_plain hgd fun K hK => ?_
  obtain ⟨v', w', hr, h2, h3⟩ := run_append_e0 (P := P) (ty := o.type) ht hi hz hsize hby hown hb h63 hbase
  unfold Oper.wp execOp
  simp only [ho, resolve, invoke, builtin, Sem.run_bind, Sem.run_pure, Result.andThen_ok, List.map_toArray, List.map_cons, List.map_nil, hs, hx, hr]
  exact hK _ _ (h v' w' h2 h3)

theorem names_set {F : List Fi} {i : Nat} {f' : Fi} (hi : i < F.length) (hn : f'.nm = (F[i]).nm) : (F.set i f').map Fi.nm = F.map Fi.nm := by
  apply List.ext_getElem?
  intro j
  rw [List.getElem?_map, List.getElem?_map, List.getElem?_set]
  by_cases h : i = j
  · subst h
    simp [hi, hn]
  · simp [h]
theorem Ds.Ok.set {st : Ds} (h : st.Ok) {i : Nat} (hi : i < st.F.length) {f' : Fi} (hn : f'.nm = (st.F[i]).nm) (hl : f'.b.length ≤ 1048576 ∧ f'.su ≤ f'.b.length) : Ds.Ok { st with F := st.F.set i f' } := by
  refine ⟨by simpa using h.len, fun f hf => ?_, ?_, h.pn, h.room⟩
  · rcases List.mem_or_eq_of_mem_set hf with hf | rfl
    · exact h.each f hf
    · exact ⟨hl.1, hl.2, by rw [hn]; exact (h.each _ (List.getElem_mem hi)).2.2⟩
  · have h1 := h.asc
    have h2 : (st.F.map Fi.nm).Pairwise (fun a b => Op.bytesLess a b = true) := by rw [List.pairwise_map]; exact h1
    rw [← names_set hi hn, List.pairwise_map] at h2
    exact h2
theorem RefIn.lb {w : World} {q g n cap : Nat} {FS : List Fr} {st : Ds} (h : RefIn w q (.slice (some ⟨g, 0, none⟩) n cap) FS st) : ∃ cur, w.heap[g]? = some (.cells cur 100 (0, 0)) ∧ FS.length = n := by
  rcases h.list.2 with ⟨e, -⟩ | ⟨g', cap', cur, e, -, hg, -⟩
  · cases e
  · injection e with e1 e2 e3
    injection e1 with e1
    injection e1 with e1
    subst e1 e2
    exact ⟨cur, hg, rfl⟩
theorem RefIn.put {w w3 : World} {q g n cap : Nat} {FS : List Fr} {st : Ds} (h : RefIn w q (.slice (some ⟨g, 0, none⟩) n cap) FS st) {i : Nat} (hi : i < FS.length) (x' : Fr)
    (hl : OwnL 3 100 Fr.arr w3 0 (.slice (some ⟨g, 0, none⟩) n cap) (FS.set i x')) (hk : ∀ k, k < w.heap.size → k ≠ g → w3.heap[k]? = w.heap[k]?) (ho : OwnB w3 0 5 x'.v x'.f.b)
    (hn : x'.f.nm = (FS.getD i Fr.zero).f.nm) (hs : x'.f.b.length ≤ 1048576 ∧ x'.f.su ≤ x'.f.b.length) : RefIn w3 q (.slice (some ⟨g, 0, none⟩) n cap) (FS.set i x') { st with F := st.F.set i x'.f } := by
  obtain ⟨cur, hg, -⟩ := h.lb
  have hq : q ≠ g := fun e => by subst e; have := tneD hg h.head; exact absurd this (by decide)
  have hx : ∀ x ∈ FS, ∀ k, x.v.ownBlock = some k → k ≠ g := fun x hx k hv e => by
    subst e
    obtain ⟨c, hc⟩ := (h.own x hx).blkD hv
    exact absurd (tneD hc hg) (by decide)
  have hFi : i < st.F.length := by rw [← h.pr]; simpa using hi
  have hge : (st.F[i]).nm = (FS.getD i Fr.zero).f.nm := by
    have : st.F[i]? = (FS.map Fr.f)[i]? := by rw [h.pr]
    rw [List.getElem?_eq_getElem hFi, List.getElem?_map, List.getElem?_eq_getElem hi] at this
    injection this with this
    rw [this, List.getD_eq_getElem?_getD, List.getElem?_eq_getElem hi]
    rfl
  refine ⟨(hk q (h.lt (.inl rfl)) hq).trans h.head, hl, fun x hm => ?_, by rw [List.map_set, h.pr], h.ok.set hFi (by rw [hge]; exact hn) hs⟩
  rcases List.mem_or_eq_of_mem_set hm with hm | rfl
  · exact (h.own x hm).of_blk fun k hv => hk k (h.lt (.inr (.inr ⟨x, hm, hv⟩))) (hx x hm k hv)
  · exact ho
theorem setF_set {w : World} {q : Nat} {fv : Value} {FS : List Fr} {st : Ds} (h : RefIn w q fv FS st) {nm : List UInt8} {i : Nat} (hi : i < FS.length) (hnm : (FS.getD i Fr.zero).f.nm = nm) (gf : Fi → Fi) : setF nm gf st.F = st.F.set i (gf (FS.getD i Fr.zero).f) := by
  unfold setF
  rw [← h.pr, List.map_map]
  apply List.ext_getElem?
  intro j
  rw [List.getElem?_map, List.getElem?_set]
  by_cases hji : i = j
  · subst hji
    rw [List.getElem?_eq_getElem hi]
    have e : FS.getD i Fr.zero = FS[i] := by rw [List.getD_eq_getElem?_getD, List.getElem?_eq_getElem hi]; rfl
    rw [e] at hnm ⊢
    simp [hnm, hi]
  · rw [if_neg hji, List.getElem?_map]
    by_cases hj : j < FS.length
    · rw [List.getElem?_eq_getElem hj]
      have e : FS.getD j Fr.zero = FS[j] := by rw [List.getD_eq_getElem?_getD, List.getElem?_eq_getElem hj]; rfl
      have : FS[j].f.nm ≠ nm := fun h9 => hji (h.one hi hj (by rw [hnm, e, h9]))
      simp [this]
    · rw [List.getElem?_eq_none (by omega)]
      rfl
end Go.Proofs.Ytplanmiggeghfaa
