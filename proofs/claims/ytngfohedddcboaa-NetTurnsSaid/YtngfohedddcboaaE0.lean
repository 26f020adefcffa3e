/-
  Lists of structs, of whatever kind, in memory; those of a call's own. No program's type is named here.
-/
import Derived.Test.YtngfohedddcboaaNT0
import Derived.Deep.AppendSrc
namespace Go.Proofs.Ytngfohedddcboaa
open Go.RowKit Go Go.Sort
set_option linter.unusedVariables false
set_option maxRecDepth 20000

/-- A list that lies in memory: 'arr' tells the cells of an element, sz of them. -/
structure Ls {α : Type} (sz : Nat) (arr : α → Array Value) (z : α) (w : World) (a : Option Addr) (n cap : Nat) (l : List α) : Prop where
  len : l.length = n
  le : n ≤ cap
  max : cap ≤ 9223372036854775807
  adr : cap = 0 ∨ ∃ b off, a = some ⟨b, off, none⟩ ∧ ∀ i, i < n → ∀ j v, (arr (l.getD i z))[j]? = some v → w.cell? ⟨b, off + i * sz + j, none⟩ = some v
section
variable {α : Type} {sz : Nat} {arr : α → Array Value} {z : α}
theorem Ls.below {w w' : World} {a : Option Addr} {n cap : Nat} {l : List α} (h : Ls sz arr z w a n cap l) (hb : Below w.heap.size w w') : Ls sz arr z w' a n cap l := by
  refine ⟨h.len, h.le, h.max, ?_⟩
  rcases h.adr with h4 | ⟨b, off, rfl, hc⟩
  · exact .inl h4
  · exact .inr ⟨b, off, rfl, fun i hi j v hj => (hb.cell (World.block_lt_of_cell? w _ (hc i hi j v hj))).trans (hc i hi j v hj)⟩
/-- What a place holds, in every world in which nothing of the old is turned. -/
theorem Ls.at {w : World} {a : Option Addr} {n cap : Nat} {l : List α} (h : Ls sz arr z w a n cap l) {k : Nat} (hk : k < n) :
    ∃ b off, a = some ⟨b, off, none⟩ ∧ ∀ W, Below w.heap.size w W → ∀ j v, (arr (l.getD k z))[j]? = some v → W.cell? ⟨b, off + k * sz + j, none⟩ = some v := by
  have := h.le
  rcases h.adr with h4 | ⟨b, off, rfl, hc⟩
  · omega
  · exact ⟨b, off, rfl, fun W hb j v hj => (hb.cell (World.block_lt_of_cell? w _ (hc k hk j v hj))).trans (hc k hk j v hj)⟩
theorem Ls.nil (w : World) : Ls sz arr z w none 0 0 [] := ⟨rfl, Nat.le_refl _, by omega, .inl rfl⟩
theorem Ls.take {w : World} {a : Option Addr} {n cap : Nat} {l : List α} (h : Ls sz arr z w a n cap l) {k : Nat} (hk : k ≤ n) : Ls sz arr z w a k cap (l.take k) := by
  have hl := h.len
  have hle := h.le
  refine ⟨by rw [List.length_take]; omega, by omega, h.max, ?_⟩
  rcases h.adr with h4 | ⟨b, off, rfl, hc⟩
  · exact .inl h4
  · refine .inr ⟨b, off, rfl, fun i hi => ?_⟩
    have := hc i (by omega)
    rw [List.getD_eq_getElem?_getD] at this ⊢
    rwa [List.getElem?_take_of_lt hi]
/-- The cells of a list. -/
def lCells (arr : α → Array Value) (l : List α) : List Value := l.flatMap (fun c => (arr c).toList)
theorem lCells_length (hs : ∀ c, (arr c).size = sz) (l : List α) : (lCells arr l).length = l.length * sz := by
  induction l with
  | nil => simp [lCells]
  | cons c l ih =>
    simp only [lCells, List.flatMap_cons, List.length_append, List.length_cons] at ih ⊢
    rw [ih, Array.length_toList, hs c, Nat.succ_mul]
    omega
theorem lCells_append (l m : List α) : lCells arr (l ++ m) = lCells arr l ++ lCells arr m := by simp [lCells]
theorem lCells_get (hs : ∀ c, (arr c).size = sz) : ∀ (l : List α) (i j : Nat), i < l.length → j < sz → (lCells arr l)[i * sz + j]? = (arr (l.getD i z))[j]?
  | [], i, j, h, _ => by simp at h
  | c :: r, 0, j, _, hj => by
    simp only [lCells, List.flatMap_cons, List.getD_cons_zero, Nat.zero_mul, Nat.zero_add]
    rw [List.getElem?_append_left (by rw [Array.length_toList, hs]; exact hj)]
    simp
  | c :: r, i + 1, j, h, hj => by
    have := lCells_get hs r i j (by simpa using h) hj
    simp only [List.getD_cons_succ]
    rw [← this]
    simp only [lCells, List.flatMap_cons]
    rw [List.getElem?_append_right (by rw [Array.length_toList, hs, Nat.succ_mul]; omega), Array.length_toList, hs]
    congr 1
    rw [Nat.succ_mul]
    omega
/-- A slice of the call's own that reads as the list l. -/
def OwnL (sz : Nat) (ty : TypeId) (arr : α → Array Value) (w : World) (B : Nat) (v : Value) (l : List α) : Prop := w.ownsRow B ty sz v l.length (lCells arr l)
theorem OwnL.nil (ty : TypeId) (w : World) (B : Nat) : OwnL sz ty arr w B (.slice none 0 0) [] := World.ownsRow_nil _ _ _ _
theorem OwnL.ls {ty : TypeId} {w : World} {B : Nat} {v : Value} {l : List α} (hs : ∀ c, (arr c).size = sz) (h : OwnL sz ty arr w B v l) : ∃ a cap, v = .slice a l.length cap ∧ Ls sz arr z w a l.length cap l := by
  obtain ⟨h1, h2⟩ := h
  rcases h2 with ⟨rfl, hn⟩ | ⟨g, cap, cur, rfl, hb, hg, hnc, hcm, hcs, htake⟩
  · exact ⟨none, 0, by rw [hn], rfl, by omega, by omega, .inl rfl⟩
  · refine ⟨_, cap, rfl, rfl, hnc, by unfold maxLen at hcm; omega, .inr ⟨g, 0, rfl, fun i hi j v hj => ?_⟩⟩
    have hjs : j < sz := by have := (Array.getElem?_eq_some_iff.1 hj).1; rwa [hs] at this
    have c1 := lCells_get (z := z) hs l i j hi hjs
    have hlt : i * sz + j < l.length * sz := by
      have h9 : (i + 1) * sz ≤ l.length * sz := Nat.mul_le_mul_right sz hi
      rw [Nat.succ_mul] at h9
      omega
    rw [← htake, List.getElem?_take, if_pos hlt, hj] at c1
    rw [Nat.zero_add, cell_of_row w g _ cur _ (0, 0) hg, ← c1]
    simp
theorem OwnL.kept {ty : TypeId} {w w' : World} {B : Nat} {v : Value} {l : List α} (h : OwnL sz ty arr w B v l) (hb : Below w.heap.size w w') : OwnL sz ty arr w' B v l := own_kept h hb
theorem OwnL.mono {ty : TypeId} {w : World} {B B' : Nat} {v : Value} {l : List α} (h : OwnL sz ty arr w B v l) (hB : B' ≤ B) : OwnL sz ty arr w B' v l := own_mono h hB
theorem OwnL.lt {ty : TypeId} {w : World} {B : Nat} {v : Value} {l : List α} (h : OwnL sz ty arr w B v l) : ∀ k, v.ownBlock = some k → B ≤ k ∧ k < w.heap.size := World.ownsRow.lt h
theorem OwnL.of_block {ty : TypeId} {w w' : World} {B : Nat} {v : Value} {l : List α} (h : OwnL sz ty arr w B v l) (hb : ∀ q, v.ownBlock = some q → w'.heap[q]? = w.heap[q]?) : OwnL sz ty arr w' B v l := by
  obtain ⟨hlen, ⟨ev, hn⟩ | ⟨g, cap, cur, ev, hB, hg, hnc, hcm, hcs, htake⟩⟩ := h
  · exact ⟨hlen, .inl ⟨ev, hn⟩⟩
  · exact ⟨hlen, .inr ⟨g, cap, cur, ev, hB, (hb g (by subst ev; rfl)).trans hg, hnc, hcm, hcs, htake⟩⟩
/-- append(v, c), v of the call's own: one element. -/
theorem wpList_append_el {P : Program} {w : World} {ops : Array Oper} {rest : List Oper} {o : Oper} {ac : Act} {Q : Exit → Act → World → Prop} (hgd : o.guard = none) (os ox : Operand) (t ty : TypeId) (i0 : TypeInfo) (zv : Value) (bytes : Nat)
    (ho : o.op = .call { callee := .builtin .append, args := #[os, ox], argTypes := #[t, t] }) (ht : P.underlying t = some (.slice ty)) (hi : P.info? ty = some i0) (hz0 : i0.zero = some zv) (hz1 : i0.size = sz) (hz2 : i0.bytes = bytes) (hzs : zv.cells.size = sz) (hsz : 0 < sz)
    {base : Nat} {v : Value} {l : List α} (hs : ac.eval os = v) (hown : OwnL sz ty arr w base v l) (c : α) {cells : Array Value} (hc : arr c = cells) (hcs : cells.size = sz) (hone : ∀ u ∈ cells.toList, u.oneCell' = true) {e9 : TypeId}
    (hx : ac.eval ox = .slice (some ⟨w.heap.size, 0, none⟩) 1 1) (h63 : l.length + 1 ≤ maxLen) (hbytes : ((l.length + 1) + (l.length + 1) / 4 + 192) * bytes ≤ 281474976710656) (hbase : base ≤ w.heap.size)
    (h : ∀ v' w', OwnL sz ty arr w' base v' (l ++ [c]) → (w.alloc (.cells cells e9)).grownBy w' v.ownBlock → wpList P ops Q rest (ac.put o.dst v') w') :
    wpList P ops Q (o :: rest) ac (w.alloc (.cells cells e9)) := by
  refine wpList_append_own_wide (P := P) (w.alloc (.cells cells e9)) hgd os ox t ho base ty i0 zv sz bytes ht hi hz0 hz1 hz2 hzs hsz v l.length (lCells arr l) hs (World.ownsRow.alloc hown _)
    ⟨w.heap.size, 0, none⟩ 1 1 cells.toList hx (by rw [Array.length_toList, hcs, Nat.one_mul]) ?_ hone h63 hbytes (by simp; omega) ?_
  · intro j u hj
    rw [addr_add, Nat.zero_add, cell_of_row _ _ j cells e9 (0, 0) (by rw [heap_alloc_new])]
    rw [← hj]; simp
  · intro v' w' h2 h3 _
    refine h v' w' ?_ h3
    unfold OwnL
    rw [List.length_append, lCells_append]
    have e : lCells arr [c] = cells.toList := by simp [lCells, hc]
    rw [e]
    exact h2
end
end Go.Proofs.Ytngfohedddcboaa
