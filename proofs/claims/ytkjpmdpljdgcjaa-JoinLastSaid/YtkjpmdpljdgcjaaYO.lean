/-
  Lists of cells of the call's own.
-/
import Derived.Test.YtkjpmdpljdgcjaaYC
import Derived.Deep.DeepAppendWide
namespace Go.Proofs.Ytkjpmdpljdgcjaa
open Go.RowKit Go Go.Sort
set_option linter.unusedVariables false
set_option maxRecDepth 20000

theorem own_kept {W W' : World} {B s k : Nat} {e : TypeId} {v : Value} {xs : List Value} (h : W.ownsRow B e s v k xs) (hb : Below W.heap.size W W') : W'.ownsRow B e s v k xs := by
  refine ⟨h.1, ?_⟩
  rcases h.2 with hn | ⟨g, cap, cur, rfl, hB, hg, rest⟩
  · exact .inl hn
  · exact .inr ⟨g, cap, cur, rfl, hB, by rw [hb.block g (Array.getElem?_eq_some_iff.1 hg).1]; exact hg, rest⟩
theorem own_mono {W : World} {B B' s k : Nat} {e : TypeId} {v : Value} {xs : List Value} (h : W.ownsRow B e s v k xs) (hB : B' ≤ B) : W.ownsRow B' e s v k xs := by
  refine ⟨h.1, ?_⟩
  rcases h.2 with hn | ⟨g, cap, cur, rfl, hb, rest⟩
  · exact .inl hn
  · exact .inr ⟨g, cap, cur, rfl, by omega, rest⟩
def cCells (l : List Cl) : List Value := l.flatMap (fun c => c.arr.toList)
theorem cCells_length (l : List Cl) : (cCells l).length = l.length * 8 := by
  induction l with
  | nil => rfl
  | cons c l ih => simp only [cCells, List.flatMap_cons, List.length_append, List.length_cons] at ih ⊢; rw [ih]; simp [Cl.arr]; omega
theorem cCells_append (l m : List Cl) : cCells (l ++ m) = cCells l ++ cCells m := by simp [cCells]
theorem cCells_get : ∀ (l : List Cl) (i j : Nat), i < l.length → j < 8 → (cCells l)[i * 8 + j]? = (l.getD i Cl.zero).arr[j]?
  | [], i, j, h, _ => by simp at h
  | c :: r, 0, j, _, hj => by
    simp only [cCells, List.flatMap_cons, List.getD_cons_zero, Nat.zero_mul, Nat.zero_add]
    rw [List.getElem?_append_left (by simp [Cl.arr]; omega)]
    simp
  | c :: r, i + 1, j, h, hj => by
    have := cCells_get r i j (by simpa using h) hj
    simp only [List.getD_cons_succ]
    rw [← this]
    simp only [cCells, List.flatMap_cons]
    rw [List.getElem?_append_right (by simp [Cl.arr]; omega)]
    congr 1
    simp [Cl.arr]
    omega
/-- A slice of the call's own that reads as the cells l. -/
def OwnC (w : World) (B : Nat) (v : Value) (l : List Cl) : Prop := w.ownsRow B 27 8 v l.length (cCells l)
theorem OwnC.nil (w : World) (B : Nat) : OwnC w B (.slice none 0 0) [] := World.ownsRow_nil _ _ _ _
theorem OwnC.cls {w : World} {B : Nat} {v : Value} {l : List Cl} (h : OwnC w B v l) : ∃ a cap, v = .slice a l.length cap ∧ Cls w a l.length cap l := by
  obtain ⟨h1, h2⟩ := h
  rcases h2 with ⟨rfl, hn⟩ | ⟨g, cap, cur, rfl, hb, hg, hnc, hcm, hcs, htake⟩
  · exact ⟨none, 0, by rw [hn], rfl, by omega, by omega, .inl rfl⟩
  · refine ⟨_, cap, rfl, rfl, hnc, by unfold maxLen at hcm; omega, .inr ⟨g, 0, rfl, fun i hi => ?_⟩⟩
    have key : ∀ j, j < 8 → w.cell? ⟨g, 0 + i * 8 + j, none⟩ = (l.getD i Cl.zero).arr[j]? := by
      intro j hj
      have c1 := cCells_get l i j hi hj
      rw [← htake, List.getElem?_take, if_pos (by omega)] at c1
      rw [Nat.zero_add, cell_of_row w g _ cur _ (0, 0) hg, ← c1]
      simp
    have key0 := key 0 (by omega)
    rw [Nat.add_zero] at key0
    exact ⟨key0, key 1 (by omega), key 2 (by omega), key 3 (by omega), key 4 (by omega), key 5 (by omega), key 6 (by omega), key 7 (by omega)⟩
theorem OwnC.kept {w w' : World} {B : Nat} {v : Value} {l : List Cl} (h : OwnC w B v l) (hb : Below w.heap.size w w') : OwnC w' B v l := own_kept h hb
theorem OwnC.mono {w : World} {B B' : Nat} {v : Value} {l : List Cl} (h : OwnC w B v l) (hB : B' ≤ B) : OwnC w B' v l := own_mono h hB
theorem OwnC.lt {w : World} {B : Nat} {v : Value} {l : List Cl} (h : OwnC w B v l) : ∀ k, v.ownBlock = some k → B ≤ k ∧ k < w.heap.size := World.ownsRow.lt h
theorem Try.infoC : (Try.prog.info? 27).map (fun i => (i.zero, i.size, i.bytes)) = some (some (.agg #[.int .i64 0, .int .i64 0, .int .i64 0, .int .i64 0, .bool false, .string ⟨#[]⟩, .int .i64 0, .int .i64 0]), 8, 72) := by kernel_rfl
/-- append(v, c), v of the call's own. -/
theorem wpList_append_cell {w : World} {ops : Array Oper} {rest : List Oper} {o : Oper} {ac : Act} {Q : Exit → Act → World → Prop} (hgd : o.guard = none) (os ox : Operand)
    (ho : o.op = .call { callee := .builtin .append, args := #[os, ox], argTypes := #[28, 28] })
    {base : Nat} {v : Value} {l : List Cl} (hs : ac.eval os = v) (hown : OwnC w base v l) (n s a b : Int) (g : Bool) (t : List UInt8) (d e : Int) {e9 : TypeId}
    (hx : ac.eval ox = .slice (some ⟨w.heap.size, 0, none⟩) 1 1) (h63 : l.length ≤ 1000000000) (hbase : base ≤ w.heap.size)
    (h : ∀ v' w', OwnC w' base v' (l ++ [⟨n, s, a, b, g, t, d, e⟩]) → (w.alloc (.cells #[.int .i64 n, .int .i64 s, .int .i64 a, .int .i64 b, .bool g, .string (text t), .int .i64 d, .int .i64 e] e9)).grownBy w' v.ownBlock → wpList Try.prog ops Q rest (ac.put o.dst v') w') :
    wpList Try.prog ops Q (o :: rest) ac (w.alloc (.cells #[.int .i64 n, .int .i64 s, .int .i64 a, .int .i64 b, .bool g, .string (text t), .int .i64 d, .int .i64 e] e9)) := by
  obtain ⟨i0, hi, hz0, hz1, hz2⟩ := info_parts Try.infoC
  refine wpList_append_own_wide (P := Try.prog) (w.alloc (.cells #[.int .i64 n, .int .i64 s, .int .i64 a, .int .i64 b, .bool g, .string (text t), .int .i64 d, .int .i64 e] e9)) hgd os ox 28 ho base 27 i0 _ 8 72 Try.underlying28 hi hz0 hz1 hz2 rfl (by decide) v l.length (cCells l) hs (World.ownsRow.alloc hown _)
    ⟨w.heap.size, 0, none⟩ 1 1 [.int .i64 n, .int .i64 s, .int .i64 a, .int .i64 b, .bool g, .string (text t), .int .i64 d, .int .i64 e] hx rfl ?_ ?_ (by unfold maxLen; omega) (by omega) (by simp; omega) ?_
  · intro j u hj
    rw [addr_add, Nat.zero_add, cell_of_row _ _ j #[.int .i64 n, .int .i64 s, .int .i64 a, .int .i64 b, .bool g, .string (text t), .int .i64 d, .int .i64 e] e9 (0, 0) (by rw [heap_alloc_new])]
    rw [← hj]; simp
  · intro u hu
    simp only [List.mem_cons, List.not_mem_nil, or_false] at hu
    rcases hu with rfl | rfl | rfl | rfl | rfl | rfl | rfl | rfl <;> rfl
  · intro v' w' h2 h3 _
    refine h v' w' ?_ h3
    unfold OwnC
    rw [List.length_append, cCells_append]
    exact h2

end Go.Proofs.Ytkjpmdpljdgcjaa
