/-
  Policy: lists of groups of a call's own, and append.
-/
import Derived.Test.YtkhihfpdghjfmaaDoorQ7
import Derived.Deep.DeepAppendWide
namespace Go.Proofs.YtkhihfpdghjfmaaDoor
open Go.RowKit Go Go.Sort
set_option linter.unusedVariables false
set_option maxRecDepth 20000

def gCells (l : List Grp) : List Value := l.flatMap (fun g => [.string (text g.1), .int .i64 g.2])
theorem gCells_length (l : List Grp) : (gCells l).length = l.length * 2 := by
  induction l with
  | nil => rfl
  | cons g l ih => simp only [gCells, List.flatMap_cons, List.length_append, List.length_cons, List.length_nil] at ih ⊢; omega
theorem gCells_get : ∀ (l : List Grp) (i : Nat), i < l.length → (gCells l)[i * 2]? = some (.string (text (l.getD i ([], 0)).1)) ∧ (gCells l)[i * 2 + 1]? = some (.int .i64 (l.getD i ([], 0)).2)
  | [], i, h => by simp at h
  | g :: r, 0, _ => ⟨rfl, rfl⟩
  | g :: r, i + 1, h => by
    have := gCells_get r i (by simpa using h)
    have e1 : (i + 1) * 2 = i * 2 + 1 + 1 := by omega
    have e2 : (i + 1) * 2 + 1 = i * 2 + 1 + 1 + 1 := by omega
    rw [e2, e1]
    exact this
theorem gCells_append (l m : List Grp) : gCells (l ++ m) = gCells l ++ gCells m := by simp [gCells]

/-- A slice of the call's own that reads as the groups l. -/
def OwnG (w : World) (B : Nat) (v : Value) (l : List Grp) : Prop := w.ownsRow B 54 2 v l.length (gCells l)
theorem OwnG.nil (w : World) (B : Nat) : OwnG w B (.slice none 0 0) [] := World.ownsRow_nil _ _ _ _
theorem OwnG.grs {w : World} {B : Nat} {v : Value} {l : List Grp} (h : OwnG w B v l) : ∃ a cap, v = .slice a l.length cap ∧ Grs w a l.length cap l := by
  obtain ⟨h1, h2⟩ := h
  rcases h2 with ⟨rfl, hn⟩ | ⟨g, cap, cur, rfl, hb, hg, hnc, hcm, hcs, htake⟩
  · exact ⟨none, 0, by rw [hn], rfl, by omega, by omega, .inl rfl⟩
  · refine ⟨_, cap, rfl, rfl, hnc, by unfold maxLen at hcm; omega, .inr ⟨g, 0, rfl, fun i hi => ?_⟩⟩
    obtain ⟨c1, c2⟩ := gCells_get l i hi
    rw [← htake, List.getElem?_take, if_pos (by omega)] at c1
    rw [← htake, List.getElem?_take, if_pos (by omega)] at c2
    rw [Nat.zero_add, cell_of_row w g _ cur _ (0, 0) hg, cell_of_row w g _ cur _ (0, 0) hg]
    exact ⟨by rw [← c1]; simp, by rw [← c2]; simp⟩
theorem OwnG.kept {w w' : World} {B : Nat} {v : Value} {l : List Grp} (h : OwnG w B v l) (hb : Below w.heap.size w w') : OwnG w' B v l := by
  refine ⟨h.1, ?_⟩
  rcases h.2 with hn | ⟨g, cap, cur, rfl, hB, hg, rest⟩
  · exact .inl hn
  · exact .inr ⟨g, cap, cur, rfl, hB, by rw [hb.block g (Array.getElem?_eq_some_iff.1 hg).1]; exact hg, rest⟩
theorem OwnG.mono {w : World} {B B' : Nat} {v : Value} {l : List Grp} (h : OwnG w B v l) (hB : B' ≤ B) : OwnG w B' v l := by
  refine ⟨h.1, ?_⟩
  rcases h.2 with hn | ⟨g, cap, cur, rfl, hb, rest⟩
  · exact .inl hn
  · exact .inr ⟨g, cap, cur, rfl, by omega, rest⟩
theorem OwnG.lt {w : World} {B : Nat} {v : Value} {l : List Grp} (h : OwnG w B v l) : ∀ k, v.ownBlock = some k → B ≤ k ∧ k < w.heap.size := World.ownsRow.lt h

theorem Tryd.infoG : (Tryd.prog.info? 54).map (fun i => (i.zero, i.size, i.bytes)) = some (some (.agg #[.string ⟨#[]⟩, .int .i64 0]), 2, 24) := by kernel_rfl

/-- append(v, g), v of the call's own. -/
theorem wpList_append_grp {w : World} {ops : Array Oper} {rest : List Oper} {o : Oper} {a : Act} {Q : Exit → Act → World → Prop} (hgd : o.guard = none) (s x : Operand)
    (ho : o.op = .call { callee := .builtin .append, args := #[s, x], argTypes := #[22, 22] })
    {base : Nat} {v : Value} {l : List Grp} (hs : a.eval s = v) (hown : OwnG w base v l) {t : ByteArray} (g : List UInt8) {p : Int} (ht : t = text g) {e : TypeId}
    (hx : a.eval x = .slice (some ⟨w.heap.size, 0, none⟩) 1 1) (h63 : l.length ≤ 1000000000) (hbase : base ≤ w.heap.size)
    (h : ∀ v' w', OwnG w' base v' (l ++ [(g, p)]) → (w.alloc (.cells #[.string t, .int .i64 p] e)).grownBy w' v.ownBlock → wpList Tryd.prog ops Q rest (a.put o.dst v') w') :
    wpList Tryd.prog ops Q (o :: rest) a (w.alloc (.cells #[.string t, .int .i64 p] e)) := by
  subst ht
  obtain ⟨i0, hi, hz0, hz1, hz2⟩ := info_parts Tryd.infoG
  refine wpList_append_own_wide (P := Tryd.prog) (w.alloc (.cells #[.string (text g), .int .i64 p] e)) hgd s x 22 ho base 54 i0 _ 2 24 Tryd.underlying22 hi hz0 hz1 hz2 rfl (by decide) v l.length (gCells l) hs (World.ownsRow.alloc hown _)
    ⟨w.heap.size, 0, none⟩ 1 1 [.string (text g), .int .i64 p] hx rfl ?_ ?_ (by unfold maxLen; omega) (by omega) (by simp; omega) ?_
  · intro j u hj
    rw [addr_add, Nat.zero_add, cell_of_row _ _ j #[.string (text g), .int .i64 p] e (0, 0) (by rw [heap_alloc_new])]
    rw [← hj]; simp
  · intro u hu
    simp only [List.mem_cons, List.not_mem_nil, or_false] at hu
    rcases hu with rfl | rfl <;> rfl
  · intro v' w' h2 h3 _
    refine h v' w' ?_ h3
    unfold OwnG
    rw [List.length_append, gCells_append]
    exact h2
end Go.Proofs.YtkhihfpdghjfmaaDoor
