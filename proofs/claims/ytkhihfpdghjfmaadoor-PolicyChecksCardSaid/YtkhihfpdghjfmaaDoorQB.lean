/-
  Policy: what follows from the definitions: a schema comes back from its bytes and from its text; each group is found by its name. Plain mathematics.
-/
import Derived.Test.YtkhihfpdghjfmaaDoorQA
import Derived.Test.YtkhihfpdghjfmaaDoorOM
namespace Go.Proofs.YtkhihfpdghjfmaaDoor
open Go.RowKit Go Go.Sort
set_option linter.unusedVariables false
set_option maxRecDepth 20000

theorem textS_text (s t : List UInt8) (h : s.length ≤ 12) : textS (numB (s.length : Int) ++ s ++ t) 12 = (s, ((numB (s.length : Int)).length : Int) + (s.length : Int), 0) := by
  have hl := numB_len (n := (s.length : Int)) (by omega) (by omega)
  have hg := getS_num (s.length : Int) (s ++ t) (by omega) (by omega)
  rw [← List.append_assoc, hl.1] at hg
  unfold textS
  rw [hg]
  simp only [not_true_eq_false, if_false]
  rw [if_neg (by omega), if_neg (by simp only [List.length_append]; omega)]
  simp only [Int.toNat_natCast]
  rw [List.append_assoc, List.drop_left, List.take_left]
theorem getS_numB (n : Int) (t : List UInt8) (h0 : 0 ≤ n) (h1 : n ≤ 4611686018427387903) : getS (numB n ++ t) = (n, ((numB n).length : Int), 0) := by
  rw [getS_num n t h0 h1, (numB_len h0 h1).1]
theorem dec_all : ∀ l : List Grp, (∀ g ∈ l, g.1.length ≤ 12 ∧ (g.2 = 1 ∨ g.2 = 2)) → decFrom l.length (l.flatMap oneB) = some l
  | [], _ => rfl
  | (s, p) :: r, h => by
    obtain ⟨h1, h2⟩ := h (s, p) (by simp)
    simp only at h1 h2
    have e : ((s, p) :: r).flatMap oneB = numB (s.length : Int) ++ s ++ (numB p ++ r.flatMap oneB) := by simp [oneB, List.append_assoc]
    have hx : textS (numB (s.length : Int) ++ s ++ (numB p ++ r.flatMap oneB)) 12 = (s, (((numB (s.length : Int)).length + s.length : Nat) : Int), 0) := by rw [textS_text _ _ h1]; simp
    have hd : (numB (s.length : Int) ++ s ++ (numB p ++ r.flatMap oneB)).drop ((numB (s.length : Int)).length + s.length) = numB p ++ r.flatMap oneB := List.drop_left' (by simp)
    rw [e, List.length_cons, dec_step r.length _ hx (by rw [hd]; exact getS_numB p _ (by omega) (by omega)), ← List.drop_drop, hd, List.drop_left, dec_all r fun g hg => h g (by simp [hg])]
    rfl
theorem dec_back {l : List Grp} (h : pgoodS l = 0) : pdecS (pbytesS l) = (l, 0) := by
  obtain ⟨h1, h4, hn⟩ := schema_names h
  have hl : pdecL (pbytesS l) = some l := by
    unfold pdecL pbytesS
    rw [getS_numB (l.length : Int) _ (by omega) (by omega)]
    rw [if_pos ⟨rfl, by simp only []; omega⟩]
    simp only [Int.toNat_natCast]
    rw [List.drop_left]
    exact dec_all l fun g hg => ⟨(name_len (hn g hg).1).2, (hn g hg).2⟩
  unfold pdecS
  rw [hl]
  simp only []
  rw [if_pos ⟨h, trivial⟩]
theorem dec_good {b : List UInt8} {m : List Grp} (h : pdecS b = (m, 0)) : pgoodS m = 0 ∧ pbytesS m = b := by
  unfold pdecS at h
  cases hx : pdecL b with
  | none => rw [hx] at h; simp at h
  | some l =>
    rw [hx] at h
    simp only at h
    split at h
    · rename_i hc
      obtain ⟨rfl, _⟩ : l = m ∧ True := by simpa using h
      exact hc
    · simp at h
theorem parse_good {s : List UInt8} {m : List Grp} (h : pparseS s = (m, 0)) : pgoodS m = 0 ∧ ptextS m = s := by
  unfold pparseS at h
  split at h
  · simp at h
  · split at h
    · rename_i hc
      obtain ⟨rfl, _⟩ : pparseL s = m ∧ True := by simpa using h
      exact hc
    · simp at h

theorem cut_app (c : UInt8) : ∀ (x r : List UInt8), (∀ y ∈ x, y ≠ c) → cutS c (x ++ c :: r) = (x, r, true)
  | [], r, _ => by simp [cutS]
  | y :: x, r, h => by
    show (if y = c then ([], x ++ c :: r, true) else (y :: (cutS c (x ++ c :: r)).1, (cutS c (x ++ c :: r)).2.1, (cutS c (x ++ c :: r)).2.2)) = _
    rw [if_neg (h y (by simp)), cut_app c x r fun z hz => h z (by simp [hz])]
theorem name_no {s : List UInt8} (h : nameS s = true) (c : UInt8) (hc : c.toNat < 97) : ∀ y ∈ s, y ≠ c := by
  intro y hy e
  subst e
  rw [nameS_low] at h
  simp only [Bool.and_eq_true, List.all_eq_true] at h
  have := h.1 y hy
  simp [lowB] at this
  omega
theorem word_no (p : Int) : ∀ y ∈ wordS p, y ≠ 44 := by
  unfold wordS; split <;> decide
theorem grp_back {g : Grp} (h : nameS g.1 = true) (hp : g.2 = 1 ∨ g.2 = 2) : grpS (oneT g) = g := by
  have e : oneT g = g.1 ++ 61 :: wordS g.2 := by simp [oneT]
  unfold grpS
  rw [e, cut_app 61 _ _ (name_no h 61 (by decide))]
  obtain ⟨s, p⟩ := g
  simp only at hp ⊢
  rcases hp with rfl | rfl <;> rfl
theorem one_no {g : Grp} (h : nameS g.1 = true) : ∀ y ∈ oneT g, y ≠ 44 := by
  intro y hy
  unfold oneT at hy
  rcases List.mem_append.1 hy with hy | hy
  · rcases List.mem_append.1 hy with hy | hy
    · exact name_no h 44 (by decide) y hy
    · simp only [List.mem_singleton] at hy; subst hy; decide
  · exact word_no _ y hy
theorem split_all : ∀ (g : Grp) (r : List Grp), (∀ h ∈ g :: r, nameS h.1 = true) → splitS (oneT g ++ r.flatMap (fun h => 44 :: oneT h)) = (g :: r).map oneT
  | g, [], h => by
    rw [split_cut]
    simp only [List.flatMap_nil, List.append_nil, List.map_cons, List.map_nil]
    rw [cutS_none 44 _ (one_no (h g (by simp)))]
    rfl
  | g, k :: r, h => by
    rw [split_cut]
    have e : oneT g ++ (k :: r).flatMap (fun h => 44 :: oneT h) = oneT g ++ 44 :: (oneT k ++ r.flatMap (fun h => 44 :: oneT h)) := by simp
    rw [e, cut_app 44 _ _ (one_no (h g (by simp))), if_pos rfl, split_all k r fun x hx => h x (by simp [List.mem_cons.1 hx])]
    rfl
theorem one_len {g : Grp} (h : nameS g.1 = true) : (oneT g).length ≤ 19 := by
  have := (name_len h).2
  unfold oneT wordS
  split <;> simp <;> omega
theorem rest_len : ∀ r : List Grp, (∀ h ∈ r, nameS h.1 = true) → (r.flatMap (fun h => 44 :: oneT h)).length ≤ 20 * r.length
  | [], _ => by simp
  | g :: r, h => by
    have h1 := one_len (h g (by simp))
    have h2 := rest_len r fun x hx => h x (by simp [hx])
    simp only [List.flatMap_cons, List.length_append, List.length_cons]
    omega
theorem parse_back {l : List Grp} (h : pgoodS l = 0) : pparseS (ptextS l) = (l, 0) := by
  obtain ⟨h1, h4, hn⟩ := schema_names h
  have hl : pparseL (ptextS l) = l := by
    cases l with
    | nil => simp at h1
    | cons g r =>
      show (splitS (oneT g ++ r.flatMap (fun h => 44 :: oneT h))).map grpS = g :: r
      rw [split_all g r fun x hx => (hn x hx).1, List.map_map]
      conv => rhs; rw [← List.map_id (g :: r)]
      exact List.map_congr_left fun x hx => grp_back (hn x hx).1 (hn x hx).2
  have hlen : ¬ 100 < (ptextS l).length := by
    cases l with
    | nil => simp at h1
    | cons g r =>
      have h2 := one_len (hn g (by simp)).1
      have h3 := rest_len r fun x hx => (hn x (by simp [hx])).1
      simp only [List.length_cons] at h4
      show ¬ 100 < (oneT g ++ r.flatMap (fun h => 44 :: oneT h)).length
      rw [List.length_append]
      omega
  unfold pparseS
  rw [if_neg hlen, hl, if_pos ⟨h, rfl⟩]

/-- Names are told apart. -/
theorem good_apart : ∀ (l ahead : List Grp), goodFrom ahead l = 0 → ∀ (i : Nat), i < l.length → (∀ h ∈ ahead, h.1 ≠ (l.getD i ([], 0)).1) ∧ ∀ j, j < i → (l.getD j ([], 0)).1 ≠ (l.getD i ([], 0)).1
  | [], _, _, i, hi => by simp at hi
  | g :: r, ahead, h, i, hi => by
    unfold goodFrom at h
    split at h
    · exact absurd h (by decide)
    · split at h
      · exact absurd h (by decide)
      · rename_i _ hany
        cases i with
        | zero =>
          refine ⟨fun x hx e => hany ?_, fun j hj => by omega⟩
          rw [List.any_eq_true]
          exact ⟨x, hx, by simpa using e⟩
        | succ i =>
          obtain ⟨h1, h2⟩ := good_apart r (ahead ++ [g]) h i (by simpa using hi)
          refine ⟨fun x hx => h1 x (by simp [hx]), fun j hj => ?_⟩
          cases j with
          | zero => exact h1 g (by simp)
          | succ j => exact h2 j (by omega)
theorem find_at (name : List UInt8) : ∀ (l : List Grp) (b i : Nat), i < l.length → (l.getD i ([], 0)).1 = name → (∀ j, j < i → (l.getD j ([], 0)).1 ≠ name) → findFrom name b l = (((b + i : Nat) : Int), 0)
  | [], b, i, h, _, _ => by simp at h
  | g :: r, b, 0, h, e, _ => by unfold findFrom; rw [if_pos (by exact e)]; simp
  | g :: r, b, i + 1, h, e, hn => by
    unfold findFrom
    rw [if_neg (by exact hn 0 (by omega)), find_at name r (b + 1) i (by simpa using h) e fun j hj => hn (j + 1) (by omega)]
    congr 2; omega
theorem find_none (name : List UInt8) : ∀ (l : List Grp) (b : Nat), (∀ g ∈ l, g.1 ≠ name) → findFrom name b l = (0, 70)
  | [], _, _ => rfl
  | g :: r, b, h => by
    unfold findFrom
    rw [if_neg (h g (by simp)), find_none name r (b + 1) fun x hx => h x (by simp [hx])]
theorem names_find {l : List Grp} (h : pgoodS l = 0) {i : Nat} (hi : i < l.length) : pfindS l (l.getD i ([], 0)).1 = ((i : Int), 0) := by
  unfold pfindS
  rw [if_pos h]
  have hg : goodFrom [] l = 0 := by
    unfold pgoodS at h
    split at h
    · exact absurd h (by decide)
    · split at h
      · exact absurd h (by decide)
      · exact h
  rw [find_at _ l 0 i hi rfl (good_apart l [] hg i hi).2, Nat.zero_add]
theorem names_of {l : List Grp} (h : pgoodS l = 0) {i : Nat} (hi : i < l.length) : pofS l (i : Int) = ((l.getD i ([], 0)).2, 0) := by
  unfold pofS
  rw [if_pos h, if_neg (by omega), Int.toNat_natCast]
theorem names_none {l : List Grp} (h : pgoodS l = 0) : pfindS l [] = (0, 70) := by
  unfold pfindS
  rw [if_pos h]
  refine find_none _ _ _ fun g hg e => ?_
  have := (name_len ((schema_names h).2.2 g hg).1).1
  rw [e] at this
  simp at this
theorem names_end {l : List Grp} (h : pgoodS l = 0) : pofS l (l.length : Int) = (0, 70) := by
  unfold pofS
  rw [if_pos h, if_pos (by omega)]
end Go.Proofs.YtkhihfpdghjfmaaDoor
