/-
  Policy, the program: the machine that reads a schema's text, as plain mathematics.
-/
import Derived.Test.YtkhihfpdghjfmaaDoorJE
namespace Go.Proofs.YtkhihfpdghjfmaaDoor
open Go.RowKit Go Go.Sort
set_option linter.unusedVariables false
set_option maxRecDepth 20000

/-- How many groups there are, the name that was met, what was met since; what is left. -/
def mach (k : Nat) (st : Option (List UInt8)) (cur : List UInt8) : List UInt8 → Option (List Grp)
  | [] => some []
  | c :: r => if k = 4 then none else if lowB c = true then mach k st (cur ++ [c]) r else
    if c = 61 ∧ st = none then mach k (some cur) [] r else
    if c = 44 then (match st with | some name => (mach (k + 1) none [] r).map (fun l => (name, codeS cur) :: l) | none => none) else none
theorem mach_full (st : Option (List UInt8)) (cur : List UInt8) (c : UInt8) (r : List UInt8) : mach 4 st cur (c :: r) = none := by unfold mach; rw [if_pos rfl]
theorem mach_low {k : Nat} (hk : k ≠ 4) (st : Option (List UInt8)) (cur : List UInt8) {c : UInt8} (hc : lowB c = true) (r : List UInt8) : mach k st cur (c :: r) = mach k st (cur ++ [c]) r := by
  conv => lhs; unfold mach
  rw [if_neg hk, if_pos hc]
theorem mach_name {k : Nat} (hk : k ≠ 4) (cur r : List UInt8) : mach k none cur (61 :: r) = mach k (some cur) [] r := by
  conv => lhs; unfold mach
  rw [if_neg hk, if_neg (by decide), if_pos ⟨rfl, rfl⟩]
theorem mach_word {k : Nat} (hk : k ≠ 4) (name cur r : List UInt8) : mach k (some name) cur (44 :: r) = (mach (k + 1) none [] r).map (fun l => (name, codeS cur) :: l) := by
  conv => lhs; unfold mach
  rw [if_neg hk, if_neg (by decide), if_neg (by simp), if_pos rfl]
theorem mach_bad {k : Nat} (hk : k ≠ 4) (st : Option (List UInt8)) (cur : List UInt8) {c : UInt8} (hc : lowB c = false) (h1 : ¬ (c = 61 ∧ st = none)) (h2 : ¬ (c = 44 ∧ st ≠ none)) (r : List UInt8) : mach k st cur (c :: r) = none := by
  unfold mach
  rw [if_neg hk, if_neg (by rw [hc]; simp), if_neg h1]
  by_cases e : c = 44
  · rw [if_pos e]
    cases st with
    | none => rfl
    | some x => exact absurd ⟨e, by simp⟩ h2
  · rw [if_neg e]

theorem mach_lows {k : Nat} (hk : k ≠ 4) (st : Option (List UInt8)) : ∀ (x cur r : List UInt8), x.all lowB = true → mach k st cur (x ++ r) = mach k st (cur ++ x) r
  | [], cur, r, _ => by simp
  | c :: x, cur, r, h => by
    simp only [List.all_cons, Bool.and_eq_true] at h
    rw [List.cons_append, mach_low hk st cur h.1, mach_lows hk st x _ r h.2, List.append_assoc]
    rfl
/-- Groups' texts, a comma behind each. -/
def TextC (l : List Grp) : List UInt8 := l.flatMap (fun g => oneT g ++ [44])
theorem code_word {p : Int} (hp : p = 1 ∨ p = 2) : codeS (wordS p) = p ∧ (wordS p).all lowB = true := by
  rcases hp with rfl | rfl <;> exact ⟨rfl, rfl⟩
theorem name_low {s : List UInt8} (h : nameS s = true) : s.all lowB = true := by
  rw [nameS_low, Bool.and_eq_true] at h
  exact h.1
theorem mach_all : ∀ (l : List Grp) (k : Nat), k + l.length ≤ 4 → (∀ g ∈ l, nameS g.1 = true ∧ (g.2 = 1 ∨ g.2 = 2)) → mach k none [] (TextC l) = some l
  | [], k, _, _ => rfl
  | (s, p) :: r, k, hk, h => by
    obtain ⟨hn, hp⟩ := h (s, p) (by simp)
    simp only at hn hp
    have hk4 : k ≠ 4 := by simp at hk; omega
    have e : TextC ((s, p) :: r) = s ++ (61 :: (wordS p ++ (44 :: TextC r))) := by simp [TextC, oneT]
    rw [e, mach_lows hk4 none s [] _ (name_low hn), List.nil_append, mach_name hk4, mach_lows hk4 _ (wordS p) [] _ (code_word hp).2, List.nil_append, mach_word hk4, mach_all r (k + 1) (by simp at hk; omega) (fun g hg => h g (by simp [hg])), (code_word hp).1]
    rfl
def preS : Option (List UInt8) → List UInt8 → List UInt8
  | none, cur => cur
  | some name, cur => name ++ [61] ++ cur
theorem mach_form : ∀ (r : List UInt8) (k : Nat) (st : Option (List UInt8)) (cur : List UInt8) (l : List Grp), mach k st cur (r ++ [44]) = some l →
    ∃ ws : List (List UInt8 × List UInt8), l = ws.map (fun x => (x.1, codeS x.2)) ∧ preS st cur ++ r ++ [44] = ws.flatMap (fun x => x.1 ++ [61] ++ x.2 ++ [44])
  | [], k, st, cur, l, h => by
    by_cases hk : k = 4
    · subst hk; rw [List.nil_append, mach_full] at h; cases h
    · cases st with
      | none => rw [List.nil_append, mach_bad hk _ _ (by decide) (by decide) (by simp)] at h; cases h
      | some name =>
        rw [List.nil_append, mach_word hk] at h
        obtain rfl : l = [(name, codeS cur)] := by simpa [mach] using h.symm
        exact ⟨[(name, cur)], rfl, by simp [preS]⟩
  | c :: r, k, st, cur, l, h => by
    rw [List.cons_append] at h
    by_cases hk : k = 4
    · subst hk; rw [mach_full] at h; cases h
    · cases hc : lowB c with
      | true =>
        rw [mach_low hk st cur hc] at h
        obtain ⟨ws, h1, h2⟩ := mach_form r k st (cur ++ [c]) l h
        refine ⟨ws, h1, ?_⟩
        rw [← h2]
        cases st <;> simp [preS]
      | false =>
        by_cases h61 : c = 61 ∧ st = none
        · obtain ⟨rfl, rfl⟩ := h61
          rw [mach_name hk] at h
          obtain ⟨ws, h1, h2⟩ := mach_form r k (some cur) [] l h
          refine ⟨ws, h1, ?_⟩
          rw [← h2]
          simp [preS]
        · by_cases h44 : c = 44 ∧ st ≠ none
          · obtain ⟨rfl, hst⟩ := h44
            cases st with
            | none => exact absurd rfl hst
            | some name =>
              rw [mach_word hk] at h
              cases hm : mach (k + 1) none [] (r ++ [44]) with
              | none => rw [hm] at h; cases h
              | some m =>
                rw [hm] at h
                obtain rfl : l = (name, codeS cur) :: m := by simpa using h.symm
                obtain ⟨ws, h1, h2⟩ := mach_form r (k + 1) none [] m hm
                refine ⟨(name, cur) :: ws, by rw [h1]; rfl, ?_⟩
                rw [List.flatMap_cons, ← h2]
                simp [preS]
          · rw [mach_bad hk st cur hc h61 h44] at h; cases h
theorem textC_comma {l : List Grp} (h : l ≠ []) : ptextS l ++ [44] = TextC l := by
  have key : ∀ (r : List Grp) (g : Grp), oneT g ++ r.flatMap (fun h => 44 :: oneT h) ++ [44] = TextC (g :: r) := by
    intro r
    induction r with
    | nil => intro g; simp [TextC]
    | cons k r ih =>
      intro g
      have := ih k
      simp only [TextC, List.flatMap_cons, List.append_assoc] at this ⊢
      rw [← this]
      simp
  cases l with
  | nil => exact absurd rfl h
  | cons g r => exact key r g
theorem word_code {w : List UInt8} (h : codeS w = 1 ∨ codeS w = 2) : wordS (codeS w) = w := by
  unfold codeS at h ⊢
  by_cases h1 : w = [108, 97, 115, 116]
  · rw [if_pos h1, h1]; rfl
  · rw [if_neg h1] at h ⊢
    by_cases h2 : w = [100, 101, 108, 101, 116, 101]
    · rw [if_pos h2, h2]; rfl
    · rw [if_neg h2] at h; omega
/-- What the machine tells of a text. -/
def machS (s : List UInt8) : List Grp × Int := match mach 0 none [] (s ++ [44]) with
  | none => ([], 11)
  | some l => if pgoodS l = 0 then (l, 0) else ([], 11)
theorem mach_parse (s : List UInt8) : machS s = pparseS s := by
  by_cases hx : ∃ m, pparseS s = (m, 0)
  · obtain ⟨m, hm⟩ := hx
    obtain ⟨hg, ht⟩ := parse_good hm
    obtain ⟨h1, h4, hn⟩ := schema_names hg
    have hne : m ≠ [] := by intro e; subst e; simp at h1
    have := mach_all m 0 (by omega) hn
    rw [← textC_comma hne, ht] at this
    unfold machS
    rw [this]
    simp only []
    rw [if_pos hg, hm]
  · have hno : pparseS s = ([], 11) := by
      unfold pparseS at hx ⊢
      split
      · rfl
      · rename_i h1
        rw [if_neg h1] at hx
        split
        · rename_i h2
          rw [if_pos h2] at hx
          exact absurd ⟨_, rfl⟩ hx
        · rfl
    rw [hno]
    unfold machS
    cases hm : mach 0 none [] (s ++ [44]) with
    | none => rfl
    | some l =>
      simp only []
      by_cases hg : pgoodS l = 0
      · exfalso
        apply hx
        obtain ⟨h1, h4, hn⟩ := schema_names hg
        have hne : l ≠ [] := by intro e; subst e; simp at h1
        obtain ⟨ws, hw1, hw2⟩ := mach_form s 0 none [] l hm
        have e : ∀ (ws : List (List UInt8 × List UInt8)), (∀ x ∈ ws, codeS x.2 = 1 ∨ codeS x.2 = 2) → ws.flatMap (fun x => x.1 ++ [61] ++ x.2 ++ [44]) = TextC (ws.map (fun x => (x.1, codeS x.2))) := by
          intro ws
          induction ws with
          | nil => intro _; rfl
          | cons x ws ih =>
            intro h
            have hx := word_code (h x (by simp))
            have := ih fun y hy => h y (by simp [hy])
            simp only [TextC, List.map_cons, List.flatMap_cons] at this ⊢
            rw [this]
            simp only [oneT]
            rw [hx]
        have hc : ∀ x ∈ ws, codeS x.2 = 1 ∨ codeS x.2 = 2 := by
          intro x hx
          exact (hn (x.1, codeS x.2) (by rw [hw1]; exact List.mem_map.2 ⟨x, hx, rfl⟩)).2
        rw [e ws hc, ← hw1, ← textC_comma hne] at hw2
        have hs : s = ptextS l := by simpa [preS] using hw2
        exact ⟨l, by rw [hs]; exact parse_back hg⟩
      · rw [if_neg hg]
end Go.Proofs.YtkhihfpdghjfmaaDoor
