/-
  Cell, the program: read.
-/
import Derived.Test.YtkjpmdpljdgcjaaDoorKE
import Derived.Test.YtkjpmdpljdgcjaaDoorDR
namespace Go.Proofs.YtkjpmdpljdgcjaaDoor
open Go.RowKit Go Go.Sort
set_option linter.unusedVariables false
set_option maxRecDepth 20000
theorem land_pow (m j : Nat) : m &&& 2 ^ j = if m / 2 ^ j % 2 = 1 then 2 ^ j else 0 := by
  apply Nat.eq_of_testBit_eq
  intro i
  rw [Nat.testBit_and, Nat.testBit_two_pow]
  by_cases hi : j = i
  · subst hi
    rw [Nat.testBit_eq_decide_div_mod_eq]
    by_cases hm : m / 2 ^ j % 2 = 1
    · rw [if_pos hm]; simp [hm]
    · rw [if_neg hm]; simp [hm]
  · by_cases hm : m / 2 ^ j % 2 = 1
    · rw [if_pos hm, Nat.testBit_two_pow]; simp [hi]
    · rw [if_neg hm]; simp [hi]
theorem and_bit (x : Int) (j : Nat) (h0 : 0 ≤ x) (h1 : x ≤ 4611686018427387903) (hj : j ≤ 2) : bits .and .i64 x ((2 ^ j : Nat) : Int) = if bit x ((2 ^ j : Nat) : Int) = true then ((2 ^ j : Nat) : Int) else 0 := by
  obtain ⟨m, rfl⟩ := Int.eq_ofNat_of_zero_le h0
  have e1 : (BitVec.ofInt 64 (m : Int)).toNat = m := by
    rw [BitVec.ofInt_natCast, BitVec.toNat_ofNat]; exact Nat.mod_eq_of_lt (by omega)
  have e2 : (BitVec.ofInt 64 ((2 ^ j : Nat) : Int)).toNat = 2 ^ j := by
    rw [BitVec.ofInt_natCast, BitVec.toNat_ofNat]
    rcases (by omega : j = 0 ∨ j = 1 ∨ j = 2) with rfl | rfl | rfl <;> rfl
  show IntKind.i64.wrap ((BitVec.ofInt 64 (m : Int) &&& BitVec.ofInt 64 ((2 ^ j : Nat) : Int)).toNat : Int) = _
  rw [BitVec.toNat_and, e1, e2, land_pow]
  have e3 : (bit (m : Int) ((2 ^ j : Nat) : Int) = true) ↔ (m / 2 ^ j % 2 = 1) := by
    unfold bit
    rw [beq_iff_eq, ← Int.natCast_ediv]
    omega
  by_cases hm : m / 2 ^ j % 2 = 1
  · rw [if_pos hm, if_pos (e3.2 hm)]
    rcases (by omega : j = 0 ∨ j = 1 ∨ j = 2) with rfl | rfl | rfl <;> rfl
  · rw [if_neg hm, if_neg (fun h => hm (e3.1 h))]
    rfl
theorem sget_cnt {l : List UInt8} {n s k f : Int} (h : sgetS l = ((n, s), k, f)) : 0 ≤ k ∧ k ≤ (l.length : Int) := by
  by_cases hf : (sgetS l).2.2 = 0
  · obtain ⟨q, h1, h2⟩ := sgetS_ok l hf
    rw [h] at h1
    simp only at h1
    omega
  · have : (sgetS l).2.1 = 0 := by
      unfold sgetS at hf ⊢
      split
      · rfl
      · rename_i h0
        rw [if_neg h0] at hf
        split
        · rename_i h1
          rw [if_pos h1] at hf
          exact absurd rfl hf
        · rename_i h1
          rw [if_neg h1] at hf
          split
          · rename_i h2
            rw [if_pos h2] at hf
            exact absurd rfl hf
          · rfl
    rw [h] at this
    simp only at this
    omega
theorem vget_cnt {l : List UInt8} {n s k f : Int} (h : vgetS l = ((n, s), k, f)) : 0 ≤ k ∧ k ≤ (l.length : Int) := by
  by_cases hf : (vgetS l).2.2 = 0
  · obtain ⟨q, h1, h2⟩ := vgetS_ok l hf
    rw [h] at h1
    simp only at h1
    omega
  · have : (vgetS l).2.1 = 0 := by
      unfold vgetS at hf ⊢
      split
      · rfl
      · rename_i h0
        rw [if_neg h0] at hf
        split
        · rfl
        · rename_i h1
          rw [if_neg h1] at hf
          split
          · rename_i h2
            rw [if_pos h2] at hf
            exact absurd rfl hf
          · rfl
    rw [h] at this
    simp only at this
    omega
theorem text_cnt {l t : List UInt8} {k f : Int} (h : textS l 64 = (t, k, f)) : 0 ≤ k ∧ k ≤ (l.length : Int) := by
  by_cases hf : (textS l 64).2.2 = 0
  · obtain ⟨q, h1, h2, -⟩ := textS_in l 64 hf
    rw [h] at h1
    simp only at h1
    omega
  · have : (textS l 64).2.1 = 0 := by
      unfold textS at hf ⊢
      split
      · rfl
      · rename_i h0
        rw [if_neg h0] at hf
        split
        · rfl
        · rename_i h1
          rw [if_neg h1] at hf
          split
          · rfl
          · rename_i h2
            rw [if_neg h2] at hf
            exact absurd rfl hf
    rw [h] at this
    simp only at this
    omega
theorem text_bad {l t : List UInt8} {k f : Int} (h : textS l 64 = (t, k, f)) (hf : f ≠ 0) : t = [] := by
  have : (textS l 64).1 = [] := by
    have hf2 : (textS l 64).2.2 ≠ 0 := by rw [h]; exact hf
    unfold textS at hf2 ⊢
    split
    · rfl
    · rename_i h0
      rw [if_neg h0] at hf2
      split
      · rfl
      · rename_i h1
        rw [if_neg h1] at hf2
        split
        · rfl
        · rename_i h2
          rw [if_neg h2] at hf2
          exact absurd rfl hf2
  rw [h] at this
  exact this
theorem stepI_c {w0 W : World} {q P : Nat} {ad : Option Addr} {m cap : Nat} {x : Int} {n s a b : Int} {g : Bool} {t : List UInt8} {d e : Int} {l : List UInt8} (h : Rd8 w0 W q ad m cap x (P : Int) 0 ⟨n, s, a, b, g, t, d, e⟩) (hl : Bys w0 ad m cap l) (hP : P ≤ m)
    (x' k f' : Int) (hg : getS (l.drop P) = (x', k, f')) (hk : 0 ≤ k) (hk2 : (P : Int) + k ≤ 9223372036854775807) :
    Calls Tryd.prog 97 #[.func (.func 112) #[] #[.pointer (some ⟨W.heap.size + 1, 0, none⟩), .pointer (some ⟨W.heap.size, 0, none⟩)], .pointer (some ⟨q + 5, 0, none⟩), .pointer (some ⟨q, 0, none⟩), .pointer (some ⟨q + 4, 0, none⟩)]
      ((W.alloc (.cells #[.pointer (some ⟨q + 3, 0, none⟩)] 143)).alloc (.cells #[.func (.func 79) #[] #[]] 124)) (fun e9 W' => e9 = .returned (.tuple #[]) ∧ Rd8 w0 W' q ad m cap x' ((P : Int) + k) f' ⟨n, s, a, b, g, t, d, e⟩) := by
  have hb := second_below W (.cells #[.pointer (some ⟨q + 3, 0, none⟩)] 143) (.cells #[.func (.func 79) #[] #[]] 124)
  have h2 := h.grow hb
  have hy0 : Bys W ad m cap l := hl.below (by rw [h.base]; exact h.below)
  obtain ⟨av, hs1, hs2, hy⟩ := slice_bys hy0 hP
  have hgk : ((W.alloc (.cells #[.pointer (some ⟨q + 3, 0, none⟩)] 143)).alloc (.cells #[.func (.func 79) #[] #[]] 124)).heap[W.heap.size]? = some (.cells #[.pointer (some ⟨q + 3, 0, none⟩)] 143) := (Below.heap_alloc (W.alloc (.cells #[.pointer (some ⟨q + 3, 0, none⟩)] 143)) (.cells #[.func (.func 79) #[] #[]] 124) W.heap.size (by rw [World.size_alloc]; omega)).trans (heap_alloc_new W _)
  have hgf : ((W.alloc (.cells #[.pointer (some ⟨q + 3, 0, none⟩)] 143)).alloc (.cells #[.func (.func 79) #[] #[]] 124)).heap[W.heap.size + 1]? = some (.cells #[.func (.func 79) #[] #[]] 124) := by have := heap_alloc_new (W.alloc (.cells #[.pointer (some ⟨q + 3, 0, none⟩)] 143)) (.cells #[.func (.func 79) #[] #[]] 124); rw [World.size_alloc] at this; exact this
  exact nextI_c h2 (Nat.le_trans hl.le hl.max) hP hk hk2 hs1 hs2 (intoI_c (hy.below hb) hgf hgk h2 x' k f' hg)
theorem stepS_c {w0 W : World} {q P : Nat} {ad : Option Addr} {m cap : Nat} {x : Int} {n s a b : Int} {g : Bool} {t : List UInt8} {d e : Int} {l : List UInt8} (h : Rd8 w0 W q ad m cap x (P : Int) 0 ⟨n, s, a, b, g, t, d, e⟩) (hl : Bys w0 ad m cap l) (hP : P ≤ m)
    (n' s' k f' : Int) (hg : sgetS (l.drop P) = ((n', s'), k, f')) (hk : 0 ≤ k) (hk2 : (P : Int) + k ≤ 9223372036854775807) :
    Calls Tryd.prog 97 #[.func (.func 113) #[] #[.pointer (some ⟨W.heap.size + 1, 0, none⟩), .pointer (some ⟨W.heap.size, 0, none⟩)], .pointer (some ⟨q + 5, 0, none⟩), .pointer (some ⟨q, 0, none⟩), .pointer (some ⟨q + 4, 0, none⟩)]
      ((W.alloc (.cells #[.pointer (some ⟨q + 2, 0, none⟩)] 145)).alloc (.cells #[.func (.func 100) #[] #[]] 146)) (fun e9 W' => e9 = .returned (.tuple #[]) ∧ Rd8 w0 W' q ad m cap x ((P : Int) + k) f' ⟨n', s', a, b, g, t, d, e⟩) := by
  have hb := second_below W (.cells #[.pointer (some ⟨q + 2, 0, none⟩)] 145) (.cells #[.func (.func 100) #[] #[]] 146)
  have h2 := h.grow hb
  have hy0 : Bys W ad m cap l := hl.below (by rw [h.base]; exact h.below)
  obtain ⟨av, hs1, hs2, hy⟩ := slice_bys hy0 hP
  have hgk : ((W.alloc (.cells #[.pointer (some ⟨q + 2, 0, none⟩)] 145)).alloc (.cells #[.func (.func 100) #[] #[]] 146)).heap[W.heap.size]? = some (.cells #[.pointer (some ⟨q + 2, 0, none⟩)] 145) := (Below.heap_alloc (W.alloc (.cells #[.pointer (some ⟨q + 2, 0, none⟩)] 145)) (.cells #[.func (.func 100) #[] #[]] 146) W.heap.size (by rw [World.size_alloc]; omega)).trans (heap_alloc_new W _)
  have hgf : ((W.alloc (.cells #[.pointer (some ⟨q + 2, 0, none⟩)] 145)).alloc (.cells #[.func (.func 100) #[] #[]] 146)).heap[W.heap.size + 1]? = some (.cells #[.func (.func 100) #[] #[]] 146) := by have := heap_alloc_new (W.alloc (.cells #[.pointer (some ⟨q + 2, 0, none⟩)] 145)) (.cells #[.func (.func 100) #[] #[]] 146); rw [World.size_alloc] at this; exact this
  exact nextS_c h2 (Nat.le_trans hl.le hl.max) hP hk hk2 hs1 hs2 (intoS_c (hy.below hb) hgf hgk h2 n' s' k f' hg)
theorem stepV_c {w0 W : World} {q P : Nat} {ad : Option Addr} {m cap : Nat} {x : Int} {n s a b : Int} {g : Bool} {t : List UInt8} {d e : Int} {l : List UInt8} (h : Rd8 w0 W q ad m cap x (P : Int) 0 ⟨n, s, a, b, g, t, d, e⟩) (hl : Bys w0 ad m cap l) (hP : P ≤ m)
    (a' b' k f' : Int) (hg : vgetS (l.drop P) = ((a', b'), k, f')) (hk : 0 ≤ k) (hk2 : (P : Int) + k ≤ 9223372036854775807) :
    Calls Tryd.prog 97 #[.func (.func 115) #[] #[.pointer (some ⟨W.heap.size + 1, 0, none⟩), .pointer (some ⟨W.heap.size, 0, none⟩)], .pointer (some ⟨q + 5, 0, none⟩), .pointer (some ⟨q, 0, none⟩), .pointer (some ⟨q + 4, 0, none⟩)]
      ((W.alloc (.cells #[.pointer (some ⟨q + 2, 2, none⟩)] 148)).alloc (.cells #[.func (.func 102) #[] #[]] 149)) (fun e9 W' => e9 = .returned (.tuple #[]) ∧ Rd8 w0 W' q ad m cap x ((P : Int) + k) f' ⟨n, s, a', b', g, t, d, e⟩) := by
  have hb := second_below W (.cells #[.pointer (some ⟨q + 2, 2, none⟩)] 148) (.cells #[.func (.func 102) #[] #[]] 149)
  have h2 := h.grow hb
  have hy0 : Bys W ad m cap l := hl.below (by rw [h.base]; exact h.below)
  obtain ⟨av, hs1, hs2, hy⟩ := slice_bys hy0 hP
  have hgk : ((W.alloc (.cells #[.pointer (some ⟨q + 2, 2, none⟩)] 148)).alloc (.cells #[.func (.func 102) #[] #[]] 149)).heap[W.heap.size]? = some (.cells #[.pointer (some ⟨q + 2, 2, none⟩)] 148) := (Below.heap_alloc (W.alloc (.cells #[.pointer (some ⟨q + 2, 2, none⟩)] 148)) (.cells #[.func (.func 102) #[] #[]] 149) W.heap.size (by rw [World.size_alloc]; omega)).trans (heap_alloc_new W _)
  have hgf : ((W.alloc (.cells #[.pointer (some ⟨q + 2, 2, none⟩)] 148)).alloc (.cells #[.func (.func 102) #[] #[]] 149)).heap[W.heap.size + 1]? = some (.cells #[.func (.func 102) #[] #[]] 149) := by have := heap_alloc_new (W.alloc (.cells #[.pointer (some ⟨q + 2, 2, none⟩)] 148)) (.cells #[.func (.func 102) #[] #[]] 149); rw [World.size_alloc] at this; exact this
  exact nextV_c h2 (Nat.le_trans hl.le hl.max) hP hk hk2 hs1 hs2 (intoV_c (hy.below hb) hgf hgk h2 a' b' k f' hg)
theorem stepD_c {w0 W : World} {q P : Nat} {ad : Option Addr} {m cap : Nat} {x : Int} {n s a b : Int} {g : Bool} {t : List UInt8} {d e : Int} {l : List UInt8} (h : Rd8 w0 W q ad m cap x (P : Int) 0 ⟨n, s, a, b, g, t, d, e⟩) (hl : Bys w0 ad m cap l) (hP : P ≤ m)
    (d' e' k f' : Int) (hg : vgetS (l.drop P) = ((d', e'), k, f')) (hk : 0 ≤ k) (hk2 : (P : Int) + k ≤ 9223372036854775807) :
    Calls Tryd.prog 97 #[.func (.func 115) #[] #[.pointer (some ⟨W.heap.size + 1, 0, none⟩), .pointer (some ⟨W.heap.size, 0, none⟩)], .pointer (some ⟨q + 5, 0, none⟩), .pointer (some ⟨q, 0, none⟩), .pointer (some ⟨q + 4, 0, none⟩)]
      ((W.alloc (.cells #[.pointer (some ⟨q + 2, 6, none⟩)] 148)).alloc (.cells #[.func (.func 102) #[] #[]] 149)) (fun e9 W' => e9 = .returned (.tuple #[]) ∧ Rd8 w0 W' q ad m cap x ((P : Int) + k) f' ⟨n, s, a, b, g, t, d', e'⟩) := by
  have hb := second_below W (.cells #[.pointer (some ⟨q + 2, 6, none⟩)] 148) (.cells #[.func (.func 102) #[] #[]] 149)
  have h2 := h.grow hb
  have hy0 : Bys W ad m cap l := hl.below (by rw [h.base]; exact h.below)
  obtain ⟨av, hs1, hs2, hy⟩ := slice_bys hy0 hP
  have hgk : ((W.alloc (.cells #[.pointer (some ⟨q + 2, 6, none⟩)] 148)).alloc (.cells #[.func (.func 102) #[] #[]] 149)).heap[W.heap.size]? = some (.cells #[.pointer (some ⟨q + 2, 6, none⟩)] 148) := (Below.heap_alloc (W.alloc (.cells #[.pointer (some ⟨q + 2, 6, none⟩)] 148)) (.cells #[.func (.func 102) #[] #[]] 149) W.heap.size (by rw [World.size_alloc]; omega)).trans (heap_alloc_new W _)
  have hgf : ((W.alloc (.cells #[.pointer (some ⟨q + 2, 6, none⟩)] 148)).alloc (.cells #[.func (.func 102) #[] #[]] 149)).heap[W.heap.size + 1]? = some (.cells #[.func (.func 102) #[] #[]] 149) := by have := heap_alloc_new (W.alloc (.cells #[.pointer (some ⟨q + 2, 6, none⟩)] 148)) (.cells #[.func (.func 102) #[] #[]] 149); rw [World.size_alloc] at this; exact this
  exact nextV_c h2 (Nat.le_trans hl.le hl.max) hP hk hk2 hs1 hs2 (intoD_c (hy.below hb) hgf hgk h2 d' e' k f' hg)
theorem stepT_c {w0 W : World} {q P : Nat} {ad : Option Addr} {m cap : Nat} {x : Int} {n s a b : Int} {g : Bool} {t : List UInt8} {d e : Int} {l : List UInt8} (h : Rd8 w0 W q ad m cap x (P : Int) 0 ⟨n, s, a, b, g, t, d, e⟩) (hl : Bys w0 ad m cap l) (hP : P ≤ m)
    (t' : List UInt8) (k f' : Int) (hg : textS (l.drop P) 64 = (t', k, f')) (hk : 0 ≤ k) (hk2 : (P : Int) + k ≤ 9223372036854775807) :
    Calls Tryd.prog 97 #[.func (.func 116) #[] #[.pointer (some ⟨W.heap.size + 1, 0, none⟩), .pointer (some ⟨W.heap.size, 0, none⟩)], .pointer (some ⟨q + 5, 0, none⟩), .pointer (some ⟨q, 0, none⟩), .pointer (some ⟨q + 4, 0, none⟩)]
      ((W.alloc (.cells #[.pointer (some ⟨q + 2, 5, none⟩)] 151)).alloc (.cells #[.func (.func 104) #[] #[]] 152)) (fun e9 W' => e9 = .returned (.tuple #[]) ∧ Rd8 w0 W' q ad m cap x ((P : Int) + k) f' ⟨n, s, a, b, g, t', d, e⟩) := by
  have hb := second_below W (.cells #[.pointer (some ⟨q + 2, 5, none⟩)] 151) (.cells #[.func (.func 104) #[] #[]] 152)
  have h2 := h.grow hb
  have hy0 : Bys W ad m cap l := hl.below (by rw [h.base]; exact h.below)
  obtain ⟨av, hs1, hs2, hy⟩ := slice_bys hy0 hP
  have hgk : ((W.alloc (.cells #[.pointer (some ⟨q + 2, 5, none⟩)] 151)).alloc (.cells #[.func (.func 104) #[] #[]] 152)).heap[W.heap.size]? = some (.cells #[.pointer (some ⟨q + 2, 5, none⟩)] 151) := (Below.heap_alloc (W.alloc (.cells #[.pointer (some ⟨q + 2, 5, none⟩)] 151)) (.cells #[.func (.func 104) #[] #[]] 152) W.heap.size (by rw [World.size_alloc]; omega)).trans (heap_alloc_new W _)
  have hgf : ((W.alloc (.cells #[.pointer (some ⟨q + 2, 5, none⟩)] 151)).alloc (.cells #[.func (.func 104) #[] #[]] 152)).heap[W.heap.size + 1]? = some (.cells #[.func (.func 104) #[] #[]] 152) := by have := heap_alloc_new (W.alloc (.cells #[.pointer (some ⟨q + 2, 5, none⟩)] 151)) (.cells #[.func (.func 104) #[] #[]] 152); rw [World.size_alloc] at this; exact this
  exact nextT_c h2 (Nat.le_trans hl.le hl.max) hP hk hk2 hs1 hs2 (intoT_c (hy.below hb) hgf hgk h2 t' k f' hg)
theorem rd8_only {w0 V W : World} {q : Nat} {ad : Option Addr} {m cap : Nat} {x at' f : Int} {c : Cl} (h : Rd8 w0 V q ad m cap x at' f c) (k : Only (q + 1) V W) :
    W.cell? ⟨q + 3, 0, none⟩ = some (.int .i64 x) ∧ W.cell? ⟨q + 4, 0, none⟩ = some (.int .i64 at') ∧ W.cell? ⟨q + 5, 0, none⟩ = some (.int .i64 f) ∧ Cel W (q + 2) c.n c.s c.a c.b c.g c.t c.d c.e ∧ Below q w0 W := by
  have hl := h.lt
  exact ⟨one_cell ((k.rest _ (by omega) (by omega)).trans h.hx), one_cell ((k.rest _ (by omega) (by omega)).trans h.ha), one_cell ((k.rest _ (by omega) (by omega)).trans h.hf), (k.rest _ (by omega) (by omega)).trans h.hc, h.below.trans (k.below (by omega) (by omega))⟩
theorem same_or {a b c : Option Obj} {p q : Prop} (h1 : a = b ∨ p) (h2 : b = c ∨ q) (hp : b = c → p → q) : a = c ∨ q := by
  rcases h2 with h2 | h2
  · rcases h1 with h1 | h1
    · exact .inl (h1.trans h2)
    · exact .inr (hp h2 h1)
  · exact .inr h2
theorem cel_or {x y : World} {q : Nat} {n s a b d e : Int} {g : Bool} {t : List UInt8} (h : Cel x q n s a b g t d e) (k : x.heap[q]? = y.heap[q]? ∨ Cel y q n s a b g t d e) : Cel y q n s a b g t d e := by
  rcases k with k | k
  · exact k.symm.trans h
  · exact k
theorem cel_of {x y : World} {q : Nat} {n s a b d e n' s' a' b' d' e' : Int} {g g' : Bool} {t t' : List UInt8} (h : Cel x q n s a b g t d e) (k : x.heap[q]? = y.heap[q]? ∨ Cel y q n' s' a' b' g' t' d' e') :
    ∃ n0 s0 a0 b0 g0 t0 d0 e0, Cel y q n0 s0 a0 b0 g0 t0 d0 e0 := by
  rcases k with k | k
  · exact ⟨_, _, _, _, _, _, _, _, k.symm.trans h⟩
  · exact ⟨_, _, _, _, _, _, _, _, k⟩
theorem only_put (W : World) (q : Nat) (n' s' a' b' : Int) (g' : Bool) (t' : List UInt8) (d' e' : Int) : Only q W ((((((((W.setCell ⟨q, 0, none⟩ (.int .i64 n')).setCell ⟨q, 1, none⟩ (.int .i64 s')).setCell ⟨q, 2, none⟩ (.int .i64 a')).setCell ⟨q, 3, none⟩ (.int .i64 b')).setCell ⟨q, 4, none⟩ (.bool g')).setCell ⟨q, 5, none⟩ (.string (text t'))).setCell ⟨q, 6, none⟩ (.int .i64 d')).setCell ⟨q, 7, none⟩ (.int .i64 e')) :=
  (((((((Only.set _ ⟨q, 0, none⟩ _).trans (Only.set _ ⟨q, 1, none⟩ _)).trans (Only.set _ ⟨q, 2, none⟩ _)).trans (Only.set _ ⟨q, 3, none⟩ _)).trans (Only.set _ ⟨q, 4, none⟩ _)).trans (Only.set _ ⟨q, 5, none⟩ _)).trans (Only.set _ ⟨q, 6, none⟩ _)).trans (Only.set _ ⟨q, 7, none⟩ _)
theorem below_drew {B : Nat} {w W : World} (h : Below B w W) : Below B w W.drew := ⟨h.os, h.tape, h.output, h.size, h.block⟩
theorem skip_c {w0 W : World} {q : Nat} {ad : Option Addr} {m cap : Nat} {x at' f : Int} {c : Cl} (h : Rd8 w0 W q ad m cap x at' f c) (hf : f ≠ 0) (o1 o2 : Obj) (v : Value) :
    Calls Tryd.prog 97 #[v, .pointer (some ⟨q + 5, 0, none⟩), .pointer (some ⟨q, 0, none⟩), .pointer (some ⟨q + 4, 0, none⟩)] ((W.alloc o1).alloc o2) (fun e9 W' => e9 = .returned (.tuple #[]) ∧ Rd8 w0 W' q ad m cap x at' f c) := by
  have h2 := h.grow (second_below W o1 o2)
  exact (nextX_c h2 hf v).mono fun e9 w9 hh => ⟨hh.1, hh.2 ▸ h2⟩
theorem rd8_start {w : World} {ad : Option Addr} {m cap : Nat} :
    Rd8 w ((((((w.alloc (.cells #[.slice ad m cap] 59)).alloc (.cells #[.int .i64 0, .int .i64 0, .int .i64 0, .int .i64 0, .bool false, .string ⟨#[]⟩, .int .i64 0, .int .i64 0] 50)).alloc (.cells #[.int .i64 0, .int .i64 0, .int .i64 0, .int .i64 0, .bool false, .string ⟨#[]⟩, .int .i64 0, .int .i64 0] 50)).alloc (.cells #[.int .i64 0] 3)).alloc (.cells #[.int .i64 0] 3)).alloc (.cells #[.int .i64 0] 28)) w.heap.size ad m cap 0 0 0 Cl.zero := by
  have keep : ∀ (W : World) (o : Obj) (q : Nat) (v : Obj), W.heap[q]? = some v → (W.alloc o).heap[q]? = some v := fun W o q v h => (Below.heap_alloc W o q (Array.getElem?_eq_some_iff.1 h).1).trans h
  have new : ∀ (W : World) (o : Obj) (q : Nat), W.heap.size = q → (W.alloc o).heap[q]? = some o := fun W o q h => by subst h; exact heap_alloc_new W o
  refine ⟨rfl, ?_, ?_, ?_, ?_, ?_, ?_, ?_⟩
  · exact (((((((Below.refl _ w).alloc (Nat.le_refl _) _).alloc (by simp) _).alloc (by simp; omega) _).alloc (by simp; omega) _).alloc (by simp; omega) _).alloc (by simp; omega) _)
  · exact keep _ _ _ _ (keep _ _ _ _ (keep _ _ _ _ (keep _ _ _ _ (keep _ _ _ _ (new _ _ _ rfl)))))
  · exact keep _ _ _ _ (keep _ _ _ _ (keep _ _ _ _ (keep _ _ _ _ (new _ _ _ (by simp)))))
  · exact keep _ _ _ _ (keep _ _ _ _ (keep _ _ _ _ (new _ _ _ (by simp))))
  · exact keep _ _ _ _ (keep _ _ _ _ (new _ _ _ (by simp)))
  · exact keep _ _ _ _ (new _ _ _ (by simp))
  · exact new _ _ _ (by simp)
theorem and1 {x : Int} (h0 : 0 ≤ x) (h1 : x ≤ 4611686018427387903) {r : Bool} (h : bit x 1 = r) : bits .and .i64 x 1 = if r = true then 1 else 0 := by rw [← h]; exact and_bit x 0 h0 h1 (by omega)
theorem and2 {x : Int} (h0 : 0 ≤ x) (h1 : x ≤ 4611686018427387903) {r : Bool} (h : bit x 2 = r) : bits .and .i64 x 2 = if r = true then 2 else 0 := by rw [← h]; exact and_bit x 1 h0 h1 (by omega)
theorem and4 {x : Int} (h0 : 0 ≤ x) (h1 : x ≤ 4611686018427387903) {r : Bool} (h : bit x 4 = r) : bits .and .i64 x 4 = if r = true then 4 else 0 := by rw [← h]; exact and_bit x 2 h0 h1 (by omega)
theorem res_tct2 {P : Program} {fn : Func} {o p q r : Tmp} {ty : TypeId} (h : fn.results = #[.tmp o, .cell p ty, .tmp q, .tmp r]) (tmps : Array Value) (w : World) (g : Nat) (t : TypeId) (cs : Array Value) (fr : Nat × Nat) (d : TypeDesc) (u v z : Value)
    (ho : tmps.getD o undef = u) (hp : tmps.getD p undef = .pointer (some ⟨g, 0, none⟩)) (hq : tmps.getD q undef = v) (hr : tmps.getD r undef = z) (hg : w.heap[g]? = some (.cells cs t fr))
    (hu : P.underlying ty = some d) (hd : (match d with | .struct _ | .array _ _ => true | _ => false) = true) (hi : (P.info? ty).map (·.size) = some cs.size) :
    (results fn tmps).run P w = .ok (.tuple #[u, .agg cs, v, z]) w := by
  have ho' : tmps[o]?.getD undef = u := by simpa using ho
  have hp' : tmps[p]?.getD undef = .pointer (some ⟨g, 0, none⟩) := by simpa using hp
  have hq' : tmps[q]?.getD undef = v := by simpa using hq
  have hr' : tmps[r]?.getD undef = z := by simpa using hr
  simp [results, h, ho', hp', hq', hr', asAddr, run_loadVar_row w g t ty cs fr d hg hu hd hi]

/-- What read tells. -/
def CReadPost (l : List UInt8) (w : World) (e : Ending) (w' : World) : Prop := ∃ (x : Int) (c : Cl) (k f : Int), e = .returned (.tuple #[.int .i64 x, .agg c.arr, .int .i64 k, .int .i64 f]) ∧ c.t.length ≤ 64 ∧
  (f = 0 → ∃ q : Nat, k = (q : Int) ∧ q ≤ l.length ∧ x = (getS l).1 ∧ readP l = some (c, q)) ∧ (f ≠ 0 → readP l = none) ∧ Below w.heap.size w w'

set_option maxRecDepth 100000 in
set_option maxHeartbeats 25600000 in
theorem cread_c {w : World} {ad : Option Addr} {m cap : Nat} {l : List UInt8} (hl : Bys w ad m cap l) : Calls Tryd.prog 80 #[.slice ad m cap] w (CReadPost l w) := by
  have hlen := hl.len
  have hmx : m ≤ 9223372036854775807 := Nat.le_trans hl.le hl.max
  have H0 := Lib.hid (rd8_start (w := w) (ad := ad) (m := m) (cap := cap))
  have HBY := Lib.hid hl
  have hok := getS_ok l
  have hbad := getS_bad l
  have HE := Lib.hid (@readP_err l)
  have hat := @readP_at l
  obtain ⟨⟨x, k0, f0⟩, hx⟩ : ∃ z, getS l = z := ⟨_, rfl⟩
  rw [hx] at hok hbad HE hat
  simp only at hok hbad HE
  have HX := Lib.hid (show (getS l).1 = x by rw [hx])
  have hx' : getS (l.drop 0) = (x, k0, f0) := hx
  have hk0 : 0 ≤ k0 ∧ k0 ≤ (m : Int) := by
    by_cases h : f0 = 0
    · obtain ⟨q, h1, h2, h3, -, -⟩ := hok h; omega
    · have := (hbad h).2; omega
  clear hl hx
  go_enter Tryd.func80, Tryd.ntmps80
  go_upto_region 4 with (fail)
  obtain ⟨q, hq⟩ : ∃ z, w.heap.size = z := ⟨_, rfl⟩
  rw [hq] at H0 ⊢
  have HQ := Lib.hid hq
  clear hq
  simp only [Nat.add_assoc, Nat.reduceAdd]
  generalize (((((w.alloc (.cells #[.slice ad m cap] 59)).alloc (.cells #[.int .i64 0, .int .i64 0, .int .i64 0, .int .i64 0, .bool false, .string ⟨#[]⟩, .int .i64 0, .int .i64 0] 50)).alloc (.cells #[.int .i64 0, .int .i64 0, .int .i64 0, .int .i64 0, .bool false, .string ⟨#[]⟩, .int .i64 0, .int .i64 0] 50)).alloc (.cells #[.int .i64 0] 3)).alloc (.cells #[.int .i64 0] 3)).alloc (.cells #[.int .i64 0] 28) = W1 at *
  have HST := Lib.hid (stepI_c (P := 0) H0.out HBY.out (Nat.zero_le _) x k0 f0 hx' hk0.1 (by omega))
  go_upto_region 5 with (first
    | (go_at_call 98; (with_reducible refine (mkI_c _ _).mono ?_); rintro e9 w8 ⟨rfl, rfl⟩)
    | (go_at_call 97; (with_reducible refine (HST.out).mono ?_); rintro e9 w9 ⟨rfl, hS⟩))
  clear HST
  by_cases hf0 : f0 = 0
  · subst hf0
    obtain ⟨q0, rfl, hq01, hq02, hx0, hx1⟩ := hok rfl
    rw [hlen] at hq02
    have hRP0 := hat rfl
    clear hok hbad HE hat hk0 hx'
    have HS := Lib.hid (show Rd8 w w9 q ad m cap x (q0 : Int) 0 ⟨0, 0, 0, 0, false, [], 0, 0⟩ by have := hS; rwa [show ((0 : Nat) : Int) + (q0 : Int) = (q0 : Int) by omega] at this)
    clear hS
    cases hg : bit x 2 with
    | false =>
      have ha2 := and2 hx0 hx1 hg
      simp only [Bool.false_eq_true, if_false] at ha2
      rw [hg] at hRP0
      have x0 := one_cell HS.out.hx
      obtain ⟨c0, c1, c2, c3, c4, c5, c6, c7⟩ := HS.out.hc.cs
      have zc := HS.out.hc.fz
      cases hw : bit x 1 with
      | false =>
        have ha1 := and1 hx0 hx1 hw
        simp only [Bool.false_eq_true, if_false] at ha1
        go_upto_region 6 with (fail)
        have HS := Lib.hid (HS.out.put_c (Only.set w9 ⟨q + 2, 4, none⟩ (.bool false)) (c' := ⟨0, 0, 0, 0, false, [], 0, 0⟩) (HS.out.hc.gn false))
        clear x0 c0 c1 c2 c3 c4 c5 c6 c7 zc
        clear ha2
        generalize w9.setCell ⟨q + 2, 4, none⟩ (.bool false) = V1 at *
        have hRP := hRP0.trans (parts_bare hw)
        change readP l = endR l x ⟨0, 0, 0, 0, false, [], 0, 0⟩ q0 at hRP
        have hPm : q0 ≤ m := hq02
        have y0 := one_cell HS.out.hx
        go_upto_region 11 with (fail)
        clear ha1 y0 hRP0
        have x0 := one_cell HS.out.hx
        obtain ⟨c0, c1, c2, c3, c4, c5, c6, c7⟩ := HS.out.hc.cs
        have zc := HS.out.hc.fz
        cases hd : bit x 4 with
        | false =>
          have ha4 := and4 hx0 hx1 hd
          simp only [Bool.false_eq_true, if_false] at ha4
          have HRD := Lib.hid (show readP l = some (⟨0, 0, 0, 0, false, [], 0, 0⟩, q0) by rw [hRP, end_no hd])
          go_upto_region 13 with (fail)
          have HK := Lib.hid (fun V (h : Only (q + 1) V1 V) => rd8_only HS.out h)
          have HE0 := Lib.hid (HS.out.hr)
          have HQL := Lib.hid HS.out.lt
          refine wp_region_flowR (fun x y => Only (q + 1) x y ∧ (x.heap[q + 1]? = y.heap[q + 1]? ∨ Cel y (q + 1) 0 0 0 0 false [] 0 0)) [none, none, some 4, none, some 6, some 7, none, none, none, none, none, none, none, none, none, none, none, none, none, none, none, none, none, none, none, none, none, none, none, none, none, none, none, none, none, none, none, none, none, none, none, none, none, none, some 0, some 1, some 2, some 3] (fun i => [undef, undef, undef, undef, .int .i64 0, undef, .int .i64 0, .int .i64 0].getD i undef) [(fun v _ => v = .int .i64 x), (fun v _ => v = .agg #[.int .i64 0, .int .i64 0, .int .i64 0, .int .i64 0, .bool false, .string (text []), .int .i64 0, .int .i64 0]), (fun v _ => v = .int .i64 (q0 : Int)), (fun v _ => v = .int .i64 0), (fun v _ => v = .int .i64 x), (fun v W => v = undef ∧ Cel W (q + 1) 0 0 0 0 false [] 0 0), (fun v _ => v = .int .i64 (q0 : Int)), (fun v _ => v = .int .i64 0)] (by kernel_rfl) (by kernel_rfl) rfl rfl rfl (fun a b c h1 h2 => ⟨h1.1.trans h2.1, same_or h1.2 h2.2 (fun h k => h.symm.trans k)⟩) ⟨⟨rfl, rfl, rfl, Nat.le_refl _, fun _ _ _ => rfl⟩, .inl rfl⟩ ?_ ?_ ?_
          · intro g hg v X Y hX hY hv
            simp only [List.mem_cons, List.not_mem_nil, or_false] at hg
            rcases hg with rfl | rfl | rfl | rfl | rfl | rfl | rfl | rfl
            all_goals first
              | exact hv
              | exact ⟨hv.1, cel_or hv.2 hY.2⟩
          · simp only [flowOpsR, and_true]
            refine ⟨?_, ?_, ?_, ?_, ?_, ?_, ?_, ?_⟩
            · intro xs W hW hn
              obtain ⟨y0, y1, y2, hcc, -⟩ := HK.out W hW.1
              clear hcc
              simp only [flowAct, List.zipWith_cons_cons, List.zipWith_nil_left]
              go_wp2_with (fail)
              exact ⟨rfl, _, rfl, ⟨⟨rfl, rfl, rfl, Nat.le_refl _, fun _ _ _ => rfl⟩, .inl rfl⟩, rfl⟩
            · intro xs W hW hn
              obtain ⟨y0, y1, y2, hcc, -⟩ := HK.out W hW.1
              obtain ⟨c0, c1, c2, c3, c4, c5, c6, c7⟩ := hcc.cs
              clear hcc
              simp only [flowAct, List.zipWith_cons_cons, List.zipWith_nil_left]
              go_wp2_with (fail)
              exact ⟨rfl, _, rfl, ⟨⟨rfl, rfl, rfl, Nat.le_refl _, fun _ _ _ => rfl⟩, .inl rfl⟩, rfl⟩
            · intro xs W hW hn
              obtain ⟨y0, y1, y2, hcc, -⟩ := HK.out W hW.1
              clear hcc
              simp only [flowAct, List.zipWith_cons_cons, List.zipWith_nil_left]
              go_wp2_with (fail)
              exact ⟨rfl, _, rfl, ⟨⟨rfl, rfl, rfl, Nat.le_refl _, fun _ _ _ => rfl⟩, .inl rfl⟩, rfl⟩
            · intro xs W hW hn
              obtain ⟨y0, y1, y2, hcc, -⟩ := HK.out W hW.1
              clear hcc
              simp only [flowAct, List.zipWith_cons_cons, List.zipWith_nil_left]
              go_wp2_with (fail)
              exact ⟨rfl, _, rfl, ⟨⟨rfl, rfl, rfl, Nat.le_refl _, fun _ _ _ => rfl⟩, .inl rfl⟩, rfl⟩
            · intro xs W hW hn
              simp [flowNeeds, Region.binds] at hn
              simp only [flowAct, List.zipWith_cons_cons, List.zipWith_nil_left]
              simp only [hn]
              go_wp2_with (fail)
              exact ⟨rfl, _, rfl, ⟨⟨rfl, rfl, rfl, Nat.le_refl _, fun _ _ _ => rfl⟩, .inl rfl⟩, rfl⟩
            · intro xs W hW hn
              simp [flowNeeds, Region.binds] at hn
              obtain ⟨n0, s0, a0, b0, g0, t0, d0, e0, hcel⟩ := cel_of HE0.out hW.2
              obtain ⟨r0, r1, r2, r3, r4, r5, r6, r7⟩ := hcel.cs
              have zr := hcel.fz
              have HCL := Lib.hid hcel
              clear hcel
              simp only [flowAct, List.zipWith_cons_cons, List.zipWith_nil_left]
              simp only [hn]
              go_wp2_with (fail)
              exact ⟨rfl, undef, rfl, ⟨only_put _ _ _ _ _ _ _ _ _ _, .inr (HCL.out.put 0 0 0 0 false [] 0 0)⟩, rfl, HCL.out.put 0 0 0 0 false [] 0 0⟩
            · intro xs W hW hn
              simp [flowNeeds, Region.binds] at hn
              simp only [flowAct, List.zipWith_cons_cons, List.zipWith_nil_left]
              simp only [hn]
              go_wp2_with (fail)
              exact ⟨rfl, _, rfl, ⟨⟨rfl, rfl, rfl, Nat.le_refl _, fun _ _ _ => rfl⟩, .inl rfl⟩, rfl⟩
            · intro xs W hW hn
              simp [flowNeeds, Region.binds] at hn
              simp only [flowAct, List.zipWith_cons_cons, List.zipWith_nil_left]
              simp only [hn]
              go_wp2_with (fail)
              exact ⟨rfl, _, rfl, ⟨⟨rfl, rfl, rfl, Nat.le_refl _, fun _ _ _ => rfl⟩, .inl rfl⟩, rfl⟩
          · intro xs W hW hall
            simp only [flowAll, and_true, Nat.zero_add, Nat.reduceAdd] at hall
            obtain ⟨-, -, -, -, e4, e5, e6, e7⟩ := hall
            simp only [flowAct, List.zipWith_cons_cons, List.zipWith_nil_left, e4, e6, e7]
            obtain ⟨-, -, -, -, hbl⟩ := HK.out W hW.1
            have HBL := Lib.hid hbl
            have HCL := Lib.hid e5.2
            clear hbl e5 e4 e6 e7
            go_wp2
            refine bodyPost_ret (res_tct2 rfl _ _ (q + 1) 50 _ (0, 0) _ (.int .i64 x) (.int .i64 (q0 : Int)) (.int .i64 0) rfl rfl rfl rfl HCL.out Tryd.underlying50 rfl (sizeC _ _ _ _ _ _ _ _)) rfl ⟨x, ⟨0, 0, 0, 0, false, [], 0, 0⟩, (q0 : Int), 0, rfl, Nat.zero_le _, fun _ => ⟨q0, rfl, by omega, HX.out.symm, HRD.out⟩, fun h => absurd rfl h, ?_⟩
            rw [HQ.out]
            exact HBL.out
        | true =>
          have ha4 := and4 hx0 hx1 hd
          simp only [if_true] at ha4
          go_upto_region 12 with (fail)
          clear x0 c0 c1 c2 c3 c4 c5 c6 c7 zc
          have hok4 := vgetS_ok (l.drop q0)
          have hbad4 := @end_bad l x ⟨0, 0, 0, 0, false, [], 0, 0⟩ q0 hd
          have hyes4 := @end_yes l x ⟨0, 0, 0, 0, false, [], 0, 0⟩ q0
          have hdl : (l.drop q0).length = m - q0 := by rw [List.length_drop, hlen]
          obtain ⟨⟨⟨d4, e4⟩, k4, f4⟩, hv4⟩ : ∃ z, vgetS (l.drop q0) = z := ⟨_, rfl⟩
          have hk4 := vget_cnt hv4
          rw [hv4] at hok4 hbad4
          simp only at hok4 hbad4
          rw [hdl] at hk4
          have HST := Lib.hid (stepD_c HS.out HBY.out hq02 d4 e4 k4 f4 hv4 hk4.1 (by omega))
          go_upto_region 13 with (first
            | (go_at_call 101; (with_reducible refine (mkV_c _ _).mono ?_); rintro e9 w8 ⟨rfl, rfl⟩)
            | (go_at_call 97; (with_reducible refine HST.out.mono ?_); rintro e9 w21 ⟨rfl, hS⟩))
          clear HST
          by_cases h4 : f4 = 0
          · subst h4
            obtain ⟨q4, rfl, hq4⟩ := hok4 rfl
            rw [hdl] at hq4
            have hR2 := hRP.trans (hyes4 hd hv4)
            obtain ⟨P4, hP4⟩ : ∃ z, q0 + q4 = z := ⟨_, rfl⟩
            have HS := Lib.hid (show Rd8 w w21 q ad m cap x (P4 : Int) 0 ⟨0, 0, 0, 0, false, [], d4, e4⟩ by have := hS; rwa [show (q0 : Int) + (q4 : Int) = (P4 : Int) by omega] at this)
            rw [hP4] at hR2
            have hPm : P4 ≤ m := by omega
            clear hS hP4 hk4 hok4 hbad4 hyes4
            have HRD := Lib.hid (show readP l = some (⟨0, 0, 0, 0, false, [], d4, e4⟩, P4) by exact hR2)
            go_upto_region 13 with (fail)
            have HK := Lib.hid (fun V (h : Only (q + 1) w21 V) => rd8_only HS.out h)
            have HE0 := Lib.hid (HS.out.hr)
            have HQL := Lib.hid HS.out.lt
            refine wp_region_flowR (fun x y => Only (q + 1) x y ∧ (x.heap[q + 1]? = y.heap[q + 1]? ∨ Cel y (q + 1) 0 0 0 0 false [] d4 e4)) [none, none, some 4, none, some 6, some 7, none, none, none, none, none, none, none, none, none, none, none, none, none, none, none, none, none, none, none, none, none, none, none, none, none, none, none, none, none, none, none, none, none, none, none, none, none, none, some 0, some 1, some 2, some 3] (fun i => [undef, undef, undef, undef, .int .i64 0, undef, .int .i64 0, .int .i64 0].getD i undef) [(fun v _ => v = .int .i64 x), (fun v _ => v = .agg #[.int .i64 0, .int .i64 0, .int .i64 0, .int .i64 0, .bool false, .string (text []), .int .i64 d4, .int .i64 e4]), (fun v _ => v = .int .i64 (P4 : Int)), (fun v _ => v = .int .i64 0), (fun v _ => v = .int .i64 x), (fun v W => v = undef ∧ Cel W (q + 1) 0 0 0 0 false [] d4 e4), (fun v _ => v = .int .i64 (P4 : Int)), (fun v _ => v = .int .i64 0)] (by kernel_rfl) (by kernel_rfl) rfl rfl rfl (fun a b c h1 h2 => ⟨h1.1.trans h2.1, same_or h1.2 h2.2 (fun h k => h.symm.trans k)⟩) ⟨⟨rfl, rfl, rfl, Nat.le_refl _, fun _ _ _ => rfl⟩, .inl rfl⟩ ?_ ?_ ?_
            · intro g hg v X Y hX hY hv
              simp only [List.mem_cons, List.not_mem_nil, or_false] at hg
              rcases hg with rfl | rfl | rfl | rfl | rfl | rfl | rfl | rfl
              all_goals first
                | exact hv
                | exact ⟨hv.1, cel_or hv.2 hY.2⟩
            · simp only [flowOpsR, and_true]
              refine ⟨?_, ?_, ?_, ?_, ?_, ?_, ?_, ?_⟩
              · intro xs W hW hn
                obtain ⟨y0, y1, y2, hcc, -⟩ := HK.out W hW.1
                clear hcc
                simp only [flowAct, List.zipWith_cons_cons, List.zipWith_nil_left]
                go_wp2_with (fail)
                exact ⟨rfl, _, rfl, ⟨⟨rfl, rfl, rfl, Nat.le_refl _, fun _ _ _ => rfl⟩, .inl rfl⟩, rfl⟩
              · intro xs W hW hn
                obtain ⟨y0, y1, y2, hcc, -⟩ := HK.out W hW.1
                obtain ⟨c0, c1, c2, c3, c4, c5, c6, c7⟩ := hcc.cs
                clear hcc
                simp only [flowAct, List.zipWith_cons_cons, List.zipWith_nil_left]
                go_wp2_with (fail)
                exact ⟨rfl, _, rfl, ⟨⟨rfl, rfl, rfl, Nat.le_refl _, fun _ _ _ => rfl⟩, .inl rfl⟩, rfl⟩
              · intro xs W hW hn
                obtain ⟨y0, y1, y2, hcc, -⟩ := HK.out W hW.1
                clear hcc
                simp only [flowAct, List.zipWith_cons_cons, List.zipWith_nil_left]
                go_wp2_with (fail)
                exact ⟨rfl, _, rfl, ⟨⟨rfl, rfl, rfl, Nat.le_refl _, fun _ _ _ => rfl⟩, .inl rfl⟩, rfl⟩
              · intro xs W hW hn
                obtain ⟨y0, y1, y2, hcc, -⟩ := HK.out W hW.1
                clear hcc
                simp only [flowAct, List.zipWith_cons_cons, List.zipWith_nil_left]
                go_wp2_with (fail)
                exact ⟨rfl, _, rfl, ⟨⟨rfl, rfl, rfl, Nat.le_refl _, fun _ _ _ => rfl⟩, .inl rfl⟩, rfl⟩
              · intro xs W hW hn
                simp [flowNeeds, Region.binds] at hn
                simp only [flowAct, List.zipWith_cons_cons, List.zipWith_nil_left]
                simp only [hn]
                go_wp2_with (fail)
                exact ⟨rfl, _, rfl, ⟨⟨rfl, rfl, rfl, Nat.le_refl _, fun _ _ _ => rfl⟩, .inl rfl⟩, rfl⟩
              · intro xs W hW hn
                simp [flowNeeds, Region.binds] at hn
                obtain ⟨n0, s0, a0, b0, g0, t0, d0, e0, hcel⟩ := cel_of HE0.out hW.2
                obtain ⟨r0, r1, r2, r3, r4, r5, r6, r7⟩ := hcel.cs
                have zr := hcel.fz
                have HCL := Lib.hid hcel
                clear hcel
                simp only [flowAct, List.zipWith_cons_cons, List.zipWith_nil_left]
                simp only [hn]
                go_wp2_with (fail)
                exact ⟨rfl, undef, rfl, ⟨only_put _ _ _ _ _ _ _ _ _ _, .inr (HCL.out.put 0 0 0 0 false [] d4 e4)⟩, rfl, HCL.out.put 0 0 0 0 false [] d4 e4⟩
              · intro xs W hW hn
                simp [flowNeeds, Region.binds] at hn
                simp only [flowAct, List.zipWith_cons_cons, List.zipWith_nil_left]
                simp only [hn]
                go_wp2_with (fail)
                exact ⟨rfl, _, rfl, ⟨⟨rfl, rfl, rfl, Nat.le_refl _, fun _ _ _ => rfl⟩, .inl rfl⟩, rfl⟩
              · intro xs W hW hn
                simp [flowNeeds, Region.binds] at hn
                simp only [flowAct, List.zipWith_cons_cons, List.zipWith_nil_left]
                simp only [hn]
                go_wp2_with (fail)
                exact ⟨rfl, _, rfl, ⟨⟨rfl, rfl, rfl, Nat.le_refl _, fun _ _ _ => rfl⟩, .inl rfl⟩, rfl⟩
            · intro xs W hW hall
              simp only [flowAll, and_true, Nat.zero_add, Nat.reduceAdd] at hall
              obtain ⟨-, -, -, -, e4, e5, e6, e7⟩ := hall
              simp only [flowAct, List.zipWith_cons_cons, List.zipWith_nil_left, e4, e6, e7]
              obtain ⟨-, -, -, -, hbl⟩ := HK.out W hW.1
              have HBL := Lib.hid hbl
              have HCL := Lib.hid e5.2
              clear hbl e5 e4 e6 e7
              go_wp2
              refine bodyPost_ret (res_tct2 rfl _ _ (q + 1) 50 _ (0, 0) _ (.int .i64 x) (.int .i64 (P4 : Int)) (.int .i64 0) rfl rfl rfl rfl HCL.out Tryd.underlying50 rfl (sizeC _ _ _ _ _ _ _ _)) rfl ⟨x, ⟨0, 0, 0, 0, false, [], d4, e4⟩, (P4 : Int), 0, rfl, Nat.zero_le _, fun _ => ⟨P4, rfl, by omega, HX.out.symm, HRD.out⟩, fun h => absurd rfl h, ?_⟩
              rw [HQ.out]
              exact HBL.out
          · have hfn := Lib.hid h4
            have hR2 := hRP.trans (hbad4 h4)
            have HS := Lib.hid hS
            clear hS hk4 hok4 hbad4 hyes4 h4
            have HRD := Lib.hid (show readP l = none by exact hR2)
            go_upto_region 13 with (fail)
            have HK := Lib.hid (fun V (h : Only (q + 1) w21 V) => rd8_only HS.out h)
            have HE0 := Lib.hid (HS.out.hr)
            have HQL := Lib.hid HS.out.lt
            refine wp_region_flowR (fun x y => Only (q + 1) x y ∧ (x.heap[q + 1]? = y.heap[q + 1]? ∨ Cel y (q + 1) 0 0 0 0 false [] d4 e4)) [none, none, some 4, none, some 6, some 7, none, none, none, none, none, none, none, none, none, none, none, none, none, none, none, none, none, none, none, none, none, none, none, none, none, none, none, none, none, none, none, none, none, none, none, none, none, none, some 0, some 1, some 2, some 3] (fun i => [undef, undef, undef, undef, .int .i64 0, undef, .int .i64 0, .int .i64 0].getD i undef) [(fun v _ => v = .int .i64 x), (fun v _ => v = .agg #[.int .i64 0, .int .i64 0, .int .i64 0, .int .i64 0, .bool false, .string (text []), .int .i64 d4, .int .i64 e4]), (fun v _ => v = .int .i64 ((q0 : Int) + k4)), (fun v _ => v = .int .i64 f4), (fun v _ => v = .int .i64 x), (fun v W => v = undef ∧ Cel W (q + 1) 0 0 0 0 false [] d4 e4), (fun v _ => v = .int .i64 ((q0 : Int) + k4)), (fun v _ => v = .int .i64 f4)] (by kernel_rfl) (by kernel_rfl) rfl rfl rfl (fun a b c h1 h2 => ⟨h1.1.trans h2.1, same_or h1.2 h2.2 (fun h k => h.symm.trans k)⟩) ⟨⟨rfl, rfl, rfl, Nat.le_refl _, fun _ _ _ => rfl⟩, .inl rfl⟩ ?_ ?_ ?_
            · intro g hg v X Y hX hY hv
              simp only [List.mem_cons, List.not_mem_nil, or_false] at hg
              rcases hg with rfl | rfl | rfl | rfl | rfl | rfl | rfl | rfl
              all_goals first
                | exact hv
                | exact ⟨hv.1, cel_or hv.2 hY.2⟩
            · simp only [flowOpsR, and_true]
              refine ⟨?_, ?_, ?_, ?_, ?_, ?_, ?_, ?_⟩
              · intro xs W hW hn
                obtain ⟨y0, y1, y2, hcc, -⟩ := HK.out W hW.1
                clear hcc
                simp only [flowAct, List.zipWith_cons_cons, List.zipWith_nil_left]
                go_wp2_with (fail)
                exact ⟨rfl, _, rfl, ⟨⟨rfl, rfl, rfl, Nat.le_refl _, fun _ _ _ => rfl⟩, .inl rfl⟩, rfl⟩
              · intro xs W hW hn
                obtain ⟨y0, y1, y2, hcc, -⟩ := HK.out W hW.1
                obtain ⟨c0, c1, c2, c3, c4, c5, c6, c7⟩ := hcc.cs
                clear hcc
                simp only [flowAct, List.zipWith_cons_cons, List.zipWith_nil_left]
                go_wp2_with (fail)
                exact ⟨rfl, _, rfl, ⟨⟨rfl, rfl, rfl, Nat.le_refl _, fun _ _ _ => rfl⟩, .inl rfl⟩, rfl⟩
              · intro xs W hW hn
                obtain ⟨y0, y1, y2, hcc, -⟩ := HK.out W hW.1
                clear hcc
                simp only [flowAct, List.zipWith_cons_cons, List.zipWith_nil_left]
                go_wp2_with (fail)
                exact ⟨rfl, _, rfl, ⟨⟨rfl, rfl, rfl, Nat.le_refl _, fun _ _ _ => rfl⟩, .inl rfl⟩, rfl⟩
              · intro xs W hW hn
                obtain ⟨y0, y1, y2, hcc, -⟩ := HK.out W hW.1
                clear hcc
                simp only [flowAct, List.zipWith_cons_cons, List.zipWith_nil_left]
                go_wp2_with (fail)
                exact ⟨rfl, _, rfl, ⟨⟨rfl, rfl, rfl, Nat.le_refl _, fun _ _ _ => rfl⟩, .inl rfl⟩, rfl⟩
              · intro xs W hW hn
                simp [flowNeeds, Region.binds] at hn
                simp only [flowAct, List.zipWith_cons_cons, List.zipWith_nil_left]
                simp only [hn]
                go_wp2_with (fail)
                exact ⟨rfl, _, rfl, ⟨⟨rfl, rfl, rfl, Nat.le_refl _, fun _ _ _ => rfl⟩, .inl rfl⟩, rfl⟩
              · intro xs W hW hn
                simp [flowNeeds, Region.binds] at hn
                obtain ⟨n0, s0, a0, b0, g0, t0, d0, e0, hcel⟩ := cel_of HE0.out hW.2
                obtain ⟨r0, r1, r2, r3, r4, r5, r6, r7⟩ := hcel.cs
                have zr := hcel.fz
                have HCL := Lib.hid hcel
                clear hcel
                simp only [flowAct, List.zipWith_cons_cons, List.zipWith_nil_left]
                simp only [hn]
                go_wp2_with (fail)
                exact ⟨rfl, undef, rfl, ⟨only_put _ _ _ _ _ _ _ _ _ _, .inr (HCL.out.put 0 0 0 0 false [] d4 e4)⟩, rfl, HCL.out.put 0 0 0 0 false [] d4 e4⟩
              · intro xs W hW hn
                simp [flowNeeds, Region.binds] at hn
                simp only [flowAct, List.zipWith_cons_cons, List.zipWith_nil_left]
                simp only [hn]
                go_wp2_with (fail)
                exact ⟨rfl, _, rfl, ⟨⟨rfl, rfl, rfl, Nat.le_refl _, fun _ _ _ => rfl⟩, .inl rfl⟩, rfl⟩
              · intro xs W hW hn
                simp [flowNeeds, Region.binds] at hn
                simp only [flowAct, List.zipWith_cons_cons, List.zipWith_nil_left]
                simp only [hn]
                go_wp2_with (fail)
                exact ⟨rfl, _, rfl, ⟨⟨rfl, rfl, rfl, Nat.le_refl _, fun _ _ _ => rfl⟩, .inl rfl⟩, rfl⟩
            · intro xs W hW hall
              simp only [flowAll, and_true, Nat.zero_add, Nat.reduceAdd] at hall
              obtain ⟨-, -, -, -, e4, e5, e6, e7⟩ := hall
              simp only [flowAct, List.zipWith_cons_cons, List.zipWith_nil_left, e4, e6, e7]
              obtain ⟨-, -, -, -, hbl⟩ := HK.out W hW.1
              have HBL := Lib.hid hbl
              have HCL := Lib.hid e5.2
              clear hbl e5 e4 e6 e7
              go_wp2
              refine bodyPost_ret (res_tct2 rfl _ _ (q + 1) 50 _ (0, 0) _ (.int .i64 x) (.int .i64 ((q0 : Int) + k4)) (.int .i64 f4) rfl rfl rfl rfl HCL.out Tryd.underlying50 rfl (sizeC _ _ _ _ _ _ _ _)) rfl ⟨x, ⟨0, 0, 0, 0, false, [], d4, e4⟩, ((q0 : Int) + k4), f4, rfl, Nat.zero_le _, fun h => absurd h hfn.out, fun _ => HRD.out, ?_⟩
              rw [HQ.out]
              exact HBL.out
      | true =>
        have ha1 := and1 hx0 hx1 hw
        simp only [if_true] at ha1
        go_upto_region 6 with (fail)
        have HS := Lib.hid (HS.out.put_c (Only.set w9 ⟨q + 2, 4, none⟩ (.bool false)) (c' := ⟨0, 0, 0, 0, false, [], 0, 0⟩) (HS.out.hc.gn false))
        clear x0 c0 c1 c2 c3 c4 c5 c6 c7 zc
        clear ha2
        generalize w9.setCell ⟨q + 2, 4, none⟩ (.bool false) = V1 at *
        have y0 := one_cell HS.out.hx
        go_upto_region 7 with (fail)
        clear ha1 y0
        have hok1 := sgetS_ok (l.drop q0)
        have hd1 : (l.drop q0).length = m - q0 := by rw [List.length_drop, hlen]
        have hm1 := fun g => @mid_stamp l q0 g
        obtain ⟨⟨⟨n, s⟩, k1, f1⟩, hv1⟩ : ∃ z, sgetS (l.drop q0) = z := ⟨_, rfl⟩
        have hk1 := sget_cnt hv1
        rw [hv1] at hok1 hm1
        simp only at hok1 hm1
        rw [hd1] at hk1
        have HST := Lib.hid (stepS_c HS.out HBY.out hq02 n s k1 f1 hv1 hk1.1 (by omega))
        go_upto_region 8 with (first
          | (go_at_call 99; (with_reducible refine (mkS_c _ _).mono ?_); rintro e9 w8 ⟨rfl, rfl⟩)
          | (go_at_call 97; (with_reducible refine HST.out.mono ?_); rintro e9 w2 ⟨rfl, hS⟩))
        clear HST
        by_cases h1 : f1 = 0
        · subst h1
          obtain ⟨q1, rfl, hq1⟩ := hok1 rfl
          rw [hd1] at hq1
          obtain ⟨P1, hP1⟩ : ∃ z, q0 + q1 = z := ⟨_, rfl⟩
          have hP1m : P1 ≤ m := by omega
          have HS := Lib.hid (show Rd8 w w2 q ad m cap x (P1 : Int) 0 ⟨n, s, 0, 0, false, [], 0, 0⟩ by have := hS; rwa [show (q0 : Int) + (q1 : Int) = (P1 : Int) by omega] at this)
          clear hS hm1 hok1 hk1 hd1
          have hm2 := fun g => @mid_vec l q0 q1 g n s hv1
          have hv1b := hv1
          have hok2 := vgetS_ok (l.drop P1)
          have hd2 : (l.drop P1).length = m - P1 := by rw [List.length_drop, hlen]
          rw [hP1] at hm2
          obtain ⟨⟨⟨a, b⟩, k2, f2⟩, hv2⟩ : ∃ z, vgetS (l.drop P1) = z := ⟨_, rfl⟩
          have hk2 := vget_cnt hv2
          rw [hv2] at hok2 hm2
          simp only at hok2 hm2
          rw [hd2] at hk2
          have HST := Lib.hid (stepV_c HS.out HBY.out hP1m a b k2 f2 hv2 hk2.1 (by omega))
          go_upto_region 9 with (first
            | (go_at_call 101; (with_reducible refine (mkV_c _ _).mono ?_); rintro e9 w8 ⟨rfl, rfl⟩)
            | (go_at_call 97; (with_reducible refine HST.out.mono ?_); rintro e9 w3 ⟨rfl, hS⟩))
          clear HST
          by_cases h2 : f2 = 0
          · subst h2
            obtain ⟨q2, rfl, hq2⟩ := hok2 rfl
            rw [hd2] at hq2
            obtain ⟨P2, hP2⟩ : ∃ z, P1 + q2 = z := ⟨_, rfl⟩
            have hP2m : P2 ≤ m := by omega
            have HS := Lib.hid (show Rd8 w w3 q ad m cap x (P2 : Int) 0 ⟨n, s, a, b, false, [], 0, 0⟩ by have := hS; rwa [show (P1 : Int) + (q2 : Int) = (P2 : Int) by omega] at this)
            clear hS hm2 hok2 hk2 hd2
            have hv2b : vgetS (l.drop (q0 + q1)) = ((a, b), (q2 : Int), 0) := by rw [hP1]; exact hv2
            have x0 := one_cell HS.out.hx
            obtain ⟨c0, c1, c2, c3, c4, c5, c6, c7⟩ := HS.out.hc.cs
            have zc := HS.out.hc.fz
            go_upto_region 10 with (fail)
            clear x0 c0 c1 c2 c3 c4 c5 c6 c7 zc
            have hm4 := @mid_text l q0 q1 q2 n s a b hv1b hv2b
            have hm5 := fun t q3 => @mid_all l t q0 q1 q2 q3 n s a b hv1b hv2b
            rw [hP1, hP2] at hm4 hm5
            have hok3 := textS_in (l.drop P2) 64
            have hd3 : (l.drop P2).length = m - P2 := by rw [List.length_drop, hlen]
            obtain ⟨⟨t, k3, f3⟩, hv3⟩ : ∃ z, textS (l.drop P2) 64 = z := ⟨_, rfl⟩
            have hk3 := text_cnt hv3
            rw [hv3] at hok3 hm4
            simp only at hok3 hm4
            rw [hd3] at hk3
            have HST := Lib.hid (stepT_c HS.out HBY.out hP2m t k3 f3 hv3 hk3.1 (by omega))
            go_upto_region 11 with (first
              | (go_at_call 103; (with_reducible refine (mkT_c _ _).mono ?_); rintro e9 w8 ⟨rfl, rfl⟩)
              | (go_at_call 97; (with_reducible refine HST.out.mono ?_); rintro e9 w4 ⟨rfl, hS⟩))
            clear HST
            by_cases h3 : f3 = 0
            · subst h3
              obtain ⟨q3, rfl, hq3, ht3⟩ := hok3 rfl
              rw [hd3] at hq3
              have HTL := Lib.hid (show t.length ≤ 64 by omega)
              obtain ⟨P3, hP3⟩ : ∃ z, P2 + q3 = z := ⟨_, rfl⟩
              have hP3m : P3 ≤ m := by omega
              have hPm := hP3m
              have HS := Lib.hid (show Rd8 w w4 q ad m cap x (P3 : Int) 0 ⟨n, s, a, b, false, t, 0, 0⟩ by have := hS; rwa [show (P2 : Int) + (q3 : Int) = (P3 : Int) by omega] at this)
              have hRP := hRP0.trans (parts_some hw (hm5 t q3 hv3))
              rw [hP3] at hRP
              clear hS hm4 hm5 hok3 hk3 hd3 hRP0 ht3 hP3
              have x0 := one_cell HS.out.hx
              obtain ⟨c0, c1, c2, c3, c4, c5, c6, c7⟩ := HS.out.hc.cs
              have zc := HS.out.hc.fz
              cases hd : bit x 4 with
              | false =>
                have ha4 := and4 hx0 hx1 hd
                simp only [Bool.false_eq_true, if_false] at ha4
                have HRD := Lib.hid (show readP l = some (⟨n, s, a, b, false, t, 0, 0⟩, P3) by rw [hRP, end_no hd])
                go_upto_region 13 with (fail)
                have HK := Lib.hid (fun V (h : Only (q + 1) w4 V) => rd8_only HS.out h)
                have HE0 := Lib.hid (HS.out.hr)
                have HQL := Lib.hid HS.out.lt
                refine wp_region_flowR (fun x y => Only (q + 1) x y ∧ (x.heap[q + 1]? = y.heap[q + 1]? ∨ Cel y (q + 1) n s a b false t 0 0)) [none, none, some 4, none, some 6, some 7, none, none, none, none, none, none, none, none, none, none, none, none, none, none, none, none, none, none, none, none, none, none, none, none, none, none, none, none, none, none, none, none, none, none, none, none, none, none, some 0, some 1, some 2, some 3] (fun i => [undef, undef, undef, undef, .int .i64 0, undef, .int .i64 0, .int .i64 0].getD i undef) [(fun v _ => v = .int .i64 x), (fun v _ => v = .agg #[.int .i64 n, .int .i64 s, .int .i64 a, .int .i64 b, .bool false, .string (text t), .int .i64 0, .int .i64 0]), (fun v _ => v = .int .i64 (P3 : Int)), (fun v _ => v = .int .i64 0), (fun v _ => v = .int .i64 x), (fun v W => v = undef ∧ Cel W (q + 1) n s a b false t 0 0), (fun v _ => v = .int .i64 (P3 : Int)), (fun v _ => v = .int .i64 0)] (by kernel_rfl) (by kernel_rfl) rfl rfl rfl (fun a b c h1 h2 => ⟨h1.1.trans h2.1, same_or h1.2 h2.2 (fun h k => h.symm.trans k)⟩) ⟨⟨rfl, rfl, rfl, Nat.le_refl _, fun _ _ _ => rfl⟩, .inl rfl⟩ ?_ ?_ ?_
                · intro g hg v X Y hX hY hv
                  simp only [List.mem_cons, List.not_mem_nil, or_false] at hg
                  rcases hg with rfl | rfl | rfl | rfl | rfl | rfl | rfl | rfl
                  all_goals first
                    | exact hv
                    | exact ⟨hv.1, cel_or hv.2 hY.2⟩
                · simp only [flowOpsR, and_true]
                  refine ⟨?_, ?_, ?_, ?_, ?_, ?_, ?_, ?_⟩
                  · intro xs W hW hn
                    obtain ⟨y0, y1, y2, hcc, -⟩ := HK.out W hW.1
                    clear hcc
                    simp only [flowAct, List.zipWith_cons_cons, List.zipWith_nil_left]
                    go_wp2_with (fail)
                    exact ⟨rfl, _, rfl, ⟨⟨rfl, rfl, rfl, Nat.le_refl _, fun _ _ _ => rfl⟩, .inl rfl⟩, rfl⟩
                  · intro xs W hW hn
                    obtain ⟨y0, y1, y2, hcc, -⟩ := HK.out W hW.1
                    obtain ⟨c0, c1, c2, c3, c4, c5, c6, c7⟩ := hcc.cs
                    clear hcc
                    simp only [flowAct, List.zipWith_cons_cons, List.zipWith_nil_left]
                    go_wp2_with (fail)
                    exact ⟨rfl, _, rfl, ⟨⟨rfl, rfl, rfl, Nat.le_refl _, fun _ _ _ => rfl⟩, .inl rfl⟩, rfl⟩
                  · intro xs W hW hn
                    obtain ⟨y0, y1, y2, hcc, -⟩ := HK.out W hW.1
                    clear hcc
                    simp only [flowAct, List.zipWith_cons_cons, List.zipWith_nil_left]
                    go_wp2_with (fail)
                    exact ⟨rfl, _, rfl, ⟨⟨rfl, rfl, rfl, Nat.le_refl _, fun _ _ _ => rfl⟩, .inl rfl⟩, rfl⟩
                  · intro xs W hW hn
                    obtain ⟨y0, y1, y2, hcc, -⟩ := HK.out W hW.1
                    clear hcc
                    simp only [flowAct, List.zipWith_cons_cons, List.zipWith_nil_left]
                    go_wp2_with (fail)
                    exact ⟨rfl, _, rfl, ⟨⟨rfl, rfl, rfl, Nat.le_refl _, fun _ _ _ => rfl⟩, .inl rfl⟩, rfl⟩
                  · intro xs W hW hn
                    simp [flowNeeds, Region.binds] at hn
                    simp only [flowAct, List.zipWith_cons_cons, List.zipWith_nil_left]
                    simp only [hn]
                    go_wp2_with (fail)
                    exact ⟨rfl, _, rfl, ⟨⟨rfl, rfl, rfl, Nat.le_refl _, fun _ _ _ => rfl⟩, .inl rfl⟩, rfl⟩
                  · intro xs W hW hn
                    simp [flowNeeds, Region.binds] at hn
                    obtain ⟨n0, s0, a0, b0, g0, t0, d0, e0, hcel⟩ := cel_of HE0.out hW.2
                    obtain ⟨r0, r1, r2, r3, r4, r5, r6, r7⟩ := hcel.cs
                    have zr := hcel.fz
                    have HCL := Lib.hid hcel
                    clear hcel
                    simp only [flowAct, List.zipWith_cons_cons, List.zipWith_nil_left]
                    simp only [hn]
                    go_wp2_with (fail)
                    exact ⟨rfl, undef, rfl, ⟨only_put _ _ _ _ _ _ _ _ _ _, .inr (HCL.out.put n s a b false t 0 0)⟩, rfl, HCL.out.put n s a b false t 0 0⟩
                  · intro xs W hW hn
                    simp [flowNeeds, Region.binds] at hn
                    simp only [flowAct, List.zipWith_cons_cons, List.zipWith_nil_left]
                    simp only [hn]
                    go_wp2_with (fail)
                    exact ⟨rfl, _, rfl, ⟨⟨rfl, rfl, rfl, Nat.le_refl _, fun _ _ _ => rfl⟩, .inl rfl⟩, rfl⟩
                  · intro xs W hW hn
                    simp [flowNeeds, Region.binds] at hn
                    simp only [flowAct, List.zipWith_cons_cons, List.zipWith_nil_left]
                    simp only [hn]
                    go_wp2_with (fail)
                    exact ⟨rfl, _, rfl, ⟨⟨rfl, rfl, rfl, Nat.le_refl _, fun _ _ _ => rfl⟩, .inl rfl⟩, rfl⟩
                · intro xs W hW hall
                  simp only [flowAll, and_true, Nat.zero_add, Nat.reduceAdd] at hall
                  obtain ⟨-, -, -, -, e4, e5, e6, e7⟩ := hall
                  simp only [flowAct, List.zipWith_cons_cons, List.zipWith_nil_left, e4, e6, e7]
                  obtain ⟨-, -, -, -, hbl⟩ := HK.out W hW.1
                  have HBL := Lib.hid hbl
                  have HCL := Lib.hid e5.2
                  clear hbl e5 e4 e6 e7
                  go_wp2
                  refine bodyPost_ret (res_tct2 rfl _ _ (q + 1) 50 _ (0, 0) _ (.int .i64 x) (.int .i64 (P3 : Int)) (.int .i64 0) rfl rfl rfl rfl HCL.out Tryd.underlying50 rfl (sizeC _ _ _ _ _ _ _ _)) rfl ⟨x, ⟨n, s, a, b, false, t, 0, 0⟩, (P3 : Int), 0, rfl, HTL.out, fun _ => ⟨P3, rfl, by omega, HX.out.symm, HRD.out⟩, fun h => absurd rfl h, ?_⟩
                  rw [HQ.out]
                  exact HBL.out
              | true =>
                have ha4 := and4 hx0 hx1 hd
                simp only [if_true] at ha4
                go_upto_region 12 with (fail)
                clear x0 c0 c1 c2 c3 c4 c5 c6 c7 zc
                have hok4 := vgetS_ok (l.drop P3)
                have hbad4 := @end_bad l x ⟨n, s, a, b, false, t, 0, 0⟩ P3 hd
                have hyes4 := @end_yes l x ⟨n, s, a, b, false, t, 0, 0⟩ P3
                have hdl : (l.drop P3).length = m - P3 := by rw [List.length_drop, hlen]
                obtain ⟨⟨⟨d4, e4⟩, k4, f4⟩, hv4⟩ : ∃ z, vgetS (l.drop P3) = z := ⟨_, rfl⟩
                have hk4 := vget_cnt hv4
                rw [hv4] at hok4 hbad4
                simp only at hok4 hbad4
                rw [hdl] at hk4
                have HST := Lib.hid (stepD_c HS.out HBY.out hP3m d4 e4 k4 f4 hv4 hk4.1 (by omega))
                go_upto_region 13 with (first
                  | (go_at_call 101; (with_reducible refine (mkV_c _ _).mono ?_); rintro e9 w8 ⟨rfl, rfl⟩)
                  | (go_at_call 97; (with_reducible refine HST.out.mono ?_); rintro e9 w22 ⟨rfl, hS⟩))
                clear HST
                by_cases h4 : f4 = 0
                · subst h4
                  obtain ⟨q4, rfl, hq4⟩ := hok4 rfl
                  rw [hdl] at hq4
                  have hR2 := hRP.trans (hyes4 hd hv4)
                  obtain ⟨P4, hP4⟩ : ∃ z, P3 + q4 = z := ⟨_, rfl⟩
                  have HS := Lib.hid (show Rd8 w w22 q ad m cap x (P4 : Int) 0 ⟨n, s, a, b, false, t, d4, e4⟩ by have := hS; rwa [show (P3 : Int) + (q4 : Int) = (P4 : Int) by omega] at this)
                  rw [hP4] at hR2
                  have hPm : P4 ≤ m := by omega
                  clear hS hP4 hk4 hok4 hbad4 hyes4
                  have HRD := Lib.hid (show readP l = some (⟨n, s, a, b, false, t, d4, e4⟩, P4) by exact hR2)
                  go_upto_region 13 with (fail)
                  have HK := Lib.hid (fun V (h : Only (q + 1) w22 V) => rd8_only HS.out h)
                  have HE0 := Lib.hid (HS.out.hr)
                  have HQL := Lib.hid HS.out.lt
                  refine wp_region_flowR (fun x y => Only (q + 1) x y ∧ (x.heap[q + 1]? = y.heap[q + 1]? ∨ Cel y (q + 1) n s a b false t d4 e4)) [none, none, some 4, none, some 6, some 7, none, none, none, none, none, none, none, none, none, none, none, none, none, none, none, none, none, none, none, none, none, none, none, none, none, none, none, none, none, none, none, none, none, none, none, none, none, none, some 0, some 1, some 2, some 3] (fun i => [undef, undef, undef, undef, .int .i64 0, undef, .int .i64 0, .int .i64 0].getD i undef) [(fun v _ => v = .int .i64 x), (fun v _ => v = .agg #[.int .i64 n, .int .i64 s, .int .i64 a, .int .i64 b, .bool false, .string (text t), .int .i64 d4, .int .i64 e4]), (fun v _ => v = .int .i64 (P4 : Int)), (fun v _ => v = .int .i64 0), (fun v _ => v = .int .i64 x), (fun v W => v = undef ∧ Cel W (q + 1) n s a b false t d4 e4), (fun v _ => v = .int .i64 (P4 : Int)), (fun v _ => v = .int .i64 0)] (by kernel_rfl) (by kernel_rfl) rfl rfl rfl (fun a b c h1 h2 => ⟨h1.1.trans h2.1, same_or h1.2 h2.2 (fun h k => h.symm.trans k)⟩) ⟨⟨rfl, rfl, rfl, Nat.le_refl _, fun _ _ _ => rfl⟩, .inl rfl⟩ ?_ ?_ ?_
                  · intro g hg v X Y hX hY hv
                    simp only [List.mem_cons, List.not_mem_nil, or_false] at hg
                    rcases hg with rfl | rfl | rfl | rfl | rfl | rfl | rfl | rfl
                    all_goals first
                      | exact hv
                      | exact ⟨hv.1, cel_or hv.2 hY.2⟩
                  · simp only [flowOpsR, and_true]
                    refine ⟨?_, ?_, ?_, ?_, ?_, ?_, ?_, ?_⟩
                    · intro xs W hW hn
                      obtain ⟨y0, y1, y2, hcc, -⟩ := HK.out W hW.1
                      clear hcc
                      simp only [flowAct, List.zipWith_cons_cons, List.zipWith_nil_left]
                      go_wp2_with (fail)
                      exact ⟨rfl, _, rfl, ⟨⟨rfl, rfl, rfl, Nat.le_refl _, fun _ _ _ => rfl⟩, .inl rfl⟩, rfl⟩
                    · intro xs W hW hn
                      obtain ⟨y0, y1, y2, hcc, -⟩ := HK.out W hW.1
                      obtain ⟨c0, c1, c2, c3, c4, c5, c6, c7⟩ := hcc.cs
                      clear hcc
                      simp only [flowAct, List.zipWith_cons_cons, List.zipWith_nil_left]
                      go_wp2_with (fail)
                      exact ⟨rfl, _, rfl, ⟨⟨rfl, rfl, rfl, Nat.le_refl _, fun _ _ _ => rfl⟩, .inl rfl⟩, rfl⟩
                    · intro xs W hW hn
                      obtain ⟨y0, y1, y2, hcc, -⟩ := HK.out W hW.1
                      clear hcc
                      simp only [flowAct, List.zipWith_cons_cons, List.zipWith_nil_left]
                      go_wp2_with (fail)
                      exact ⟨rfl, _, rfl, ⟨⟨rfl, rfl, rfl, Nat.le_refl _, fun _ _ _ => rfl⟩, .inl rfl⟩, rfl⟩
                    · intro xs W hW hn
                      obtain ⟨y0, y1, y2, hcc, -⟩ := HK.out W hW.1
                      clear hcc
                      simp only [flowAct, List.zipWith_cons_cons, List.zipWith_nil_left]
                      go_wp2_with (fail)
                      exact ⟨rfl, _, rfl, ⟨⟨rfl, rfl, rfl, Nat.le_refl _, fun _ _ _ => rfl⟩, .inl rfl⟩, rfl⟩
                    · intro xs W hW hn
                      simp [flowNeeds, Region.binds] at hn
                      simp only [flowAct, List.zipWith_cons_cons, List.zipWith_nil_left]
                      simp only [hn]
                      go_wp2_with (fail)
                      exact ⟨rfl, _, rfl, ⟨⟨rfl, rfl, rfl, Nat.le_refl _, fun _ _ _ => rfl⟩, .inl rfl⟩, rfl⟩
                    · intro xs W hW hn
                      simp [flowNeeds, Region.binds] at hn
                      obtain ⟨n0, s0, a0, b0, g0, t0, d0, e0, hcel⟩ := cel_of HE0.out hW.2
                      obtain ⟨r0, r1, r2, r3, r4, r5, r6, r7⟩ := hcel.cs
                      have zr := hcel.fz
                      have HCL := Lib.hid hcel
                      clear hcel
                      simp only [flowAct, List.zipWith_cons_cons, List.zipWith_nil_left]
                      simp only [hn]
                      go_wp2_with (fail)
                      exact ⟨rfl, undef, rfl, ⟨only_put _ _ _ _ _ _ _ _ _ _, .inr (HCL.out.put n s a b false t d4 e4)⟩, rfl, HCL.out.put n s a b false t d4 e4⟩
                    · intro xs W hW hn
                      simp [flowNeeds, Region.binds] at hn
                      simp only [flowAct, List.zipWith_cons_cons, List.zipWith_nil_left]
                      simp only [hn]
                      go_wp2_with (fail)
                      exact ⟨rfl, _, rfl, ⟨⟨rfl, rfl, rfl, Nat.le_refl _, fun _ _ _ => rfl⟩, .inl rfl⟩, rfl⟩
                    · intro xs W hW hn
                      simp [flowNeeds, Region.binds] at hn
                      simp only [flowAct, List.zipWith_cons_cons, List.zipWith_nil_left]
                      simp only [hn]
                      go_wp2_with (fail)
                      exact ⟨rfl, _, rfl, ⟨⟨rfl, rfl, rfl, Nat.le_refl _, fun _ _ _ => rfl⟩, .inl rfl⟩, rfl⟩
                  · intro xs W hW hall
                    simp only [flowAll, and_true, Nat.zero_add, Nat.reduceAdd] at hall
                    obtain ⟨-, -, -, -, e4, e5, e6, e7⟩ := hall
                    simp only [flowAct, List.zipWith_cons_cons, List.zipWith_nil_left, e4, e6, e7]
                    obtain ⟨-, -, -, -, hbl⟩ := HK.out W hW.1
                    have HBL := Lib.hid hbl
                    have HCL := Lib.hid e5.2
                    clear hbl e5 e4 e6 e7
                    go_wp2
                    refine bodyPost_ret (res_tct2 rfl _ _ (q + 1) 50 _ (0, 0) _ (.int .i64 x) (.int .i64 (P4 : Int)) (.int .i64 0) rfl rfl rfl rfl HCL.out Tryd.underlying50 rfl (sizeC _ _ _ _ _ _ _ _)) rfl ⟨x, ⟨n, s, a, b, false, t, d4, e4⟩, (P4 : Int), 0, rfl, HTL.out, fun _ => ⟨P4, rfl, by omega, HX.out.symm, HRD.out⟩, fun h => absurd rfl h, ?_⟩
                    rw [HQ.out]
                    exact HBL.out
                · have hfn := Lib.hid h4
                  have hR2 := hRP.trans (hbad4 h4)
                  have HS := Lib.hid hS
                  clear hS hk4 hok4 hbad4 hyes4 h4
                  have HRD := Lib.hid (show readP l = none by exact hR2)
                  go_upto_region 13 with (fail)
                  have HK := Lib.hid (fun V (h : Only (q + 1) w22 V) => rd8_only HS.out h)
                  have HE0 := Lib.hid (HS.out.hr)
                  have HQL := Lib.hid HS.out.lt
                  refine wp_region_flowR (fun x y => Only (q + 1) x y ∧ (x.heap[q + 1]? = y.heap[q + 1]? ∨ Cel y (q + 1) n s a b false t d4 e4)) [none, none, some 4, none, some 6, some 7, none, none, none, none, none, none, none, none, none, none, none, none, none, none, none, none, none, none, none, none, none, none, none, none, none, none, none, none, none, none, none, none, none, none, none, none, none, none, some 0, some 1, some 2, some 3] (fun i => [undef, undef, undef, undef, .int .i64 0, undef, .int .i64 0, .int .i64 0].getD i undef) [(fun v _ => v = .int .i64 x), (fun v _ => v = .agg #[.int .i64 n, .int .i64 s, .int .i64 a, .int .i64 b, .bool false, .string (text t), .int .i64 d4, .int .i64 e4]), (fun v _ => v = .int .i64 ((P3 : Int) + k4)), (fun v _ => v = .int .i64 f4), (fun v _ => v = .int .i64 x), (fun v W => v = undef ∧ Cel W (q + 1) n s a b false t d4 e4), (fun v _ => v = .int .i64 ((P3 : Int) + k4)), (fun v _ => v = .int .i64 f4)] (by kernel_rfl) (by kernel_rfl) rfl rfl rfl (fun a b c h1 h2 => ⟨h1.1.trans h2.1, same_or h1.2 h2.2 (fun h k => h.symm.trans k)⟩) ⟨⟨rfl, rfl, rfl, Nat.le_refl _, fun _ _ _ => rfl⟩, .inl rfl⟩ ?_ ?_ ?_
                  · intro g hg v X Y hX hY hv
                    simp only [List.mem_cons, List.not_mem_nil, or_false] at hg
                    rcases hg with rfl | rfl | rfl | rfl | rfl | rfl | rfl | rfl
                    all_goals first
                      | exact hv
                      | exact ⟨hv.1, cel_or hv.2 hY.2⟩
                  · simp only [flowOpsR, and_true]
                    refine ⟨?_, ?_, ?_, ?_, ?_, ?_, ?_, ?_⟩
                    · intro xs W hW hn
                      obtain ⟨y0, y1, y2, hcc, -⟩ := HK.out W hW.1
                      clear hcc
                      simp only [flowAct, List.zipWith_cons_cons, List.zipWith_nil_left]
                      go_wp2_with (fail)
                      exact ⟨rfl, _, rfl, ⟨⟨rfl, rfl, rfl, Nat.le_refl _, fun _ _ _ => rfl⟩, .inl rfl⟩, rfl⟩
                    · intro xs W hW hn
                      obtain ⟨y0, y1, y2, hcc, -⟩ := HK.out W hW.1
                      obtain ⟨c0, c1, c2, c3, c4, c5, c6, c7⟩ := hcc.cs
                      clear hcc
                      simp only [flowAct, List.zipWith_cons_cons, List.zipWith_nil_left]
                      go_wp2_with (fail)
                      exact ⟨rfl, _, rfl, ⟨⟨rfl, rfl, rfl, Nat.le_refl _, fun _ _ _ => rfl⟩, .inl rfl⟩, rfl⟩
                    · intro xs W hW hn
                      obtain ⟨y0, y1, y2, hcc, -⟩ := HK.out W hW.1
                      clear hcc
                      simp only [flowAct, List.zipWith_cons_cons, List.zipWith_nil_left]
                      go_wp2_with (fail)
                      exact ⟨rfl, _, rfl, ⟨⟨rfl, rfl, rfl, Nat.le_refl _, fun _ _ _ => rfl⟩, .inl rfl⟩, rfl⟩
                    · intro xs W hW hn
                      obtain ⟨y0, y1, y2, hcc, -⟩ := HK.out W hW.1
                      clear hcc
                      simp only [flowAct, List.zipWith_cons_cons, List.zipWith_nil_left]
                      go_wp2_with (fail)
                      exact ⟨rfl, _, rfl, ⟨⟨rfl, rfl, rfl, Nat.le_refl _, fun _ _ _ => rfl⟩, .inl rfl⟩, rfl⟩
                    · intro xs W hW hn
                      simp [flowNeeds, Region.binds] at hn
                      simp only [flowAct, List.zipWith_cons_cons, List.zipWith_nil_left]
                      simp only [hn]
                      go_wp2_with (fail)
                      exact ⟨rfl, _, rfl, ⟨⟨rfl, rfl, rfl, Nat.le_refl _, fun _ _ _ => rfl⟩, .inl rfl⟩, rfl⟩
                    · intro xs W hW hn
                      simp [flowNeeds, Region.binds] at hn
                      obtain ⟨n0, s0, a0, b0, g0, t0, d0, e0, hcel⟩ := cel_of HE0.out hW.2
                      obtain ⟨r0, r1, r2, r3, r4, r5, r6, r7⟩ := hcel.cs
                      have zr := hcel.fz
                      have HCL := Lib.hid hcel
                      clear hcel
                      simp only [flowAct, List.zipWith_cons_cons, List.zipWith_nil_left]
                      simp only [hn]
                      go_wp2_with (fail)
                      exact ⟨rfl, undef, rfl, ⟨only_put _ _ _ _ _ _ _ _ _ _, .inr (HCL.out.put n s a b false t d4 e4)⟩, rfl, HCL.out.put n s a b false t d4 e4⟩
                    · intro xs W hW hn
                      simp [flowNeeds, Region.binds] at hn
                      simp only [flowAct, List.zipWith_cons_cons, List.zipWith_nil_left]
                      simp only [hn]
                      go_wp2_with (fail)
                      exact ⟨rfl, _, rfl, ⟨⟨rfl, rfl, rfl, Nat.le_refl _, fun _ _ _ => rfl⟩, .inl rfl⟩, rfl⟩
                    · intro xs W hW hn
                      simp [flowNeeds, Region.binds] at hn
                      simp only [flowAct, List.zipWith_cons_cons, List.zipWith_nil_left]
                      simp only [hn]
                      go_wp2_with (fail)
                      exact ⟨rfl, _, rfl, ⟨⟨rfl, rfl, rfl, Nat.le_refl _, fun _ _ _ => rfl⟩, .inl rfl⟩, rfl⟩
                  · intro xs W hW hall
                    simp only [flowAll, and_true, Nat.zero_add, Nat.reduceAdd] at hall
                    obtain ⟨-, -, -, -, e4, e5, e6, e7⟩ := hall
                    simp only [flowAct, List.zipWith_cons_cons, List.zipWith_nil_left, e4, e6, e7]
                    obtain ⟨-, -, -, -, hbl⟩ := HK.out W hW.1
                    have HBL := Lib.hid hbl
                    have HCL := Lib.hid e5.2
                    clear hbl e5 e4 e6 e7
                    go_wp2
                    refine bodyPost_ret (res_tct2 rfl _ _ (q + 1) 50 _ (0, 0) _ (.int .i64 x) (.int .i64 ((P3 : Int) + k4)) (.int .i64 f4) rfl rfl rfl rfl HCL.out Tryd.underlying50 rfl (sizeC _ _ _ _ _ _ _ _)) rfl ⟨x, ⟨n, s, a, b, false, t, d4, e4⟩, ((P3 : Int) + k4), f4, rfl, HTL.out, fun h => absurd h hfn.out, fun _ => HRD.out, ?_⟩
                    rw [HQ.out]
                    exact HBL.out
            · have hfn := Lib.hid h3
              have hR2 := hRP0.trans (parts_none hw (hm4 h3))
              have ht0 := text_bad hv3 h3
              subst ht0
              have HS := Lib.hid hS
              clear hS hm4 hm5 hok3 hk3 h3
              have x0 := one_cell HS.out.hx
              obtain ⟨c0, c1, c2, c3, c4, c5, c6, c7⟩ := HS.out.hc.cs
              have zc := HS.out.hc.fz
              cases hd : bit x 4 with
              | false =>
                have ha4 := and4 hx0 hx1 hd
                simp only [Bool.false_eq_true, if_false] at ha4
                have HRD := Lib.hid (show readP l = none by exact hR2)
                go_upto_region 13 with (fail)
                have HK := Lib.hid (fun V (h : Only (q + 1) w4 V) => rd8_only HS.out h)
                have HE0 := Lib.hid (HS.out.hr)
                have HQL := Lib.hid HS.out.lt
                refine wp_region_flowR (fun x y => Only (q + 1) x y ∧ (x.heap[q + 1]? = y.heap[q + 1]? ∨ Cel y (q + 1) n s a b false [] 0 0)) [none, none, some 4, none, some 6, some 7, none, none, none, none, none, none, none, none, none, none, none, none, none, none, none, none, none, none, none, none, none, none, none, none, none, none, none, none, none, none, none, none, none, none, none, none, none, none, some 0, some 1, some 2, some 3] (fun i => [undef, undef, undef, undef, .int .i64 0, undef, .int .i64 0, .int .i64 0].getD i undef) [(fun v _ => v = .int .i64 x), (fun v _ => v = .agg #[.int .i64 n, .int .i64 s, .int .i64 a, .int .i64 b, .bool false, .string (text []), .int .i64 0, .int .i64 0]), (fun v _ => v = .int .i64 ((P2 : Int) + k3)), (fun v _ => v = .int .i64 f3), (fun v _ => v = .int .i64 x), (fun v W => v = undef ∧ Cel W (q + 1) n s a b false [] 0 0), (fun v _ => v = .int .i64 ((P2 : Int) + k3)), (fun v _ => v = .int .i64 f3)] (by kernel_rfl) (by kernel_rfl) rfl rfl rfl (fun a b c h1 h2 => ⟨h1.1.trans h2.1, same_or h1.2 h2.2 (fun h k => h.symm.trans k)⟩) ⟨⟨rfl, rfl, rfl, Nat.le_refl _, fun _ _ _ => rfl⟩, .inl rfl⟩ ?_ ?_ ?_
                · intro g hg v X Y hX hY hv
                  simp only [List.mem_cons, List.not_mem_nil, or_false] at hg
                  rcases hg with rfl | rfl | rfl | rfl | rfl | rfl | rfl | rfl
                  all_goals first
                    | exact hv
                    | exact ⟨hv.1, cel_or hv.2 hY.2⟩
                · simp only [flowOpsR, and_true]
                  refine ⟨?_, ?_, ?_, ?_, ?_, ?_, ?_, ?_⟩
                  · intro xs W hW hn
                    obtain ⟨y0, y1, y2, hcc, -⟩ := HK.out W hW.1
                    clear hcc
                    simp only [flowAct, List.zipWith_cons_cons, List.zipWith_nil_left]
                    go_wp2_with (fail)
                    exact ⟨rfl, _, rfl, ⟨⟨rfl, rfl, rfl, Nat.le_refl _, fun _ _ _ => rfl⟩, .inl rfl⟩, rfl⟩
                  · intro xs W hW hn
                    obtain ⟨y0, y1, y2, hcc, -⟩ := HK.out W hW.1
                    obtain ⟨c0, c1, c2, c3, c4, c5, c6, c7⟩ := hcc.cs
                    clear hcc
                    simp only [flowAct, List.zipWith_cons_cons, List.zipWith_nil_left]
                    go_wp2_with (fail)
                    exact ⟨rfl, _, rfl, ⟨⟨rfl, rfl, rfl, Nat.le_refl _, fun _ _ _ => rfl⟩, .inl rfl⟩, rfl⟩
                  · intro xs W hW hn
                    obtain ⟨y0, y1, y2, hcc, -⟩ := HK.out W hW.1
                    clear hcc
                    simp only [flowAct, List.zipWith_cons_cons, List.zipWith_nil_left]
                    go_wp2_with (fail)
                    exact ⟨rfl, _, rfl, ⟨⟨rfl, rfl, rfl, Nat.le_refl _, fun _ _ _ => rfl⟩, .inl rfl⟩, rfl⟩
                  · intro xs W hW hn
                    obtain ⟨y0, y1, y2, hcc, -⟩ := HK.out W hW.1
                    clear hcc
                    simp only [flowAct, List.zipWith_cons_cons, List.zipWith_nil_left]
                    go_wp2_with (fail)
                    exact ⟨rfl, _, rfl, ⟨⟨rfl, rfl, rfl, Nat.le_refl _, fun _ _ _ => rfl⟩, .inl rfl⟩, rfl⟩
                  · intro xs W hW hn
                    simp [flowNeeds, Region.binds] at hn
                    simp only [flowAct, List.zipWith_cons_cons, List.zipWith_nil_left]
                    simp only [hn]
                    go_wp2_with (fail)
                    exact ⟨rfl, _, rfl, ⟨⟨rfl, rfl, rfl, Nat.le_refl _, fun _ _ _ => rfl⟩, .inl rfl⟩, rfl⟩
                  · intro xs W hW hn
                    simp [flowNeeds, Region.binds] at hn
                    obtain ⟨n0, s0, a0, b0, g0, t0, d0, e0, hcel⟩ := cel_of HE0.out hW.2
                    obtain ⟨r0, r1, r2, r3, r4, r5, r6, r7⟩ := hcel.cs
                    have zr := hcel.fz
                    have HCL := Lib.hid hcel
                    clear hcel
                    simp only [flowAct, List.zipWith_cons_cons, List.zipWith_nil_left]
                    simp only [hn]
                    go_wp2_with (fail)
                    exact ⟨rfl, undef, rfl, ⟨only_put _ _ _ _ _ _ _ _ _ _, .inr (HCL.out.put n s a b false [] 0 0)⟩, rfl, HCL.out.put n s a b false [] 0 0⟩
                  · intro xs W hW hn
                    simp [flowNeeds, Region.binds] at hn
                    simp only [flowAct, List.zipWith_cons_cons, List.zipWith_nil_left]
                    simp only [hn]
                    go_wp2_with (fail)
                    exact ⟨rfl, _, rfl, ⟨⟨rfl, rfl, rfl, Nat.le_refl _, fun _ _ _ => rfl⟩, .inl rfl⟩, rfl⟩
                  · intro xs W hW hn
                    simp [flowNeeds, Region.binds] at hn
                    simp only [flowAct, List.zipWith_cons_cons, List.zipWith_nil_left]
                    simp only [hn]
                    go_wp2_with (fail)
                    exact ⟨rfl, _, rfl, ⟨⟨rfl, rfl, rfl, Nat.le_refl _, fun _ _ _ => rfl⟩, .inl rfl⟩, rfl⟩
                · intro xs W hW hall
                  simp only [flowAll, and_true, Nat.zero_add, Nat.reduceAdd] at hall
                  obtain ⟨-, -, -, -, e4, e5, e6, e7⟩ := hall
                  simp only [flowAct, List.zipWith_cons_cons, List.zipWith_nil_left, e4, e6, e7]
                  obtain ⟨-, -, -, -, hbl⟩ := HK.out W hW.1
                  have HBL := Lib.hid hbl
                  have HCL := Lib.hid e5.2
                  clear hbl e5 e4 e6 e7
                  go_wp2
                  refine bodyPost_ret (res_tct2 rfl _ _ (q + 1) 50 _ (0, 0) _ (.int .i64 x) (.int .i64 ((P2 : Int) + k3)) (.int .i64 f3) rfl rfl rfl rfl HCL.out Tryd.underlying50 rfl (sizeC _ _ _ _ _ _ _ _)) rfl ⟨x, ⟨n, s, a, b, false, [], 0, 0⟩, ((P2 : Int) + k3), f3, rfl, Nat.zero_le _, fun h => absurd h hfn.out, fun _ => HRD.out, ?_⟩
                  rw [HQ.out]
                  exact HBL.out
              | true =>
                have ha4 := and4 hx0 hx1 hd
                simp only [if_true] at ha4
                go_upto_region 12 with (fail)
                clear x0 c0 c1 c2 c3 c4 c5 c6 c7 zc
                go_upto_region 13 with (first
                  | (go_at_call 101; (with_reducible refine (mkV_c _ _).mono ?_); rintro e9 w8 ⟨rfl, rfl⟩)
                  | (go_at_call 97; (with_reducible refine (skip_c HS.out hfn.out _ _ _).mono ?_); rintro e9 w23 ⟨rfl, hS⟩)
                  )
                have HS := Lib.hid hS
                clear hS
                have HRD := Lib.hid (show readP l = none by exact hR2)
                go_upto_region 13 with (fail)
                have HK := Lib.hid (fun V (h : Only (q + 1) w23 V) => rd8_only HS.out h)
                have HE0 := Lib.hid (HS.out.hr)
                have HQL := Lib.hid HS.out.lt
                refine wp_region_flowR (fun x y => Only (q + 1) x y ∧ (x.heap[q + 1]? = y.heap[q + 1]? ∨ Cel y (q + 1) n s a b false [] 0 0)) [none, none, some 4, none, some 6, some 7, none, none, none, none, none, none, none, none, none, none, none, none, none, none, none, none, none, none, none, none, none, none, none, none, none, none, none, none, none, none, none, none, none, none, none, none, none, none, some 0, some 1, some 2, some 3] (fun i => [undef, undef, undef, undef, .int .i64 0, undef, .int .i64 0, .int .i64 0].getD i undef) [(fun v _ => v = .int .i64 x), (fun v _ => v = .agg #[.int .i64 n, .int .i64 s, .int .i64 a, .int .i64 b, .bool false, .string (text []), .int .i64 0, .int .i64 0]), (fun v _ => v = .int .i64 ((P2 : Int) + k3)), (fun v _ => v = .int .i64 f3), (fun v _ => v = .int .i64 x), (fun v W => v = undef ∧ Cel W (q + 1) n s a b false [] 0 0), (fun v _ => v = .int .i64 ((P2 : Int) + k3)), (fun v _ => v = .int .i64 f3)] (by kernel_rfl) (by kernel_rfl) rfl rfl rfl (fun a b c h1 h2 => ⟨h1.1.trans h2.1, same_or h1.2 h2.2 (fun h k => h.symm.trans k)⟩) ⟨⟨rfl, rfl, rfl, Nat.le_refl _, fun _ _ _ => rfl⟩, .inl rfl⟩ ?_ ?_ ?_
                · intro g hg v X Y hX hY hv
                  simp only [List.mem_cons, List.not_mem_nil, or_false] at hg
                  rcases hg with rfl | rfl | rfl | rfl | rfl | rfl | rfl | rfl
                  all_goals first
                    | exact hv
                    | exact ⟨hv.1, cel_or hv.2 hY.2⟩
                · simp only [flowOpsR, and_true]
                  refine ⟨?_, ?_, ?_, ?_, ?_, ?_, ?_, ?_⟩
                  · intro xs W hW hn
                    obtain ⟨y0, y1, y2, hcc, -⟩ := HK.out W hW.1
                    clear hcc
                    simp only [flowAct, List.zipWith_cons_cons, List.zipWith_nil_left]
                    go_wp2_with (fail)
                    exact ⟨rfl, _, rfl, ⟨⟨rfl, rfl, rfl, Nat.le_refl _, fun _ _ _ => rfl⟩, .inl rfl⟩, rfl⟩
                  · intro xs W hW hn
                    obtain ⟨y0, y1, y2, hcc, -⟩ := HK.out W hW.1
                    obtain ⟨c0, c1, c2, c3, c4, c5, c6, c7⟩ := hcc.cs
                    clear hcc
                    simp only [flowAct, List.zipWith_cons_cons, List.zipWith_nil_left]
                    go_wp2_with (fail)
                    exact ⟨rfl, _, rfl, ⟨⟨rfl, rfl, rfl, Nat.le_refl _, fun _ _ _ => rfl⟩, .inl rfl⟩, rfl⟩
                  · intro xs W hW hn
                    obtain ⟨y0, y1, y2, hcc, -⟩ := HK.out W hW.1
                    clear hcc
                    simp only [flowAct, List.zipWith_cons_cons, List.zipWith_nil_left]
                    go_wp2_with (fail)
                    exact ⟨rfl, _, rfl, ⟨⟨rfl, rfl, rfl, Nat.le_refl _, fun _ _ _ => rfl⟩, .inl rfl⟩, rfl⟩
                  · intro xs W hW hn
                    obtain ⟨y0, y1, y2, hcc, -⟩ := HK.out W hW.1
                    clear hcc
                    simp only [flowAct, List.zipWith_cons_cons, List.zipWith_nil_left]
                    go_wp2_with (fail)
                    exact ⟨rfl, _, rfl, ⟨⟨rfl, rfl, rfl, Nat.le_refl _, fun _ _ _ => rfl⟩, .inl rfl⟩, rfl⟩
                  · intro xs W hW hn
                    simp [flowNeeds, Region.binds] at hn
                    simp only [flowAct, List.zipWith_cons_cons, List.zipWith_nil_left]
                    simp only [hn]
                    go_wp2_with (fail)
                    exact ⟨rfl, _, rfl, ⟨⟨rfl, rfl, rfl, Nat.le_refl _, fun _ _ _ => rfl⟩, .inl rfl⟩, rfl⟩
                  · intro xs W hW hn
                    simp [flowNeeds, Region.binds] at hn
                    obtain ⟨n0, s0, a0, b0, g0, t0, d0, e0, hcel⟩ := cel_of HE0.out hW.2
                    obtain ⟨r0, r1, r2, r3, r4, r5, r6, r7⟩ := hcel.cs
                    have zr := hcel.fz
                    have HCL := Lib.hid hcel
                    clear hcel
                    simp only [flowAct, List.zipWith_cons_cons, List.zipWith_nil_left]
                    simp only [hn]
                    go_wp2_with (fail)
                    exact ⟨rfl, undef, rfl, ⟨only_put _ _ _ _ _ _ _ _ _ _, .inr (HCL.out.put n s a b false [] 0 0)⟩, rfl, HCL.out.put n s a b false [] 0 0⟩
                  · intro xs W hW hn
                    simp [flowNeeds, Region.binds] at hn
                    simp only [flowAct, List.zipWith_cons_cons, List.zipWith_nil_left]
                    simp only [hn]
                    go_wp2_with (fail)
                    exact ⟨rfl, _, rfl, ⟨⟨rfl, rfl, rfl, Nat.le_refl _, fun _ _ _ => rfl⟩, .inl rfl⟩, rfl⟩
                  · intro xs W hW hn
                    simp [flowNeeds, Region.binds] at hn
                    simp only [flowAct, List.zipWith_cons_cons, List.zipWith_nil_left]
                    simp only [hn]
                    go_wp2_with (fail)
                    exact ⟨rfl, _, rfl, ⟨⟨rfl, rfl, rfl, Nat.le_refl _, fun _ _ _ => rfl⟩, .inl rfl⟩, rfl⟩
                · intro xs W hW hall
                  simp only [flowAll, and_true, Nat.zero_add, Nat.reduceAdd] at hall
                  obtain ⟨-, -, -, -, e4, e5, e6, e7⟩ := hall
                  simp only [flowAct, List.zipWith_cons_cons, List.zipWith_nil_left, e4, e6, e7]
                  obtain ⟨-, -, -, -, hbl⟩ := HK.out W hW.1
                  have HBL := Lib.hid hbl
                  have HCL := Lib.hid e5.2
                  clear hbl e5 e4 e6 e7
                  go_wp2
                  refine bodyPost_ret (res_tct2 rfl _ _ (q + 1) 50 _ (0, 0) _ (.int .i64 x) (.int .i64 ((P2 : Int) + k3)) (.int .i64 f3) rfl rfl rfl rfl HCL.out Tryd.underlying50 rfl (sizeC _ _ _ _ _ _ _ _)) rfl ⟨x, ⟨n, s, a, b, false, [], 0, 0⟩, ((P2 : Int) + k3), f3, rfl, Nat.zero_le _, fun h => absurd h hfn.out, fun _ => HRD.out, ?_⟩
                  rw [HQ.out]
                  exact HBL.out
          · have hfn := Lib.hid h2
            have hR2 := hRP0.trans (parts_none hw (hm2 _ h2))
            have HS := Lib.hid hS
            clear hS hm2 hok2 hk2 h2
            have x0 := one_cell HS.out.hx
            obtain ⟨c0, c1, c2, c3, c4, c5, c6, c7⟩ := HS.out.hc.cs
            have zc := HS.out.hc.fz
            go_upto_region 10 with (fail)
            clear x0 c0 c1 c2 c3 c4 c5 c6 c7 zc
            go_upto_region 11 with (first
              | (go_at_call 103; (with_reducible refine (mkT_c _ _).mono ?_); rintro e9 w8 ⟨rfl, rfl⟩)
              | (go_at_call 97; (with_reducible refine (skip_c HS.out hfn.out _ _ _).mono ?_); rintro e9 w24 ⟨rfl, hS⟩)
              )
            have HS := Lib.hid hS
            clear hS
            have x0 := one_cell HS.out.hx
            obtain ⟨c0, c1, c2, c3, c4, c5, c6, c7⟩ := HS.out.hc.cs
            have zc := HS.out.hc.fz
            cases hd : bit x 4 with
            | false =>
              have ha4 := and4 hx0 hx1 hd
              simp only [Bool.false_eq_true, if_false] at ha4
              have HRD := Lib.hid (show readP l = none by exact hR2)
              go_upto_region 13 with (fail)
              have HK := Lib.hid (fun V (h : Only (q + 1) w24 V) => rd8_only HS.out h)
              have HE0 := Lib.hid (HS.out.hr)
              have HQL := Lib.hid HS.out.lt
              refine wp_region_flowR (fun x y => Only (q + 1) x y ∧ (x.heap[q + 1]? = y.heap[q + 1]? ∨ Cel y (q + 1) n s a b false [] 0 0)) [none, none, some 4, none, some 6, some 7, none, none, none, none, none, none, none, none, none, none, none, none, none, none, none, none, none, none, none, none, none, none, none, none, none, none, none, none, none, none, none, none, none, none, none, none, none, none, some 0, some 1, some 2, some 3] (fun i => [undef, undef, undef, undef, .int .i64 0, undef, .int .i64 0, .int .i64 0].getD i undef) [(fun v _ => v = .int .i64 x), (fun v _ => v = .agg #[.int .i64 n, .int .i64 s, .int .i64 a, .int .i64 b, .bool false, .string (text []), .int .i64 0, .int .i64 0]), (fun v _ => v = .int .i64 ((P1 : Int) + k2)), (fun v _ => v = .int .i64 f2), (fun v _ => v = .int .i64 x), (fun v W => v = undef ∧ Cel W (q + 1) n s a b false [] 0 0), (fun v _ => v = .int .i64 ((P1 : Int) + k2)), (fun v _ => v = .int .i64 f2)] (by kernel_rfl) (by kernel_rfl) rfl rfl rfl (fun a b c h1 h2 => ⟨h1.1.trans h2.1, same_or h1.2 h2.2 (fun h k => h.symm.trans k)⟩) ⟨⟨rfl, rfl, rfl, Nat.le_refl _, fun _ _ _ => rfl⟩, .inl rfl⟩ ?_ ?_ ?_
              · intro g hg v X Y hX hY hv
                simp only [List.mem_cons, List.not_mem_nil, or_false] at hg
                rcases hg with rfl | rfl | rfl | rfl | rfl | rfl | rfl | rfl
                all_goals first
                  | exact hv
                  | exact ⟨hv.1, cel_or hv.2 hY.2⟩
              · simp only [flowOpsR, and_true]
                refine ⟨?_, ?_, ?_, ?_, ?_, ?_, ?_, ?_⟩
                · intro xs W hW hn
                  obtain ⟨y0, y1, y2, hcc, -⟩ := HK.out W hW.1
                  clear hcc
                  simp only [flowAct, List.zipWith_cons_cons, List.zipWith_nil_left]
                  go_wp2_with (fail)
                  exact ⟨rfl, _, rfl, ⟨⟨rfl, rfl, rfl, Nat.le_refl _, fun _ _ _ => rfl⟩, .inl rfl⟩, rfl⟩
                · intro xs W hW hn
                  obtain ⟨y0, y1, y2, hcc, -⟩ := HK.out W hW.1
                  obtain ⟨c0, c1, c2, c3, c4, c5, c6, c7⟩ := hcc.cs
                  clear hcc
                  simp only [flowAct, List.zipWith_cons_cons, List.zipWith_nil_left]
                  go_wp2_with (fail)
                  exact ⟨rfl, _, rfl, ⟨⟨rfl, rfl, rfl, Nat.le_refl _, fun _ _ _ => rfl⟩, .inl rfl⟩, rfl⟩
                · intro xs W hW hn
                  obtain ⟨y0, y1, y2, hcc, -⟩ := HK.out W hW.1
                  clear hcc
                  simp only [flowAct, List.zipWith_cons_cons, List.zipWith_nil_left]
                  go_wp2_with (fail)
                  exact ⟨rfl, _, rfl, ⟨⟨rfl, rfl, rfl, Nat.le_refl _, fun _ _ _ => rfl⟩, .inl rfl⟩, rfl⟩
                · intro xs W hW hn
                  obtain ⟨y0, y1, y2, hcc, -⟩ := HK.out W hW.1
                  clear hcc
                  simp only [flowAct, List.zipWith_cons_cons, List.zipWith_nil_left]
                  go_wp2_with (fail)
                  exact ⟨rfl, _, rfl, ⟨⟨rfl, rfl, rfl, Nat.le_refl _, fun _ _ _ => rfl⟩, .inl rfl⟩, rfl⟩
                · intro xs W hW hn
                  simp [flowNeeds, Region.binds] at hn
                  simp only [flowAct, List.zipWith_cons_cons, List.zipWith_nil_left]
                  simp only [hn]
                  go_wp2_with (fail)
                  exact ⟨rfl, _, rfl, ⟨⟨rfl, rfl, rfl, Nat.le_refl _, fun _ _ _ => rfl⟩, .inl rfl⟩, rfl⟩
                · intro xs W hW hn
                  simp [flowNeeds, Region.binds] at hn
                  obtain ⟨n0, s0, a0, b0, g0, t0, d0, e0, hcel⟩ := cel_of HE0.out hW.2
                  obtain ⟨r0, r1, r2, r3, r4, r5, r6, r7⟩ := hcel.cs
                  have zr := hcel.fz
                  have HCL := Lib.hid hcel
                  clear hcel
                  simp only [flowAct, List.zipWith_cons_cons, List.zipWith_nil_left]
                  simp only [hn]
                  go_wp2_with (fail)
                  exact ⟨rfl, undef, rfl, ⟨only_put _ _ _ _ _ _ _ _ _ _, .inr (HCL.out.put n s a b false [] 0 0)⟩, rfl, HCL.out.put n s a b false [] 0 0⟩
                · intro xs W hW hn
                  simp [flowNeeds, Region.binds] at hn
                  simp only [flowAct, List.zipWith_cons_cons, List.zipWith_nil_left]
                  simp only [hn]
                  go_wp2_with (fail)
                  exact ⟨rfl, _, rfl, ⟨⟨rfl, rfl, rfl, Nat.le_refl _, fun _ _ _ => rfl⟩, .inl rfl⟩, rfl⟩
                · intro xs W hW hn
                  simp [flowNeeds, Region.binds] at hn
                  simp only [flowAct, List.zipWith_cons_cons, List.zipWith_nil_left]
                  simp only [hn]
                  go_wp2_with (fail)
                  exact ⟨rfl, _, rfl, ⟨⟨rfl, rfl, rfl, Nat.le_refl _, fun _ _ _ => rfl⟩, .inl rfl⟩, rfl⟩
              · intro xs W hW hall
                simp only [flowAll, and_true, Nat.zero_add, Nat.reduceAdd] at hall
                obtain ⟨-, -, -, -, e4, e5, e6, e7⟩ := hall
                simp only [flowAct, List.zipWith_cons_cons, List.zipWith_nil_left, e4, e6, e7]
                obtain ⟨-, -, -, -, hbl⟩ := HK.out W hW.1
                have HBL := Lib.hid hbl
                have HCL := Lib.hid e5.2
                clear hbl e5 e4 e6 e7
                go_wp2
                refine bodyPost_ret (res_tct2 rfl _ _ (q + 1) 50 _ (0, 0) _ (.int .i64 x) (.int .i64 ((P1 : Int) + k2)) (.int .i64 f2) rfl rfl rfl rfl HCL.out Tryd.underlying50 rfl (sizeC _ _ _ _ _ _ _ _)) rfl ⟨x, ⟨n, s, a, b, false, [], 0, 0⟩, ((P1 : Int) + k2), f2, rfl, Nat.zero_le _, fun h => absurd h hfn.out, fun _ => HRD.out, ?_⟩
                rw [HQ.out]
                exact HBL.out
            | true =>
              have ha4 := and4 hx0 hx1 hd
              simp only [if_true] at ha4
              go_upto_region 12 with (fail)
              clear x0 c0 c1 c2 c3 c4 c5 c6 c7 zc
              go_upto_region 13 with (first
                | (go_at_call 101; (with_reducible refine (mkV_c _ _).mono ?_); rintro e9 w8 ⟨rfl, rfl⟩)
                | (go_at_call 97; (with_reducible refine (skip_c HS.out hfn.out _ _ _).mono ?_); rintro e9 w25 ⟨rfl, hS⟩)
                )
              have HS := Lib.hid hS
              clear hS
              have HRD := Lib.hid (show readP l = none by exact hR2)
              go_upto_region 13 with (fail)
              have HK := Lib.hid (fun V (h : Only (q + 1) w25 V) => rd8_only HS.out h)
              have HE0 := Lib.hid (HS.out.hr)
              have HQL := Lib.hid HS.out.lt
              refine wp_region_flowR (fun x y => Only (q + 1) x y ∧ (x.heap[q + 1]? = y.heap[q + 1]? ∨ Cel y (q + 1) n s a b false [] 0 0)) [none, none, some 4, none, some 6, some 7, none, none, none, none, none, none, none, none, none, none, none, none, none, none, none, none, none, none, none, none, none, none, none, none, none, none, none, none, none, none, none, none, none, none, none, none, none, none, some 0, some 1, some 2, some 3] (fun i => [undef, undef, undef, undef, .int .i64 0, undef, .int .i64 0, .int .i64 0].getD i undef) [(fun v _ => v = .int .i64 x), (fun v _ => v = .agg #[.int .i64 n, .int .i64 s, .int .i64 a, .int .i64 b, .bool false, .string (text []), .int .i64 0, .int .i64 0]), (fun v _ => v = .int .i64 ((P1 : Int) + k2)), (fun v _ => v = .int .i64 f2), (fun v _ => v = .int .i64 x), (fun v W => v = undef ∧ Cel W (q + 1) n s a b false [] 0 0), (fun v _ => v = .int .i64 ((P1 : Int) + k2)), (fun v _ => v = .int .i64 f2)] (by kernel_rfl) (by kernel_rfl) rfl rfl rfl (fun a b c h1 h2 => ⟨h1.1.trans h2.1, same_or h1.2 h2.2 (fun h k => h.symm.trans k)⟩) ⟨⟨rfl, rfl, rfl, Nat.le_refl _, fun _ _ _ => rfl⟩, .inl rfl⟩ ?_ ?_ ?_
              · intro g hg v X Y hX hY hv
                simp only [List.mem_cons, List.not_mem_nil, or_false] at hg
                rcases hg with rfl | rfl | rfl | rfl | rfl | rfl | rfl | rfl
                all_goals first
                  | exact hv
                  | exact ⟨hv.1, cel_or hv.2 hY.2⟩
              · simp only [flowOpsR, and_true]
                refine ⟨?_, ?_, ?_, ?_, ?_, ?_, ?_, ?_⟩
                · intro xs W hW hn
                  obtain ⟨y0, y1, y2, hcc, -⟩ := HK.out W hW.1
                  clear hcc
                  simp only [flowAct, List.zipWith_cons_cons, List.zipWith_nil_left]
                  go_wp2_with (fail)
                  exact ⟨rfl, _, rfl, ⟨⟨rfl, rfl, rfl, Nat.le_refl _, fun _ _ _ => rfl⟩, .inl rfl⟩, rfl⟩
                · intro xs W hW hn
                  obtain ⟨y0, y1, y2, hcc, -⟩ := HK.out W hW.1
                  obtain ⟨c0, c1, c2, c3, c4, c5, c6, c7⟩ := hcc.cs
                  clear hcc
                  simp only [flowAct, List.zipWith_cons_cons, List.zipWith_nil_left]
                  go_wp2_with (fail)
                  exact ⟨rfl, _, rfl, ⟨⟨rfl, rfl, rfl, Nat.le_refl _, fun _ _ _ => rfl⟩, .inl rfl⟩, rfl⟩
                · intro xs W hW hn
                  obtain ⟨y0, y1, y2, hcc, -⟩ := HK.out W hW.1
                  clear hcc
                  simp only [flowAct, List.zipWith_cons_cons, List.zipWith_nil_left]
                  go_wp2_with (fail)
                  exact ⟨rfl, _, rfl, ⟨⟨rfl, rfl, rfl, Nat.le_refl _, fun _ _ _ => rfl⟩, .inl rfl⟩, rfl⟩
                · intro xs W hW hn
                  obtain ⟨y0, y1, y2, hcc, -⟩ := HK.out W hW.1
                  clear hcc
                  simp only [flowAct, List.zipWith_cons_cons, List.zipWith_nil_left]
                  go_wp2_with (fail)
                  exact ⟨rfl, _, rfl, ⟨⟨rfl, rfl, rfl, Nat.le_refl _, fun _ _ _ => rfl⟩, .inl rfl⟩, rfl⟩
                · intro xs W hW hn
                  simp [flowNeeds, Region.binds] at hn
                  simp only [flowAct, List.zipWith_cons_cons, List.zipWith_nil_left]
                  simp only [hn]
                  go_wp2_with (fail)
                  exact ⟨rfl, _, rfl, ⟨⟨rfl, rfl, rfl, Nat.le_refl _, fun _ _ _ => rfl⟩, .inl rfl⟩, rfl⟩
                · intro xs W hW hn
                  simp [flowNeeds, Region.binds] at hn
                  obtain ⟨n0, s0, a0, b0, g0, t0, d0, e0, hcel⟩ := cel_of HE0.out hW.2
                  obtain ⟨r0, r1, r2, r3, r4, r5, r6, r7⟩ := hcel.cs
                  have zr := hcel.fz
                  have HCL := Lib.hid hcel
                  clear hcel
                  simp only [flowAct, List.zipWith_cons_cons, List.zipWith_nil_left]
                  simp only [hn]
                  go_wp2_with (fail)
                  exact ⟨rfl, undef, rfl, ⟨only_put _ _ _ _ _ _ _ _ _ _, .inr (HCL.out.put n s a b false [] 0 0)⟩, rfl, HCL.out.put n s a b false [] 0 0⟩
                · intro xs W hW hn
                  simp [flowNeeds, Region.binds] at hn
                  simp only [flowAct, List.zipWith_cons_cons, List.zipWith_nil_left]
                  simp only [hn]
                  go_wp2_with (fail)
                  exact ⟨rfl, _, rfl, ⟨⟨rfl, rfl, rfl, Nat.le_refl _, fun _ _ _ => rfl⟩, .inl rfl⟩, rfl⟩
                · intro xs W hW hn
                  simp [flowNeeds, Region.binds] at hn
                  simp only [flowAct, List.zipWith_cons_cons, List.zipWith_nil_left]
                  simp only [hn]
                  go_wp2_with (fail)
                  exact ⟨rfl, _, rfl, ⟨⟨rfl, rfl, rfl, Nat.le_refl _, fun _ _ _ => rfl⟩, .inl rfl⟩, rfl⟩
              · intro xs W hW hall
                simp only [flowAll, and_true, Nat.zero_add, Nat.reduceAdd] at hall
                obtain ⟨-, -, -, -, e4, e5, e6, e7⟩ := hall
                simp only [flowAct, List.zipWith_cons_cons, List.zipWith_nil_left, e4, e6, e7]
                obtain ⟨-, -, -, -, hbl⟩ := HK.out W hW.1
                have HBL := Lib.hid hbl
                have HCL := Lib.hid e5.2
                clear hbl e5 e4 e6 e7
                go_wp2
                refine bodyPost_ret (res_tct2 rfl _ _ (q + 1) 50 _ (0, 0) _ (.int .i64 x) (.int .i64 ((P1 : Int) + k2)) (.int .i64 f2) rfl rfl rfl rfl HCL.out Tryd.underlying50 rfl (sizeC _ _ _ _ _ _ _ _)) rfl ⟨x, ⟨n, s, a, b, false, [], 0, 0⟩, ((P1 : Int) + k2), f2, rfl, Nat.zero_le _, fun h => absurd h hfn.out, fun _ => HRD.out, ?_⟩
                rw [HQ.out]
                exact HBL.out
        · have hfn := Lib.hid h1
          have hR2 := hRP0.trans (parts_none hw (hm1 _ h1))
          have HS := Lib.hid hS
          clear hS hm1 hok1 hk1 h1
          go_upto_region 9 with (first
            | (go_at_call 101; (with_reducible refine (mkV_c _ _).mono ?_); rintro e9 w8 ⟨rfl, rfl⟩)
            | (go_at_call 97; (with_reducible refine (skip_c HS.out hfn.out _ _ _).mono ?_); rintro e9 w26 ⟨rfl, hS⟩)
            )
          have HS := Lib.hid hS
          clear hS
          have x0 := one_cell HS.out.hx
          obtain ⟨c0, c1, c2, c3, c4, c5, c6, c7⟩ := HS.out.hc.cs
          have zc := HS.out.hc.fz
          go_upto_region 10 with (fail)
          clear x0 c0 c1 c2 c3 c4 c5 c6 c7 zc
          go_upto_region 11 with (first
            | (go_at_call 103; (with_reducible refine (mkT_c _ _).mono ?_); rintro e9 w8 ⟨rfl, rfl⟩)
            | (go_at_call 97; (with_reducible refine (skip_c HS.out hfn.out _ _ _).mono ?_); rintro e9 w27 ⟨rfl, hS⟩)
            )
          have HS := Lib.hid hS
          clear hS
          have x0 := one_cell HS.out.hx
          obtain ⟨c0, c1, c2, c3, c4, c5, c6, c7⟩ := HS.out.hc.cs
          have zc := HS.out.hc.fz
          cases hd : bit x 4 with
          | false =>
            have ha4 := and4 hx0 hx1 hd
            simp only [Bool.false_eq_true, if_false] at ha4
            have HRD := Lib.hid (show readP l = none by exact hR2)
            go_upto_region 13 with (fail)
            have HK := Lib.hid (fun V (h : Only (q + 1) w27 V) => rd8_only HS.out h)
            have HE0 := Lib.hid (HS.out.hr)
            have HQL := Lib.hid HS.out.lt
            refine wp_region_flowR (fun x y => Only (q + 1) x y ∧ (x.heap[q + 1]? = y.heap[q + 1]? ∨ Cel y (q + 1) n s 0 0 false [] 0 0)) [none, none, some 4, none, some 6, some 7, none, none, none, none, none, none, none, none, none, none, none, none, none, none, none, none, none, none, none, none, none, none, none, none, none, none, none, none, none, none, none, none, none, none, none, none, none, none, some 0, some 1, some 2, some 3] (fun i => [undef, undef, undef, undef, .int .i64 0, undef, .int .i64 0, .int .i64 0].getD i undef) [(fun v _ => v = .int .i64 x), (fun v _ => v = .agg #[.int .i64 n, .int .i64 s, .int .i64 0, .int .i64 0, .bool false, .string (text []), .int .i64 0, .int .i64 0]), (fun v _ => v = .int .i64 ((q0 : Int) + k1)), (fun v _ => v = .int .i64 f1), (fun v _ => v = .int .i64 x), (fun v W => v = undef ∧ Cel W (q + 1) n s 0 0 false [] 0 0), (fun v _ => v = .int .i64 ((q0 : Int) + k1)), (fun v _ => v = .int .i64 f1)] (by kernel_rfl) (by kernel_rfl) rfl rfl rfl (fun a b c h1 h2 => ⟨h1.1.trans h2.1, same_or h1.2 h2.2 (fun h k => h.symm.trans k)⟩) ⟨⟨rfl, rfl, rfl, Nat.le_refl _, fun _ _ _ => rfl⟩, .inl rfl⟩ ?_ ?_ ?_
            · intro g hg v X Y hX hY hv
              simp only [List.mem_cons, List.not_mem_nil, or_false] at hg
              rcases hg with rfl | rfl | rfl | rfl | rfl | rfl | rfl | rfl
              all_goals first
                | exact hv
                | exact ⟨hv.1, cel_or hv.2 hY.2⟩
            · simp only [flowOpsR, and_true]
              refine ⟨?_, ?_, ?_, ?_, ?_, ?_, ?_, ?_⟩
              · intro xs W hW hn
                obtain ⟨y0, y1, y2, hcc, -⟩ := HK.out W hW.1
                clear hcc
                simp only [flowAct, List.zipWith_cons_cons, List.zipWith_nil_left]
                go_wp2_with (fail)
                exact ⟨rfl, _, rfl, ⟨⟨rfl, rfl, rfl, Nat.le_refl _, fun _ _ _ => rfl⟩, .inl rfl⟩, rfl⟩
              · intro xs W hW hn
                obtain ⟨y0, y1, y2, hcc, -⟩ := HK.out W hW.1
                obtain ⟨c0, c1, c2, c3, c4, c5, c6, c7⟩ := hcc.cs
                clear hcc
                simp only [flowAct, List.zipWith_cons_cons, List.zipWith_nil_left]
                go_wp2_with (fail)
                exact ⟨rfl, _, rfl, ⟨⟨rfl, rfl, rfl, Nat.le_refl _, fun _ _ _ => rfl⟩, .inl rfl⟩, rfl⟩
              · intro xs W hW hn
                obtain ⟨y0, y1, y2, hcc, -⟩ := HK.out W hW.1
                clear hcc
                simp only [flowAct, List.zipWith_cons_cons, List.zipWith_nil_left]
                go_wp2_with (fail)
                exact ⟨rfl, _, rfl, ⟨⟨rfl, rfl, rfl, Nat.le_refl _, fun _ _ _ => rfl⟩, .inl rfl⟩, rfl⟩
              · intro xs W hW hn
                obtain ⟨y0, y1, y2, hcc, -⟩ := HK.out W hW.1
                clear hcc
                simp only [flowAct, List.zipWith_cons_cons, List.zipWith_nil_left]
                go_wp2_with (fail)
                exact ⟨rfl, _, rfl, ⟨⟨rfl, rfl, rfl, Nat.le_refl _, fun _ _ _ => rfl⟩, .inl rfl⟩, rfl⟩
              · intro xs W hW hn
                simp [flowNeeds, Region.binds] at hn
                simp only [flowAct, List.zipWith_cons_cons, List.zipWith_nil_left]
                simp only [hn]
                go_wp2_with (fail)
                exact ⟨rfl, _, rfl, ⟨⟨rfl, rfl, rfl, Nat.le_refl _, fun _ _ _ => rfl⟩, .inl rfl⟩, rfl⟩
              · intro xs W hW hn
                simp [flowNeeds, Region.binds] at hn
                obtain ⟨n0, s0, a0, b0, g0, t0, d0, e0, hcel⟩ := cel_of HE0.out hW.2
                obtain ⟨r0, r1, r2, r3, r4, r5, r6, r7⟩ := hcel.cs
                have zr := hcel.fz
                have HCL := Lib.hid hcel
                clear hcel
                simp only [flowAct, List.zipWith_cons_cons, List.zipWith_nil_left]
                simp only [hn]
                go_wp2_with (fail)
                exact ⟨rfl, undef, rfl, ⟨only_put _ _ _ _ _ _ _ _ _ _, .inr (HCL.out.put n s 0 0 false [] 0 0)⟩, rfl, HCL.out.put n s 0 0 false [] 0 0⟩
              · intro xs W hW hn
                simp [flowNeeds, Region.binds] at hn
                simp only [flowAct, List.zipWith_cons_cons, List.zipWith_nil_left]
                simp only [hn]
                go_wp2_with (fail)
                exact ⟨rfl, _, rfl, ⟨⟨rfl, rfl, rfl, Nat.le_refl _, fun _ _ _ => rfl⟩, .inl rfl⟩, rfl⟩
              · intro xs W hW hn
                simp [flowNeeds, Region.binds] at hn
                simp only [flowAct, List.zipWith_cons_cons, List.zipWith_nil_left]
                simp only [hn]
                go_wp2_with (fail)
                exact ⟨rfl, _, rfl, ⟨⟨rfl, rfl, rfl, Nat.le_refl _, fun _ _ _ => rfl⟩, .inl rfl⟩, rfl⟩
            · intro xs W hW hall
              simp only [flowAll, and_true, Nat.zero_add, Nat.reduceAdd] at hall
              obtain ⟨-, -, -, -, e4, e5, e6, e7⟩ := hall
              simp only [flowAct, List.zipWith_cons_cons, List.zipWith_nil_left, e4, e6, e7]
              obtain ⟨-, -, -, -, hbl⟩ := HK.out W hW.1
              have HBL := Lib.hid hbl
              have HCL := Lib.hid e5.2
              clear hbl e5 e4 e6 e7
              go_wp2
              refine bodyPost_ret (res_tct2 rfl _ _ (q + 1) 50 _ (0, 0) _ (.int .i64 x) (.int .i64 ((q0 : Int) + k1)) (.int .i64 f1) rfl rfl rfl rfl HCL.out Tryd.underlying50 rfl (sizeC _ _ _ _ _ _ _ _)) rfl ⟨x, ⟨n, s, 0, 0, false, [], 0, 0⟩, ((q0 : Int) + k1), f1, rfl, Nat.zero_le _, fun h => absurd h hfn.out, fun _ => HRD.out, ?_⟩
              rw [HQ.out]
              exact HBL.out
          | true =>
            have ha4 := and4 hx0 hx1 hd
            simp only [if_true] at ha4
            go_upto_region 12 with (fail)
            clear x0 c0 c1 c2 c3 c4 c5 c6 c7 zc
            go_upto_region 13 with (first
              | (go_at_call 101; (with_reducible refine (mkV_c _ _).mono ?_); rintro e9 w8 ⟨rfl, rfl⟩)
              | (go_at_call 97; (with_reducible refine (skip_c HS.out hfn.out _ _ _).mono ?_); rintro e9 w28 ⟨rfl, hS⟩)
              )
            have HS := Lib.hid hS
            clear hS
            have HRD := Lib.hid (show readP l = none by exact hR2)
            go_upto_region 13 with (fail)
            have HK := Lib.hid (fun V (h : Only (q + 1) w28 V) => rd8_only HS.out h)
            have HE0 := Lib.hid (HS.out.hr)
            have HQL := Lib.hid HS.out.lt
            refine wp_region_flowR (fun x y => Only (q + 1) x y ∧ (x.heap[q + 1]? = y.heap[q + 1]? ∨ Cel y (q + 1) n s 0 0 false [] 0 0)) [none, none, some 4, none, some 6, some 7, none, none, none, none, none, none, none, none, none, none, none, none, none, none, none, none, none, none, none, none, none, none, none, none, none, none, none, none, none, none, none, none, none, none, none, none, none, none, some 0, some 1, some 2, some 3] (fun i => [undef, undef, undef, undef, .int .i64 0, undef, .int .i64 0, .int .i64 0].getD i undef) [(fun v _ => v = .int .i64 x), (fun v _ => v = .agg #[.int .i64 n, .int .i64 s, .int .i64 0, .int .i64 0, .bool false, .string (text []), .int .i64 0, .int .i64 0]), (fun v _ => v = .int .i64 ((q0 : Int) + k1)), (fun v _ => v = .int .i64 f1), (fun v _ => v = .int .i64 x), (fun v W => v = undef ∧ Cel W (q + 1) n s 0 0 false [] 0 0), (fun v _ => v = .int .i64 ((q0 : Int) + k1)), (fun v _ => v = .int .i64 f1)] (by kernel_rfl) (by kernel_rfl) rfl rfl rfl (fun a b c h1 h2 => ⟨h1.1.trans h2.1, same_or h1.2 h2.2 (fun h k => h.symm.trans k)⟩) ⟨⟨rfl, rfl, rfl, Nat.le_refl _, fun _ _ _ => rfl⟩, .inl rfl⟩ ?_ ?_ ?_
            · intro g hg v X Y hX hY hv
              simp only [List.mem_cons, List.not_mem_nil, or_false] at hg
              rcases hg with rfl | rfl | rfl | rfl | rfl | rfl | rfl | rfl
              all_goals first
                | exact hv
                | exact ⟨hv.1, cel_or hv.2 hY.2⟩
            · simp only [flowOpsR, and_true]
              refine ⟨?_, ?_, ?_, ?_, ?_, ?_, ?_, ?_⟩
              · intro xs W hW hn
                obtain ⟨y0, y1, y2, hcc, -⟩ := HK.out W hW.1
                clear hcc
                simp only [flowAct, List.zipWith_cons_cons, List.zipWith_nil_left]
                go_wp2_with (fail)
                exact ⟨rfl, _, rfl, ⟨⟨rfl, rfl, rfl, Nat.le_refl _, fun _ _ _ => rfl⟩, .inl rfl⟩, rfl⟩
              · intro xs W hW hn
                obtain ⟨y0, y1, y2, hcc, -⟩ := HK.out W hW.1
                obtain ⟨c0, c1, c2, c3, c4, c5, c6, c7⟩ := hcc.cs
                clear hcc
                simp only [flowAct, List.zipWith_cons_cons, List.zipWith_nil_left]
                go_wp2_with (fail)
                exact ⟨rfl, _, rfl, ⟨⟨rfl, rfl, rfl, Nat.le_refl _, fun _ _ _ => rfl⟩, .inl rfl⟩, rfl⟩
              · intro xs W hW hn
                obtain ⟨y0, y1, y2, hcc, -⟩ := HK.out W hW.1
                clear hcc
                simp only [flowAct, List.zipWith_cons_cons, List.zipWith_nil_left]
                go_wp2_with (fail)
                exact ⟨rfl, _, rfl, ⟨⟨rfl, rfl, rfl, Nat.le_refl _, fun _ _ _ => rfl⟩, .inl rfl⟩, rfl⟩
              · intro xs W hW hn
                obtain ⟨y0, y1, y2, hcc, -⟩ := HK.out W hW.1
                clear hcc
                simp only [flowAct, List.zipWith_cons_cons, List.zipWith_nil_left]
                go_wp2_with (fail)
                exact ⟨rfl, _, rfl, ⟨⟨rfl, rfl, rfl, Nat.le_refl _, fun _ _ _ => rfl⟩, .inl rfl⟩, rfl⟩
              · intro xs W hW hn
                simp [flowNeeds, Region.binds] at hn
                simp only [flowAct, List.zipWith_cons_cons, List.zipWith_nil_left]
                simp only [hn]
                go_wp2_with (fail)
                exact ⟨rfl, _, rfl, ⟨⟨rfl, rfl, rfl, Nat.le_refl _, fun _ _ _ => rfl⟩, .inl rfl⟩, rfl⟩
              · intro xs W hW hn
                simp [flowNeeds, Region.binds] at hn
                obtain ⟨n0, s0, a0, b0, g0, t0, d0, e0, hcel⟩ := cel_of HE0.out hW.2
                obtain ⟨r0, r1, r2, r3, r4, r5, r6, r7⟩ := hcel.cs
                have zr := hcel.fz
                have HCL := Lib.hid hcel
                clear hcel
                simp only [flowAct, List.zipWith_cons_cons, List.zipWith_nil_left]
                simp only [hn]
                go_wp2_with (fail)
                exact ⟨rfl, undef, rfl, ⟨only_put _ _ _ _ _ _ _ _ _ _, .inr (HCL.out.put n s 0 0 false [] 0 0)⟩, rfl, HCL.out.put n s 0 0 false [] 0 0⟩
              · intro xs W hW hn
                simp [flowNeeds, Region.binds] at hn
                simp only [flowAct, List.zipWith_cons_cons, List.zipWith_nil_left]
                simp only [hn]
                go_wp2_with (fail)
                exact ⟨rfl, _, rfl, ⟨⟨rfl, rfl, rfl, Nat.le_refl _, fun _ _ _ => rfl⟩, .inl rfl⟩, rfl⟩
              · intro xs W hW hn
                simp [flowNeeds, Region.binds] at hn
                simp only [flowAct, List.zipWith_cons_cons, List.zipWith_nil_left]
                simp only [hn]
                go_wp2_with (fail)
                exact ⟨rfl, _, rfl, ⟨⟨rfl, rfl, rfl, Nat.le_refl _, fun _ _ _ => rfl⟩, .inl rfl⟩, rfl⟩
            · intro xs W hW hall
              simp only [flowAll, and_true, Nat.zero_add, Nat.reduceAdd] at hall
              obtain ⟨-, -, -, -, e4, e5, e6, e7⟩ := hall
              simp only [flowAct, List.zipWith_cons_cons, List.zipWith_nil_left, e4, e6, e7]
              obtain ⟨-, -, -, -, hbl⟩ := HK.out W hW.1
              have HBL := Lib.hid hbl
              have HCL := Lib.hid e5.2
              clear hbl e5 e4 e6 e7
              go_wp2
              refine bodyPost_ret (res_tct2 rfl _ _ (q + 1) 50 _ (0, 0) _ (.int .i64 x) (.int .i64 ((q0 : Int) + k1)) (.int .i64 f1) rfl rfl rfl rfl HCL.out Tryd.underlying50 rfl (sizeC _ _ _ _ _ _ _ _)) rfl ⟨x, ⟨n, s, 0, 0, false, [], 0, 0⟩, ((q0 : Int) + k1), f1, rfl, Nat.zero_le _, fun h => absurd h hfn.out, fun _ => HRD.out, ?_⟩
              rw [HQ.out]
              exact HBL.out
    | true =>
      have ha2 := and2 hx0 hx1 hg
      simp only [if_true] at ha2
      rw [hg] at hRP0
      have x0 := one_cell HS.out.hx
      obtain ⟨c0, c1, c2, c3, c4, c5, c6, c7⟩ := HS.out.hc.cs
      have zc := HS.out.hc.fz
      cases hw : bit x 1 with
      | false =>
        have ha1 := and1 hx0 hx1 hw
        simp only [Bool.false_eq_true, if_false] at ha1
        go_upto_region 6 with (fail)
        have HS := Lib.hid (HS.out.put_c (Only.set w9 ⟨q + 2, 4, none⟩ (.bool true)) (c' := ⟨0, 0, 0, 0, true, [], 0, 0⟩) (HS.out.hc.gn true))
        clear x0 c0 c1 c2 c3 c4 c5 c6 c7 zc
        clear ha2
        generalize w9.setCell ⟨q + 2, 4, none⟩ (.bool true) = V1 at *
        have hRP := hRP0.trans (parts_bare hw)
        change readP l = endR l x ⟨0, 0, 0, 0, true, [], 0, 0⟩ q0 at hRP
        have hPm : q0 ≤ m := hq02
        have y0 := one_cell HS.out.hx
        go_upto_region 11 with (fail)
        clear ha1 y0 hRP0
        have x0 := one_cell HS.out.hx
        obtain ⟨c0, c1, c2, c3, c4, c5, c6, c7⟩ := HS.out.hc.cs
        have zc := HS.out.hc.fz
        cases hd : bit x 4 with
        | false =>
          have ha4 := and4 hx0 hx1 hd
          simp only [Bool.false_eq_true, if_false] at ha4
          have HRD := Lib.hid (show readP l = some (⟨0, 0, 0, 0, true, [], 0, 0⟩, q0) by rw [hRP, end_no hd])
          go_upto_region 13 with (fail)
          have HK := Lib.hid (fun V (h : Only (q + 1) V1 V) => rd8_only HS.out h)
          have HE0 := Lib.hid (HS.out.hr)
          have HQL := Lib.hid HS.out.lt
          refine wp_region_flowR (fun x y => Only (q + 1) x y ∧ (x.heap[q + 1]? = y.heap[q + 1]? ∨ Cel y (q + 1) 0 0 0 0 true [] 0 0)) [none, none, some 4, none, some 6, some 7, none, none, none, none, none, none, none, none, none, none, none, none, none, none, none, none, none, none, none, none, none, none, none, none, none, none, none, none, none, none, none, none, none, none, none, none, none, none, some 0, some 1, some 2, some 3] (fun i => [undef, undef, undef, undef, .int .i64 0, undef, .int .i64 0, .int .i64 0].getD i undef) [(fun v _ => v = .int .i64 x), (fun v _ => v = .agg #[.int .i64 0, .int .i64 0, .int .i64 0, .int .i64 0, .bool true, .string (text []), .int .i64 0, .int .i64 0]), (fun v _ => v = .int .i64 (q0 : Int)), (fun v _ => v = .int .i64 0), (fun v _ => v = .int .i64 x), (fun v W => v = undef ∧ Cel W (q + 1) 0 0 0 0 true [] 0 0), (fun v _ => v = .int .i64 (q0 : Int)), (fun v _ => v = .int .i64 0)] (by kernel_rfl) (by kernel_rfl) rfl rfl rfl (fun a b c h1 h2 => ⟨h1.1.trans h2.1, same_or h1.2 h2.2 (fun h k => h.symm.trans k)⟩) ⟨⟨rfl, rfl, rfl, Nat.le_refl _, fun _ _ _ => rfl⟩, .inl rfl⟩ ?_ ?_ ?_
          · intro g hg v X Y hX hY hv
            simp only [List.mem_cons, List.not_mem_nil, or_false] at hg
            rcases hg with rfl | rfl | rfl | rfl | rfl | rfl | rfl | rfl
            all_goals first
              | exact hv
              | exact ⟨hv.1, cel_or hv.2 hY.2⟩
          · simp only [flowOpsR, and_true]
            refine ⟨?_, ?_, ?_, ?_, ?_, ?_, ?_, ?_⟩
            · intro xs W hW hn
              obtain ⟨y0, y1, y2, hcc, -⟩ := HK.out W hW.1
              clear hcc
              simp only [flowAct, List.zipWith_cons_cons, List.zipWith_nil_left]
              go_wp2_with (fail)
              exact ⟨rfl, _, rfl, ⟨⟨rfl, rfl, rfl, Nat.le_refl _, fun _ _ _ => rfl⟩, .inl rfl⟩, rfl⟩
            · intro xs W hW hn
              obtain ⟨y0, y1, y2, hcc, -⟩ := HK.out W hW.1
              obtain ⟨c0, c1, c2, c3, c4, c5, c6, c7⟩ := hcc.cs
              clear hcc
              simp only [flowAct, List.zipWith_cons_cons, List.zipWith_nil_left]
              go_wp2_with (fail)
              exact ⟨rfl, _, rfl, ⟨⟨rfl, rfl, rfl, Nat.le_refl _, fun _ _ _ => rfl⟩, .inl rfl⟩, rfl⟩
            · intro xs W hW hn
              obtain ⟨y0, y1, y2, hcc, -⟩ := HK.out W hW.1
              clear hcc
              simp only [flowAct, List.zipWith_cons_cons, List.zipWith_nil_left]
              go_wp2_with (fail)
              exact ⟨rfl, _, rfl, ⟨⟨rfl, rfl, rfl, Nat.le_refl _, fun _ _ _ => rfl⟩, .inl rfl⟩, rfl⟩
            · intro xs W hW hn
              obtain ⟨y0, y1, y2, hcc, -⟩ := HK.out W hW.1
              clear hcc
              simp only [flowAct, List.zipWith_cons_cons, List.zipWith_nil_left]
              go_wp2_with (fail)
              exact ⟨rfl, _, rfl, ⟨⟨rfl, rfl, rfl, Nat.le_refl _, fun _ _ _ => rfl⟩, .inl rfl⟩, rfl⟩
            · intro xs W hW hn
              simp [flowNeeds, Region.binds] at hn
              simp only [flowAct, List.zipWith_cons_cons, List.zipWith_nil_left]
              simp only [hn]
              go_wp2_with (fail)
              exact ⟨rfl, _, rfl, ⟨⟨rfl, rfl, rfl, Nat.le_refl _, fun _ _ _ => rfl⟩, .inl rfl⟩, rfl⟩
            · intro xs W hW hn
              simp [flowNeeds, Region.binds] at hn
              obtain ⟨n0, s0, a0, b0, g0, t0, d0, e0, hcel⟩ := cel_of HE0.out hW.2
              obtain ⟨r0, r1, r2, r3, r4, r5, r6, r7⟩ := hcel.cs
              have zr := hcel.fz
              have HCL := Lib.hid hcel
              clear hcel
              simp only [flowAct, List.zipWith_cons_cons, List.zipWith_nil_left]
              simp only [hn]
              go_wp2_with (fail)
              exact ⟨rfl, undef, rfl, ⟨only_put _ _ _ _ _ _ _ _ _ _, .inr (HCL.out.put 0 0 0 0 true [] 0 0)⟩, rfl, HCL.out.put 0 0 0 0 true [] 0 0⟩
            · intro xs W hW hn
              simp [flowNeeds, Region.binds] at hn
              simp only [flowAct, List.zipWith_cons_cons, List.zipWith_nil_left]
              simp only [hn]
              go_wp2_with (fail)
              exact ⟨rfl, _, rfl, ⟨⟨rfl, rfl, rfl, Nat.le_refl _, fun _ _ _ => rfl⟩, .inl rfl⟩, rfl⟩
            · intro xs W hW hn
              simp [flowNeeds, Region.binds] at hn
              simp only [flowAct, List.zipWith_cons_cons, List.zipWith_nil_left]
              simp only [hn]
              go_wp2_with (fail)
              exact ⟨rfl, _, rfl, ⟨⟨rfl, rfl, rfl, Nat.le_refl _, fun _ _ _ => rfl⟩, .inl rfl⟩, rfl⟩
          · intro xs W hW hall
            simp only [flowAll, and_true, Nat.zero_add, Nat.reduceAdd] at hall
            obtain ⟨-, -, -, -, e4, e5, e6, e7⟩ := hall
            simp only [flowAct, List.zipWith_cons_cons, List.zipWith_nil_left, e4, e6, e7]
            obtain ⟨-, -, -, -, hbl⟩ := HK.out W hW.1
            have HBL := Lib.hid hbl
            have HCL := Lib.hid e5.2
            clear hbl e5 e4 e6 e7
            go_wp2
            refine bodyPost_ret (res_tct2 rfl _ _ (q + 1) 50 _ (0, 0) _ (.int .i64 x) (.int .i64 (q0 : Int)) (.int .i64 0) rfl rfl rfl rfl HCL.out Tryd.underlying50 rfl (sizeC _ _ _ _ _ _ _ _)) rfl ⟨x, ⟨0, 0, 0, 0, true, [], 0, 0⟩, (q0 : Int), 0, rfl, Nat.zero_le _, fun _ => ⟨q0, rfl, by omega, HX.out.symm, HRD.out⟩, fun h => absurd rfl h, ?_⟩
            rw [HQ.out]
            exact HBL.out
        | true =>
          have ha4 := and4 hx0 hx1 hd
          simp only [if_true] at ha4
          go_upto_region 12 with (fail)
          clear x0 c0 c1 c2 c3 c4 c5 c6 c7 zc
          have hok4 := vgetS_ok (l.drop q0)
          have hbad4 := @end_bad l x ⟨0, 0, 0, 0, true, [], 0, 0⟩ q0 hd
          have hyes4 := @end_yes l x ⟨0, 0, 0, 0, true, [], 0, 0⟩ q0
          have hdl : (l.drop q0).length = m - q0 := by rw [List.length_drop, hlen]
          obtain ⟨⟨⟨d4, e4⟩, k4, f4⟩, hv4⟩ : ∃ z, vgetS (l.drop q0) = z := ⟨_, rfl⟩
          have hk4 := vget_cnt hv4
          rw [hv4] at hok4 hbad4
          simp only at hok4 hbad4
          rw [hdl] at hk4
          have HST := Lib.hid (stepD_c HS.out HBY.out hq02 d4 e4 k4 f4 hv4 hk4.1 (by omega))
          go_upto_region 13 with (first
            | (go_at_call 101; (with_reducible refine (mkV_c _ _).mono ?_); rintro e9 w8 ⟨rfl, rfl⟩)
            | (go_at_call 97; (with_reducible refine HST.out.mono ?_); rintro e9 w29 ⟨rfl, hS⟩))
          clear HST
          by_cases h4 : f4 = 0
          · subst h4
            obtain ⟨q4, rfl, hq4⟩ := hok4 rfl
            rw [hdl] at hq4
            have hR2 := hRP.trans (hyes4 hd hv4)
            obtain ⟨P4, hP4⟩ : ∃ z, q0 + q4 = z := ⟨_, rfl⟩
            have HS := Lib.hid (show Rd8 w w29 q ad m cap x (P4 : Int) 0 ⟨0, 0, 0, 0, true, [], d4, e4⟩ by have := hS; rwa [show (q0 : Int) + (q4 : Int) = (P4 : Int) by omega] at this)
            rw [hP4] at hR2
            have hPm : P4 ≤ m := by omega
            clear hS hP4 hk4 hok4 hbad4 hyes4
            have HRD := Lib.hid (show readP l = some (⟨0, 0, 0, 0, true, [], d4, e4⟩, P4) by exact hR2)
            go_upto_region 13 with (fail)
            have HK := Lib.hid (fun V (h : Only (q + 1) w29 V) => rd8_only HS.out h)
            have HE0 := Lib.hid (HS.out.hr)
            have HQL := Lib.hid HS.out.lt
            refine wp_region_flowR (fun x y => Only (q + 1) x y ∧ (x.heap[q + 1]? = y.heap[q + 1]? ∨ Cel y (q + 1) 0 0 0 0 true [] d4 e4)) [none, none, some 4, none, some 6, some 7, none, none, none, none, none, none, none, none, none, none, none, none, none, none, none, none, none, none, none, none, none, none, none, none, none, none, none, none, none, none, none, none, none, none, none, none, none, none, some 0, some 1, some 2, some 3] (fun i => [undef, undef, undef, undef, .int .i64 0, undef, .int .i64 0, .int .i64 0].getD i undef) [(fun v _ => v = .int .i64 x), (fun v _ => v = .agg #[.int .i64 0, .int .i64 0, .int .i64 0, .int .i64 0, .bool true, .string (text []), .int .i64 d4, .int .i64 e4]), (fun v _ => v = .int .i64 (P4 : Int)), (fun v _ => v = .int .i64 0), (fun v _ => v = .int .i64 x), (fun v W => v = undef ∧ Cel W (q + 1) 0 0 0 0 true [] d4 e4), (fun v _ => v = .int .i64 (P4 : Int)), (fun v _ => v = .int .i64 0)] (by kernel_rfl) (by kernel_rfl) rfl rfl rfl (fun a b c h1 h2 => ⟨h1.1.trans h2.1, same_or h1.2 h2.2 (fun h k => h.symm.trans k)⟩) ⟨⟨rfl, rfl, rfl, Nat.le_refl _, fun _ _ _ => rfl⟩, .inl rfl⟩ ?_ ?_ ?_
            · intro g hg v X Y hX hY hv
              simp only [List.mem_cons, List.not_mem_nil, or_false] at hg
              rcases hg with rfl | rfl | rfl | rfl | rfl | rfl | rfl | rfl
              all_goals first
                | exact hv
                | exact ⟨hv.1, cel_or hv.2 hY.2⟩
            · simp only [flowOpsR, and_true]
              refine ⟨?_, ?_, ?_, ?_, ?_, ?_, ?_, ?_⟩
              · intro xs W hW hn
                obtain ⟨y0, y1, y2, hcc, -⟩ := HK.out W hW.1
                clear hcc
                simp only [flowAct, List.zipWith_cons_cons, List.zipWith_nil_left]
                go_wp2_with (fail)
                exact ⟨rfl, _, rfl, ⟨⟨rfl, rfl, rfl, Nat.le_refl _, fun _ _ _ => rfl⟩, .inl rfl⟩, rfl⟩
              · intro xs W hW hn
                obtain ⟨y0, y1, y2, hcc, -⟩ := HK.out W hW.1
                obtain ⟨c0, c1, c2, c3, c4, c5, c6, c7⟩ := hcc.cs
                clear hcc
                simp only [flowAct, List.zipWith_cons_cons, List.zipWith_nil_left]
                go_wp2_with (fail)
                exact ⟨rfl, _, rfl, ⟨⟨rfl, rfl, rfl, Nat.le_refl _, fun _ _ _ => rfl⟩, .inl rfl⟩, rfl⟩
              · intro xs W hW hn
                obtain ⟨y0, y1, y2, hcc, -⟩ := HK.out W hW.1
                clear hcc
                simp only [flowAct, List.zipWith_cons_cons, List.zipWith_nil_left]
                go_wp2_with (fail)
                exact ⟨rfl, _, rfl, ⟨⟨rfl, rfl, rfl, Nat.le_refl _, fun _ _ _ => rfl⟩, .inl rfl⟩, rfl⟩
              · intro xs W hW hn
                obtain ⟨y0, y1, y2, hcc, -⟩ := HK.out W hW.1
                clear hcc
                simp only [flowAct, List.zipWith_cons_cons, List.zipWith_nil_left]
                go_wp2_with (fail)
                exact ⟨rfl, _, rfl, ⟨⟨rfl, rfl, rfl, Nat.le_refl _, fun _ _ _ => rfl⟩, .inl rfl⟩, rfl⟩
              · intro xs W hW hn
                simp [flowNeeds, Region.binds] at hn
                simp only [flowAct, List.zipWith_cons_cons, List.zipWith_nil_left]
                simp only [hn]
                go_wp2_with (fail)
                exact ⟨rfl, _, rfl, ⟨⟨rfl, rfl, rfl, Nat.le_refl _, fun _ _ _ => rfl⟩, .inl rfl⟩, rfl⟩
              · intro xs W hW hn
                simp [flowNeeds, Region.binds] at hn
                obtain ⟨n0, s0, a0, b0, g0, t0, d0, e0, hcel⟩ := cel_of HE0.out hW.2
                obtain ⟨r0, r1, r2, r3, r4, r5, r6, r7⟩ := hcel.cs
                have zr := hcel.fz
                have HCL := Lib.hid hcel
                clear hcel
                simp only [flowAct, List.zipWith_cons_cons, List.zipWith_nil_left]
                simp only [hn]
                go_wp2_with (fail)
                exact ⟨rfl, undef, rfl, ⟨only_put _ _ _ _ _ _ _ _ _ _, .inr (HCL.out.put 0 0 0 0 true [] d4 e4)⟩, rfl, HCL.out.put 0 0 0 0 true [] d4 e4⟩
              · intro xs W hW hn
                simp [flowNeeds, Region.binds] at hn
                simp only [flowAct, List.zipWith_cons_cons, List.zipWith_nil_left]
                simp only [hn]
                go_wp2_with (fail)
                exact ⟨rfl, _, rfl, ⟨⟨rfl, rfl, rfl, Nat.le_refl _, fun _ _ _ => rfl⟩, .inl rfl⟩, rfl⟩
              · intro xs W hW hn
                simp [flowNeeds, Region.binds] at hn
                simp only [flowAct, List.zipWith_cons_cons, List.zipWith_nil_left]
                simp only [hn]
                go_wp2_with (fail)
                exact ⟨rfl, _, rfl, ⟨⟨rfl, rfl, rfl, Nat.le_refl _, fun _ _ _ => rfl⟩, .inl rfl⟩, rfl⟩
            · intro xs W hW hall
              simp only [flowAll, and_true, Nat.zero_add, Nat.reduceAdd] at hall
              obtain ⟨-, -, -, -, e4, e5, e6, e7⟩ := hall
              simp only [flowAct, List.zipWith_cons_cons, List.zipWith_nil_left, e4, e6, e7]
              obtain ⟨-, -, -, -, hbl⟩ := HK.out W hW.1
              have HBL := Lib.hid hbl
              have HCL := Lib.hid e5.2
              clear hbl e5 e4 e6 e7
              go_wp2
              refine bodyPost_ret (res_tct2 rfl _ _ (q + 1) 50 _ (0, 0) _ (.int .i64 x) (.int .i64 (P4 : Int)) (.int .i64 0) rfl rfl rfl rfl HCL.out Tryd.underlying50 rfl (sizeC _ _ _ _ _ _ _ _)) rfl ⟨x, ⟨0, 0, 0, 0, true, [], d4, e4⟩, (P4 : Int), 0, rfl, Nat.zero_le _, fun _ => ⟨P4, rfl, by omega, HX.out.symm, HRD.out⟩, fun h => absurd rfl h, ?_⟩
              rw [HQ.out]
              exact HBL.out
          · have hfn := Lib.hid h4
            have hR2 := hRP.trans (hbad4 h4)
            have HS := Lib.hid hS
            clear hS hk4 hok4 hbad4 hyes4 h4
            have HRD := Lib.hid (show readP l = none by exact hR2)
            go_upto_region 13 with (fail)
            have HK := Lib.hid (fun V (h : Only (q + 1) w29 V) => rd8_only HS.out h)
            have HE0 := Lib.hid (HS.out.hr)
            have HQL := Lib.hid HS.out.lt
            refine wp_region_flowR (fun x y => Only (q + 1) x y ∧ (x.heap[q + 1]? = y.heap[q + 1]? ∨ Cel y (q + 1) 0 0 0 0 true [] d4 e4)) [none, none, some 4, none, some 6, some 7, none, none, none, none, none, none, none, none, none, none, none, none, none, none, none, none, none, none, none, none, none, none, none, none, none, none, none, none, none, none, none, none, none, none, none, none, none, none, some 0, some 1, some 2, some 3] (fun i => [undef, undef, undef, undef, .int .i64 0, undef, .int .i64 0, .int .i64 0].getD i undef) [(fun v _ => v = .int .i64 x), (fun v _ => v = .agg #[.int .i64 0, .int .i64 0, .int .i64 0, .int .i64 0, .bool true, .string (text []), .int .i64 d4, .int .i64 e4]), (fun v _ => v = .int .i64 ((q0 : Int) + k4)), (fun v _ => v = .int .i64 f4), (fun v _ => v = .int .i64 x), (fun v W => v = undef ∧ Cel W (q + 1) 0 0 0 0 true [] d4 e4), (fun v _ => v = .int .i64 ((q0 : Int) + k4)), (fun v _ => v = .int .i64 f4)] (by kernel_rfl) (by kernel_rfl) rfl rfl rfl (fun a b c h1 h2 => ⟨h1.1.trans h2.1, same_or h1.2 h2.2 (fun h k => h.symm.trans k)⟩) ⟨⟨rfl, rfl, rfl, Nat.le_refl _, fun _ _ _ => rfl⟩, .inl rfl⟩ ?_ ?_ ?_
            · intro g hg v X Y hX hY hv
              simp only [List.mem_cons, List.not_mem_nil, or_false] at hg
              rcases hg with rfl | rfl | rfl | rfl | rfl | rfl | rfl | rfl
              all_goals first
                | exact hv
                | exact ⟨hv.1, cel_or hv.2 hY.2⟩
            · simp only [flowOpsR, and_true]
              refine ⟨?_, ?_, ?_, ?_, ?_, ?_, ?_, ?_⟩
              · intro xs W hW hn
                obtain ⟨y0, y1, y2, hcc, -⟩ := HK.out W hW.1
                clear hcc
                simp only [flowAct, List.zipWith_cons_cons, List.zipWith_nil_left]
                go_wp2_with (fail)
                exact ⟨rfl, _, rfl, ⟨⟨rfl, rfl, rfl, Nat.le_refl _, fun _ _ _ => rfl⟩, .inl rfl⟩, rfl⟩
              · intro xs W hW hn
                obtain ⟨y0, y1, y2, hcc, -⟩ := HK.out W hW.1
                obtain ⟨c0, c1, c2, c3, c4, c5, c6, c7⟩ := hcc.cs
                clear hcc
                simp only [flowAct, List.zipWith_cons_cons, List.zipWith_nil_left]
                go_wp2_with (fail)
                exact ⟨rfl, _, rfl, ⟨⟨rfl, rfl, rfl, Nat.le_refl _, fun _ _ _ => rfl⟩, .inl rfl⟩, rfl⟩
              · intro xs W hW hn
                obtain ⟨y0, y1, y2, hcc, -⟩ := HK.out W hW.1
                clear hcc
                simp only [flowAct, List.zipWith_cons_cons, List.zipWith_nil_left]
                go_wp2_with (fail)
                exact ⟨rfl, _, rfl, ⟨⟨rfl, rfl, rfl, Nat.le_refl _, fun _ _ _ => rfl⟩, .inl rfl⟩, rfl⟩
              · intro xs W hW hn
                obtain ⟨y0, y1, y2, hcc, -⟩ := HK.out W hW.1
                clear hcc
                simp only [flowAct, List.zipWith_cons_cons, List.zipWith_nil_left]
                go_wp2_with (fail)
                exact ⟨rfl, _, rfl, ⟨⟨rfl, rfl, rfl, Nat.le_refl _, fun _ _ _ => rfl⟩, .inl rfl⟩, rfl⟩
              · intro xs W hW hn
                simp [flowNeeds, Region.binds] at hn
                simp only [flowAct, List.zipWith_cons_cons, List.zipWith_nil_left]
                simp only [hn]
                go_wp2_with (fail)
                exact ⟨rfl, _, rfl, ⟨⟨rfl, rfl, rfl, Nat.le_refl _, fun _ _ _ => rfl⟩, .inl rfl⟩, rfl⟩
              · intro xs W hW hn
                simp [flowNeeds, Region.binds] at hn
                obtain ⟨n0, s0, a0, b0, g0, t0, d0, e0, hcel⟩ := cel_of HE0.out hW.2
                obtain ⟨r0, r1, r2, r3, r4, r5, r6, r7⟩ := hcel.cs
                have zr := hcel.fz
                have HCL := Lib.hid hcel
                clear hcel
                simp only [flowAct, List.zipWith_cons_cons, List.zipWith_nil_left]
                simp only [hn]
                go_wp2_with (fail)
                exact ⟨rfl, undef, rfl, ⟨only_put _ _ _ _ _ _ _ _ _ _, .inr (HCL.out.put 0 0 0 0 true [] d4 e4)⟩, rfl, HCL.out.put 0 0 0 0 true [] d4 e4⟩
              · intro xs W hW hn
                simp [flowNeeds, Region.binds] at hn
                simp only [flowAct, List.zipWith_cons_cons, List.zipWith_nil_left]
                simp only [hn]
                go_wp2_with (fail)
                exact ⟨rfl, _, rfl, ⟨⟨rfl, rfl, rfl, Nat.le_refl _, fun _ _ _ => rfl⟩, .inl rfl⟩, rfl⟩
              · intro xs W hW hn
                simp [flowNeeds, Region.binds] at hn
                simp only [flowAct, List.zipWith_cons_cons, List.zipWith_nil_left]
                simp only [hn]
                go_wp2_with (fail)
                exact ⟨rfl, _, rfl, ⟨⟨rfl, rfl, rfl, Nat.le_refl _, fun _ _ _ => rfl⟩, .inl rfl⟩, rfl⟩
            · intro xs W hW hall
              simp only [flowAll, and_true, Nat.zero_add, Nat.reduceAdd] at hall
              obtain ⟨-, -, -, -, e4, e5, e6, e7⟩ := hall
              simp only [flowAct, List.zipWith_cons_cons, List.zipWith_nil_left, e4, e6, e7]
              obtain ⟨-, -, -, -, hbl⟩ := HK.out W hW.1
              have HBL := Lib.hid hbl
              have HCL := Lib.hid e5.2
              clear hbl e5 e4 e6 e7
              go_wp2
              refine bodyPost_ret (res_tct2 rfl _ _ (q + 1) 50 _ (0, 0) _ (.int .i64 x) (.int .i64 ((q0 : Int) + k4)) (.int .i64 f4) rfl rfl rfl rfl HCL.out Tryd.underlying50 rfl (sizeC _ _ _ _ _ _ _ _)) rfl ⟨x, ⟨0, 0, 0, 0, true, [], d4, e4⟩, ((q0 : Int) + k4), f4, rfl, Nat.zero_le _, fun h => absurd h hfn.out, fun _ => HRD.out, ?_⟩
              rw [HQ.out]
              exact HBL.out
      | true =>
        have ha1 := and1 hx0 hx1 hw
        simp only [if_true] at ha1
        go_upto_region 6 with (fail)
        have HS := Lib.hid (HS.out.put_c (Only.set w9 ⟨q + 2, 4, none⟩ (.bool true)) (c' := ⟨0, 0, 0, 0, true, [], 0, 0⟩) (HS.out.hc.gn true))
        clear x0 c0 c1 c2 c3 c4 c5 c6 c7 zc
        clear ha2
        generalize w9.setCell ⟨q + 2, 4, none⟩ (.bool true) = V1 at *
        have y0 := one_cell HS.out.hx
        go_upto_region 7 with (fail)
        clear ha1 y0
        have hok1 := sgetS_ok (l.drop q0)
        have hd1 : (l.drop q0).length = m - q0 := by rw [List.length_drop, hlen]
        have hm1 := fun g => @mid_stamp l q0 g
        obtain ⟨⟨⟨n, s⟩, k1, f1⟩, hv1⟩ : ∃ z, sgetS (l.drop q0) = z := ⟨_, rfl⟩
        have hk1 := sget_cnt hv1
        rw [hv1] at hok1 hm1
        simp only at hok1 hm1
        rw [hd1] at hk1
        have HST := Lib.hid (stepS_c HS.out HBY.out hq02 n s k1 f1 hv1 hk1.1 (by omega))
        go_upto_region 8 with (first
          | (go_at_call 99; (with_reducible refine (mkS_c _ _).mono ?_); rintro e9 w8 ⟨rfl, rfl⟩)
          | (go_at_call 97; (with_reducible refine HST.out.mono ?_); rintro e9 w2 ⟨rfl, hS⟩))
        clear HST
        by_cases h1 : f1 = 0
        · subst h1
          obtain ⟨q1, rfl, hq1⟩ := hok1 rfl
          rw [hd1] at hq1
          obtain ⟨P1, hP1⟩ : ∃ z, q0 + q1 = z := ⟨_, rfl⟩
          have hP1m : P1 ≤ m := by omega
          have HS := Lib.hid (show Rd8 w w2 q ad m cap x (P1 : Int) 0 ⟨n, s, 0, 0, true, [], 0, 0⟩ by have := hS; rwa [show (q0 : Int) + (q1 : Int) = (P1 : Int) by omega] at this)
          clear hS hm1 hok1 hk1 hd1
          have hm2 := fun g => @mid_vec l q0 q1 g n s hv1
          have hv1b := hv1
          have hok2 := vgetS_ok (l.drop P1)
          have hd2 : (l.drop P1).length = m - P1 := by rw [List.length_drop, hlen]
          rw [hP1] at hm2
          obtain ⟨⟨⟨a, b⟩, k2, f2⟩, hv2⟩ : ∃ z, vgetS (l.drop P1) = z := ⟨_, rfl⟩
          have hk2 := vget_cnt hv2
          rw [hv2] at hok2 hm2
          simp only at hok2 hm2
          rw [hd2] at hk2
          have HST := Lib.hid (stepV_c HS.out HBY.out hP1m a b k2 f2 hv2 hk2.1 (by omega))
          go_upto_region 9 with (first
            | (go_at_call 101; (with_reducible refine (mkV_c _ _).mono ?_); rintro e9 w8 ⟨rfl, rfl⟩)
            | (go_at_call 97; (with_reducible refine HST.out.mono ?_); rintro e9 w3 ⟨rfl, hS⟩))
          clear HST
          by_cases h2 : f2 = 0
          · subst h2
            obtain ⟨q2, rfl, hq2⟩ := hok2 rfl
            rw [hd2] at hq2
            obtain ⟨P2, hP2⟩ : ∃ z, P1 + q2 = z := ⟨_, rfl⟩
            have hP2m : P2 ≤ m := by omega
            have HS := Lib.hid (show Rd8 w w3 q ad m cap x (P2 : Int) 0 ⟨n, s, a, b, true, [], 0, 0⟩ by have := hS; rwa [show (P1 : Int) + (q2 : Int) = (P2 : Int) by omega] at this)
            clear hS hm2 hok2 hk2 hd2
            have hv2b : vgetS (l.drop (q0 + q1)) = ((a, b), (q2 : Int), 0) := by rw [hP1]; exact hv2
            have hRP := hRP0.trans (parts_some hw (mid_gone hv1b hv2b))
            rw [hP1, hP2] at hRP
            have hPm := hP2m
            clear hRP0 hP1 hP2 hv1b hv2b hv2
            have x0 := one_cell HS.out.hx
            obtain ⟨c0, c1, c2, c3, c4, c5, c6, c7⟩ := HS.out.hc.cs
            have zc := HS.out.hc.fz
            go_upto_region 11 with (fail)
            clear x0 c0 c1 c2 c3 c4 c5 c6 c7 zc
            have x0 := one_cell HS.out.hx
            obtain ⟨c0, c1, c2, c3, c4, c5, c6, c7⟩ := HS.out.hc.cs
            have zc := HS.out.hc.fz
            cases hd : bit x 4 with
            | false =>
              have ha4 := and4 hx0 hx1 hd
              simp only [Bool.false_eq_true, if_false] at ha4
              have HRD := Lib.hid (show readP l = some (⟨n, s, a, b, true, [], 0, 0⟩, P2) by rw [hRP, end_no hd])
              go_upto_region 13 with (fail)
              have HK := Lib.hid (fun V (h : Only (q + 1) w3 V) => rd8_only HS.out h)
              have HE0 := Lib.hid (HS.out.hr)
              have HQL := Lib.hid HS.out.lt
              refine wp_region_flowR (fun x y => Only (q + 1) x y ∧ (x.heap[q + 1]? = y.heap[q + 1]? ∨ Cel y (q + 1) n s a b true [] 0 0)) [none, none, some 4, none, some 6, some 7, none, none, none, none, none, none, none, none, none, none, none, none, none, none, none, none, none, none, none, none, none, none, none, none, none, none, none, none, none, none, none, none, none, none, none, none, none, none, some 0, some 1, some 2, some 3] (fun i => [undef, undef, undef, undef, .int .i64 0, undef, .int .i64 0, .int .i64 0].getD i undef) [(fun v _ => v = .int .i64 x), (fun v _ => v = .agg #[.int .i64 n, .int .i64 s, .int .i64 a, .int .i64 b, .bool true, .string (text []), .int .i64 0, .int .i64 0]), (fun v _ => v = .int .i64 (P2 : Int)), (fun v _ => v = .int .i64 0), (fun v _ => v = .int .i64 x), (fun v W => v = undef ∧ Cel W (q + 1) n s a b true [] 0 0), (fun v _ => v = .int .i64 (P2 : Int)), (fun v _ => v = .int .i64 0)] (by kernel_rfl) (by kernel_rfl) rfl rfl rfl (fun a b c h1 h2 => ⟨h1.1.trans h2.1, same_or h1.2 h2.2 (fun h k => h.symm.trans k)⟩) ⟨⟨rfl, rfl, rfl, Nat.le_refl _, fun _ _ _ => rfl⟩, .inl rfl⟩ ?_ ?_ ?_
              · intro g hg v X Y hX hY hv
                simp only [List.mem_cons, List.not_mem_nil, or_false] at hg
                rcases hg with rfl | rfl | rfl | rfl | rfl | rfl | rfl | rfl
                all_goals first
                  | exact hv
                  | exact ⟨hv.1, cel_or hv.2 hY.2⟩
              · simp only [flowOpsR, and_true]
                refine ⟨?_, ?_, ?_, ?_, ?_, ?_, ?_, ?_⟩
                · intro xs W hW hn
                  obtain ⟨y0, y1, y2, hcc, -⟩ := HK.out W hW.1
                  clear hcc
                  simp only [flowAct, List.zipWith_cons_cons, List.zipWith_nil_left]
                  go_wp2_with (fail)
                  exact ⟨rfl, _, rfl, ⟨⟨rfl, rfl, rfl, Nat.le_refl _, fun _ _ _ => rfl⟩, .inl rfl⟩, rfl⟩
                · intro xs W hW hn
                  obtain ⟨y0, y1, y2, hcc, -⟩ := HK.out W hW.1
                  obtain ⟨c0, c1, c2, c3, c4, c5, c6, c7⟩ := hcc.cs
                  clear hcc
                  simp only [flowAct, List.zipWith_cons_cons, List.zipWith_nil_left]
                  go_wp2_with (fail)
                  exact ⟨rfl, _, rfl, ⟨⟨rfl, rfl, rfl, Nat.le_refl _, fun _ _ _ => rfl⟩, .inl rfl⟩, rfl⟩
                · intro xs W hW hn
                  obtain ⟨y0, y1, y2, hcc, -⟩ := HK.out W hW.1
                  clear hcc
                  simp only [flowAct, List.zipWith_cons_cons, List.zipWith_nil_left]
                  go_wp2_with (fail)
                  exact ⟨rfl, _, rfl, ⟨⟨rfl, rfl, rfl, Nat.le_refl _, fun _ _ _ => rfl⟩, .inl rfl⟩, rfl⟩
                · intro xs W hW hn
                  obtain ⟨y0, y1, y2, hcc, -⟩ := HK.out W hW.1
                  clear hcc
                  simp only [flowAct, List.zipWith_cons_cons, List.zipWith_nil_left]
                  go_wp2_with (fail)
                  exact ⟨rfl, _, rfl, ⟨⟨rfl, rfl, rfl, Nat.le_refl _, fun _ _ _ => rfl⟩, .inl rfl⟩, rfl⟩
                · intro xs W hW hn
                  simp [flowNeeds, Region.binds] at hn
                  simp only [flowAct, List.zipWith_cons_cons, List.zipWith_nil_left]
                  simp only [hn]
                  go_wp2_with (fail)
                  exact ⟨rfl, _, rfl, ⟨⟨rfl, rfl, rfl, Nat.le_refl _, fun _ _ _ => rfl⟩, .inl rfl⟩, rfl⟩
                · intro xs W hW hn
                  simp [flowNeeds, Region.binds] at hn
                  obtain ⟨n0, s0, a0, b0, g0, t0, d0, e0, hcel⟩ := cel_of HE0.out hW.2
                  obtain ⟨r0, r1, r2, r3, r4, r5, r6, r7⟩ := hcel.cs
                  have zr := hcel.fz
                  have HCL := Lib.hid hcel
                  clear hcel
                  simp only [flowAct, List.zipWith_cons_cons, List.zipWith_nil_left]
                  simp only [hn]
                  go_wp2_with (fail)
                  exact ⟨rfl, undef, rfl, ⟨only_put _ _ _ _ _ _ _ _ _ _, .inr (HCL.out.put n s a b true [] 0 0)⟩, rfl, HCL.out.put n s a b true [] 0 0⟩
                · intro xs W hW hn
                  simp [flowNeeds, Region.binds] at hn
                  simp only [flowAct, List.zipWith_cons_cons, List.zipWith_nil_left]
                  simp only [hn]
                  go_wp2_with (fail)
                  exact ⟨rfl, _, rfl, ⟨⟨rfl, rfl, rfl, Nat.le_refl _, fun _ _ _ => rfl⟩, .inl rfl⟩, rfl⟩
                · intro xs W hW hn
                  simp [flowNeeds, Region.binds] at hn
                  simp only [flowAct, List.zipWith_cons_cons, List.zipWith_nil_left]
                  simp only [hn]
                  go_wp2_with (fail)
                  exact ⟨rfl, _, rfl, ⟨⟨rfl, rfl, rfl, Nat.le_refl _, fun _ _ _ => rfl⟩, .inl rfl⟩, rfl⟩
              · intro xs W hW hall
                simp only [flowAll, and_true, Nat.zero_add, Nat.reduceAdd] at hall
                obtain ⟨-, -, -, -, e4, e5, e6, e7⟩ := hall
                simp only [flowAct, List.zipWith_cons_cons, List.zipWith_nil_left, e4, e6, e7]
                obtain ⟨-, -, -, -, hbl⟩ := HK.out W hW.1
                have HBL := Lib.hid hbl
                have HCL := Lib.hid e5.2
                clear hbl e5 e4 e6 e7
                go_wp2
                refine bodyPost_ret (res_tct2 rfl _ _ (q + 1) 50 _ (0, 0) _ (.int .i64 x) (.int .i64 (P2 : Int)) (.int .i64 0) rfl rfl rfl rfl HCL.out Tryd.underlying50 rfl (sizeC _ _ _ _ _ _ _ _)) rfl ⟨x, ⟨n, s, a, b, true, [], 0, 0⟩, (P2 : Int), 0, rfl, Nat.zero_le _, fun _ => ⟨P2, rfl, by omega, HX.out.symm, HRD.out⟩, fun h => absurd rfl h, ?_⟩
                rw [HQ.out]
                exact HBL.out
            | true =>
              have ha4 := and4 hx0 hx1 hd
              simp only [if_true] at ha4
              go_upto_region 12 with (fail)
              clear x0 c0 c1 c2 c3 c4 c5 c6 c7 zc
              have hok4 := vgetS_ok (l.drop P2)
              have hbad4 := @end_bad l x ⟨n, s, a, b, true, [], 0, 0⟩ P2 hd
              have hyes4 := @end_yes l x ⟨n, s, a, b, true, [], 0, 0⟩ P2
              have hdl : (l.drop P2).length = m - P2 := by rw [List.length_drop, hlen]
              obtain ⟨⟨⟨d4, e4⟩, k4, f4⟩, hv4⟩ : ∃ z, vgetS (l.drop P2) = z := ⟨_, rfl⟩
              have hk4 := vget_cnt hv4
              rw [hv4] at hok4 hbad4
              simp only at hok4 hbad4
              rw [hdl] at hk4
              have HST := Lib.hid (stepD_c HS.out HBY.out hP2m d4 e4 k4 f4 hv4 hk4.1 (by omega))
              go_upto_region 13 with (first
                | (go_at_call 101; (with_reducible refine (mkV_c _ _).mono ?_); rintro e9 w8 ⟨rfl, rfl⟩)
                | (go_at_call 97; (with_reducible refine HST.out.mono ?_); rintro e9 w30 ⟨rfl, hS⟩))
              clear HST
              by_cases h4 : f4 = 0
              · subst h4
                obtain ⟨q4, rfl, hq4⟩ := hok4 rfl
                rw [hdl] at hq4
                have hR2 := hRP.trans (hyes4 hd hv4)
                obtain ⟨P4, hP4⟩ : ∃ z, P2 + q4 = z := ⟨_, rfl⟩
                have HS := Lib.hid (show Rd8 w w30 q ad m cap x (P4 : Int) 0 ⟨n, s, a, b, true, [], d4, e4⟩ by have := hS; rwa [show (P2 : Int) + (q4 : Int) = (P4 : Int) by omega] at this)
                rw [hP4] at hR2
                have hPm : P4 ≤ m := by omega
                clear hS hP4 hk4 hok4 hbad4 hyes4
                have HRD := Lib.hid (show readP l = some (⟨n, s, a, b, true, [], d4, e4⟩, P4) by exact hR2)
                go_upto_region 13 with (fail)
                have HK := Lib.hid (fun V (h : Only (q + 1) w30 V) => rd8_only HS.out h)
                have HE0 := Lib.hid (HS.out.hr)
                have HQL := Lib.hid HS.out.lt
                refine wp_region_flowR (fun x y => Only (q + 1) x y ∧ (x.heap[q + 1]? = y.heap[q + 1]? ∨ Cel y (q + 1) n s a b true [] d4 e4)) [none, none, some 4, none, some 6, some 7, none, none, none, none, none, none, none, none, none, none, none, none, none, none, none, none, none, none, none, none, none, none, none, none, none, none, none, none, none, none, none, none, none, none, none, none, none, none, some 0, some 1, some 2, some 3] (fun i => [undef, undef, undef, undef, .int .i64 0, undef, .int .i64 0, .int .i64 0].getD i undef) [(fun v _ => v = .int .i64 x), (fun v _ => v = .agg #[.int .i64 n, .int .i64 s, .int .i64 a, .int .i64 b, .bool true, .string (text []), .int .i64 d4, .int .i64 e4]), (fun v _ => v = .int .i64 (P4 : Int)), (fun v _ => v = .int .i64 0), (fun v _ => v = .int .i64 x), (fun v W => v = undef ∧ Cel W (q + 1) n s a b true [] d4 e4), (fun v _ => v = .int .i64 (P4 : Int)), (fun v _ => v = .int .i64 0)] (by kernel_rfl) (by kernel_rfl) rfl rfl rfl (fun a b c h1 h2 => ⟨h1.1.trans h2.1, same_or h1.2 h2.2 (fun h k => h.symm.trans k)⟩) ⟨⟨rfl, rfl, rfl, Nat.le_refl _, fun _ _ _ => rfl⟩, .inl rfl⟩ ?_ ?_ ?_
                · intro g hg v X Y hX hY hv
                  simp only [List.mem_cons, List.not_mem_nil, or_false] at hg
                  rcases hg with rfl | rfl | rfl | rfl | rfl | rfl | rfl | rfl
                  all_goals first
                    | exact hv
                    | exact ⟨hv.1, cel_or hv.2 hY.2⟩
                · simp only [flowOpsR, and_true]
                  refine ⟨?_, ?_, ?_, ?_, ?_, ?_, ?_, ?_⟩
                  · intro xs W hW hn
                    obtain ⟨y0, y1, y2, hcc, -⟩ := HK.out W hW.1
                    clear hcc
                    simp only [flowAct, List.zipWith_cons_cons, List.zipWith_nil_left]
                    go_wp2_with (fail)
                    exact ⟨rfl, _, rfl, ⟨⟨rfl, rfl, rfl, Nat.le_refl _, fun _ _ _ => rfl⟩, .inl rfl⟩, rfl⟩
                  · intro xs W hW hn
                    obtain ⟨y0, y1, y2, hcc, -⟩ := HK.out W hW.1
                    obtain ⟨c0, c1, c2, c3, c4, c5, c6, c7⟩ := hcc.cs
                    clear hcc
                    simp only [flowAct, List.zipWith_cons_cons, List.zipWith_nil_left]
                    go_wp2_with (fail)
                    exact ⟨rfl, _, rfl, ⟨⟨rfl, rfl, rfl, Nat.le_refl _, fun _ _ _ => rfl⟩, .inl rfl⟩, rfl⟩
                  · intro xs W hW hn
                    obtain ⟨y0, y1, y2, hcc, -⟩ := HK.out W hW.1
                    clear hcc
                    simp only [flowAct, List.zipWith_cons_cons, List.zipWith_nil_left]
                    go_wp2_with (fail)
                    exact ⟨rfl, _, rfl, ⟨⟨rfl, rfl, rfl, Nat.le_refl _, fun _ _ _ => rfl⟩, .inl rfl⟩, rfl⟩
                  · intro xs W hW hn
                    obtain ⟨y0, y1, y2, hcc, -⟩ := HK.out W hW.1
                    clear hcc
                    simp only [flowAct, List.zipWith_cons_cons, List.zipWith_nil_left]
                    go_wp2_with (fail)
                    exact ⟨rfl, _, rfl, ⟨⟨rfl, rfl, rfl, Nat.le_refl _, fun _ _ _ => rfl⟩, .inl rfl⟩, rfl⟩
                  · intro xs W hW hn
                    simp [flowNeeds, Region.binds] at hn
                    simp only [flowAct, List.zipWith_cons_cons, List.zipWith_nil_left]
                    simp only [hn]
                    go_wp2_with (fail)
                    exact ⟨rfl, _, rfl, ⟨⟨rfl, rfl, rfl, Nat.le_refl _, fun _ _ _ => rfl⟩, .inl rfl⟩, rfl⟩
                  · intro xs W hW hn
                    simp [flowNeeds, Region.binds] at hn
                    obtain ⟨n0, s0, a0, b0, g0, t0, d0, e0, hcel⟩ := cel_of HE0.out hW.2
                    obtain ⟨r0, r1, r2, r3, r4, r5, r6, r7⟩ := hcel.cs
                    have zr := hcel.fz
                    have HCL := Lib.hid hcel
                    clear hcel
                    simp only [flowAct, List.zipWith_cons_cons, List.zipWith_nil_left]
                    simp only [hn]
                    go_wp2_with (fail)
                    exact ⟨rfl, undef, rfl, ⟨only_put _ _ _ _ _ _ _ _ _ _, .inr (HCL.out.put n s a b true [] d4 e4)⟩, rfl, HCL.out.put n s a b true [] d4 e4⟩
                  · intro xs W hW hn
                    simp [flowNeeds, Region.binds] at hn
                    simp only [flowAct, List.zipWith_cons_cons, List.zipWith_nil_left]
                    simp only [hn]
                    go_wp2_with (fail)
                    exact ⟨rfl, _, rfl, ⟨⟨rfl, rfl, rfl, Nat.le_refl _, fun _ _ _ => rfl⟩, .inl rfl⟩, rfl⟩
                  · intro xs W hW hn
                    simp [flowNeeds, Region.binds] at hn
                    simp only [flowAct, List.zipWith_cons_cons, List.zipWith_nil_left]
                    simp only [hn]
                    go_wp2_with (fail)
                    exact ⟨rfl, _, rfl, ⟨⟨rfl, rfl, rfl, Nat.le_refl _, fun _ _ _ => rfl⟩, .inl rfl⟩, rfl⟩
                · intro xs W hW hall
                  simp only [flowAll, and_true, Nat.zero_add, Nat.reduceAdd] at hall
                  obtain ⟨-, -, -, -, e4, e5, e6, e7⟩ := hall
                  simp only [flowAct, List.zipWith_cons_cons, List.zipWith_nil_left, e4, e6, e7]
                  obtain ⟨-, -, -, -, hbl⟩ := HK.out W hW.1
                  have HBL := Lib.hid hbl
                  have HCL := Lib.hid e5.2
                  clear hbl e5 e4 e6 e7
                  go_wp2
                  refine bodyPost_ret (res_tct2 rfl _ _ (q + 1) 50 _ (0, 0) _ (.int .i64 x) (.int .i64 (P4 : Int)) (.int .i64 0) rfl rfl rfl rfl HCL.out Tryd.underlying50 rfl (sizeC _ _ _ _ _ _ _ _)) rfl ⟨x, ⟨n, s, a, b, true, [], d4, e4⟩, (P4 : Int), 0, rfl, Nat.zero_le _, fun _ => ⟨P4, rfl, by omega, HX.out.symm, HRD.out⟩, fun h => absurd rfl h, ?_⟩
                  rw [HQ.out]
                  exact HBL.out
              · have hfn := Lib.hid h4
                have hR2 := hRP.trans (hbad4 h4)
                have HS := Lib.hid hS
                clear hS hk4 hok4 hbad4 hyes4 h4
                have HRD := Lib.hid (show readP l = none by exact hR2)
                go_upto_region 13 with (fail)
                have HK := Lib.hid (fun V (h : Only (q + 1) w30 V) => rd8_only HS.out h)
                have HE0 := Lib.hid (HS.out.hr)
                have HQL := Lib.hid HS.out.lt
                refine wp_region_flowR (fun x y => Only (q + 1) x y ∧ (x.heap[q + 1]? = y.heap[q + 1]? ∨ Cel y (q + 1) n s a b true [] d4 e4)) [none, none, some 4, none, some 6, some 7, none, none, none, none, none, none, none, none, none, none, none, none, none, none, none, none, none, none, none, none, none, none, none, none, none, none, none, none, none, none, none, none, none, none, none, none, none, none, some 0, some 1, some 2, some 3] (fun i => [undef, undef, undef, undef, .int .i64 0, undef, .int .i64 0, .int .i64 0].getD i undef) [(fun v _ => v = .int .i64 x), (fun v _ => v = .agg #[.int .i64 n, .int .i64 s, .int .i64 a, .int .i64 b, .bool true, .string (text []), .int .i64 d4, .int .i64 e4]), (fun v _ => v = .int .i64 ((P2 : Int) + k4)), (fun v _ => v = .int .i64 f4), (fun v _ => v = .int .i64 x), (fun v W => v = undef ∧ Cel W (q + 1) n s a b true [] d4 e4), (fun v _ => v = .int .i64 ((P2 : Int) + k4)), (fun v _ => v = .int .i64 f4)] (by kernel_rfl) (by kernel_rfl) rfl rfl rfl (fun a b c h1 h2 => ⟨h1.1.trans h2.1, same_or h1.2 h2.2 (fun h k => h.symm.trans k)⟩) ⟨⟨rfl, rfl, rfl, Nat.le_refl _, fun _ _ _ => rfl⟩, .inl rfl⟩ ?_ ?_ ?_
                · intro g hg v X Y hX hY hv
                  simp only [List.mem_cons, List.not_mem_nil, or_false] at hg
                  rcases hg with rfl | rfl | rfl | rfl | rfl | rfl | rfl | rfl
                  all_goals first
                    | exact hv
                    | exact ⟨hv.1, cel_or hv.2 hY.2⟩
                · simp only [flowOpsR, and_true]
                  refine ⟨?_, ?_, ?_, ?_, ?_, ?_, ?_, ?_⟩
                  · intro xs W hW hn
                    obtain ⟨y0, y1, y2, hcc, -⟩ := HK.out W hW.1
                    clear hcc
                    simp only [flowAct, List.zipWith_cons_cons, List.zipWith_nil_left]
                    go_wp2_with (fail)
                    exact ⟨rfl, _, rfl, ⟨⟨rfl, rfl, rfl, Nat.le_refl _, fun _ _ _ => rfl⟩, .inl rfl⟩, rfl⟩
                  · intro xs W hW hn
                    obtain ⟨y0, y1, y2, hcc, -⟩ := HK.out W hW.1
                    obtain ⟨c0, c1, c2, c3, c4, c5, c6, c7⟩ := hcc.cs
                    clear hcc
                    simp only [flowAct, List.zipWith_cons_cons, List.zipWith_nil_left]
                    go_wp2_with (fail)
                    exact ⟨rfl, _, rfl, ⟨⟨rfl, rfl, rfl, Nat.le_refl _, fun _ _ _ => rfl⟩, .inl rfl⟩, rfl⟩
                  · intro xs W hW hn
                    obtain ⟨y0, y1, y2, hcc, -⟩ := HK.out W hW.1
                    clear hcc
                    simp only [flowAct, List.zipWith_cons_cons, List.zipWith_nil_left]
                    go_wp2_with (fail)
                    exact ⟨rfl, _, rfl, ⟨⟨rfl, rfl, rfl, Nat.le_refl _, fun _ _ _ => rfl⟩, .inl rfl⟩, rfl⟩
                  · intro xs W hW hn
                    obtain ⟨y0, y1, y2, hcc, -⟩ := HK.out W hW.1
                    clear hcc
                    simp only [flowAct, List.zipWith_cons_cons, List.zipWith_nil_left]
                    go_wp2_with (fail)
                    exact ⟨rfl, _, rfl, ⟨⟨rfl, rfl, rfl, Nat.le_refl _, fun _ _ _ => rfl⟩, .inl rfl⟩, rfl⟩
                  · intro xs W hW hn
                    simp [flowNeeds, Region.binds] at hn
                    simp only [flowAct, List.zipWith_cons_cons, List.zipWith_nil_left]
                    simp only [hn]
                    go_wp2_with (fail)
                    exact ⟨rfl, _, rfl, ⟨⟨rfl, rfl, rfl, Nat.le_refl _, fun _ _ _ => rfl⟩, .inl rfl⟩, rfl⟩
                  · intro xs W hW hn
                    simp [flowNeeds, Region.binds] at hn
                    obtain ⟨n0, s0, a0, b0, g0, t0, d0, e0, hcel⟩ := cel_of HE0.out hW.2
                    obtain ⟨r0, r1, r2, r3, r4, r5, r6, r7⟩ := hcel.cs
                    have zr := hcel.fz
                    have HCL := Lib.hid hcel
                    clear hcel
                    simp only [flowAct, List.zipWith_cons_cons, List.zipWith_nil_left]
                    simp only [hn]
                    go_wp2_with (fail)
                    exact ⟨rfl, undef, rfl, ⟨only_put _ _ _ _ _ _ _ _ _ _, .inr (HCL.out.put n s a b true [] d4 e4)⟩, rfl, HCL.out.put n s a b true [] d4 e4⟩
                  · intro xs W hW hn
                    simp [flowNeeds, Region.binds] at hn
                    simp only [flowAct, List.zipWith_cons_cons, List.zipWith_nil_left]
                    simp only [hn]
                    go_wp2_with (fail)
                    exact ⟨rfl, _, rfl, ⟨⟨rfl, rfl, rfl, Nat.le_refl _, fun _ _ _ => rfl⟩, .inl rfl⟩, rfl⟩
                  · intro xs W hW hn
                    simp [flowNeeds, Region.binds] at hn
                    simp only [flowAct, List.zipWith_cons_cons, List.zipWith_nil_left]
                    simp only [hn]
                    go_wp2_with (fail)
                    exact ⟨rfl, _, rfl, ⟨⟨rfl, rfl, rfl, Nat.le_refl _, fun _ _ _ => rfl⟩, .inl rfl⟩, rfl⟩
                · intro xs W hW hall
                  simp only [flowAll, and_true, Nat.zero_add, Nat.reduceAdd] at hall
                  obtain ⟨-, -, -, -, e4, e5, e6, e7⟩ := hall
                  simp only [flowAct, List.zipWith_cons_cons, List.zipWith_nil_left, e4, e6, e7]
                  obtain ⟨-, -, -, -, hbl⟩ := HK.out W hW.1
                  have HBL := Lib.hid hbl
                  have HCL := Lib.hid e5.2
                  clear hbl e5 e4 e6 e7
                  go_wp2
                  refine bodyPost_ret (res_tct2 rfl _ _ (q + 1) 50 _ (0, 0) _ (.int .i64 x) (.int .i64 ((P2 : Int) + k4)) (.int .i64 f4) rfl rfl rfl rfl HCL.out Tryd.underlying50 rfl (sizeC _ _ _ _ _ _ _ _)) rfl ⟨x, ⟨n, s, a, b, true, [], d4, e4⟩, ((P2 : Int) + k4), f4, rfl, Nat.zero_le _, fun h => absurd h hfn.out, fun _ => HRD.out, ?_⟩
                  rw [HQ.out]
                  exact HBL.out
          · have hfn := Lib.hid h2
            have hR2 := hRP0.trans (parts_none hw (hm2 _ h2))
            have HS := Lib.hid hS
            clear hS hm2 hok2 hk2 h2
            have x0 := one_cell HS.out.hx
            obtain ⟨c0, c1, c2, c3, c4, c5, c6, c7⟩ := HS.out.hc.cs
            have zc := HS.out.hc.fz
            cases hd : bit x 4 with
            | false =>
              have ha4 := and4 hx0 hx1 hd
              simp only [Bool.false_eq_true, if_false] at ha4
              have HRD := Lib.hid (show readP l = none by exact hR2)
              go_upto_region 13 with (fail)
              have HK := Lib.hid (fun V (h : Only (q + 1) w3 V) => rd8_only HS.out h)
              have HE0 := Lib.hid (HS.out.hr)
              have HQL := Lib.hid HS.out.lt
              refine wp_region_flowR (fun x y => Only (q + 1) x y ∧ (x.heap[q + 1]? = y.heap[q + 1]? ∨ Cel y (q + 1) n s a b true [] 0 0)) [none, none, some 4, none, some 6, some 7, none, none, none, none, none, none, none, none, none, none, none, none, none, none, none, none, none, none, none, none, none, none, none, none, none, none, none, none, none, none, none, none, none, none, none, none, none, none, some 0, some 1, some 2, some 3] (fun i => [undef, undef, undef, undef, .int .i64 0, undef, .int .i64 0, .int .i64 0].getD i undef) [(fun v _ => v = .int .i64 x), (fun v _ => v = .agg #[.int .i64 n, .int .i64 s, .int .i64 a, .int .i64 b, .bool true, .string (text []), .int .i64 0, .int .i64 0]), (fun v _ => v = .int .i64 ((P1 : Int) + k2)), (fun v _ => v = .int .i64 f2), (fun v _ => v = .int .i64 x), (fun v W => v = undef ∧ Cel W (q + 1) n s a b true [] 0 0), (fun v _ => v = .int .i64 ((P1 : Int) + k2)), (fun v _ => v = .int .i64 f2)] (by kernel_rfl) (by kernel_rfl) rfl rfl rfl (fun a b c h1 h2 => ⟨h1.1.trans h2.1, same_or h1.2 h2.2 (fun h k => h.symm.trans k)⟩) ⟨⟨rfl, rfl, rfl, Nat.le_refl _, fun _ _ _ => rfl⟩, .inl rfl⟩ ?_ ?_ ?_
              · intro g hg v X Y hX hY hv
                simp only [List.mem_cons, List.not_mem_nil, or_false] at hg
                rcases hg with rfl | rfl | rfl | rfl | rfl | rfl | rfl | rfl
                all_goals first
                  | exact hv
                  | exact ⟨hv.1, cel_or hv.2 hY.2⟩
              · simp only [flowOpsR, and_true]
                refine ⟨?_, ?_, ?_, ?_, ?_, ?_, ?_, ?_⟩
                · intro xs W hW hn
                  obtain ⟨y0, y1, y2, hcc, -⟩ := HK.out W hW.1
                  clear hcc
                  simp only [flowAct, List.zipWith_cons_cons, List.zipWith_nil_left]
                  go_wp2_with (fail)
                  exact ⟨rfl, _, rfl, ⟨⟨rfl, rfl, rfl, Nat.le_refl _, fun _ _ _ => rfl⟩, .inl rfl⟩, rfl⟩
                · intro xs W hW hn
                  obtain ⟨y0, y1, y2, hcc, -⟩ := HK.out W hW.1
                  obtain ⟨c0, c1, c2, c3, c4, c5, c6, c7⟩ := hcc.cs
                  clear hcc
                  simp only [flowAct, List.zipWith_cons_cons, List.zipWith_nil_left]
                  go_wp2_with (fail)
                  exact ⟨rfl, _, rfl, ⟨⟨rfl, rfl, rfl, Nat.le_refl _, fun _ _ _ => rfl⟩, .inl rfl⟩, rfl⟩
                · intro xs W hW hn
                  obtain ⟨y0, y1, y2, hcc, -⟩ := HK.out W hW.1
                  clear hcc
                  simp only [flowAct, List.zipWith_cons_cons, List.zipWith_nil_left]
                  go_wp2_with (fail)
                  exact ⟨rfl, _, rfl, ⟨⟨rfl, rfl, rfl, Nat.le_refl _, fun _ _ _ => rfl⟩, .inl rfl⟩, rfl⟩
                · intro xs W hW hn
                  obtain ⟨y0, y1, y2, hcc, -⟩ := HK.out W hW.1
                  clear hcc
                  simp only [flowAct, List.zipWith_cons_cons, List.zipWith_nil_left]
                  go_wp2_with (fail)
                  exact ⟨rfl, _, rfl, ⟨⟨rfl, rfl, rfl, Nat.le_refl _, fun _ _ _ => rfl⟩, .inl rfl⟩, rfl⟩
                · intro xs W hW hn
                  simp [flowNeeds, Region.binds] at hn
                  simp only [flowAct, List.zipWith_cons_cons, List.zipWith_nil_left]
                  simp only [hn]
                  go_wp2_with (fail)
                  exact ⟨rfl, _, rfl, ⟨⟨rfl, rfl, rfl, Nat.le_refl _, fun _ _ _ => rfl⟩, .inl rfl⟩, rfl⟩
                · intro xs W hW hn
                  simp [flowNeeds, Region.binds] at hn
                  obtain ⟨n0, s0, a0, b0, g0, t0, d0, e0, hcel⟩ := cel_of HE0.out hW.2
                  obtain ⟨r0, r1, r2, r3, r4, r5, r6, r7⟩ := hcel.cs
                  have zr := hcel.fz
                  have HCL := Lib.hid hcel
                  clear hcel
                  simp only [flowAct, List.zipWith_cons_cons, List.zipWith_nil_left]
                  simp only [hn]
                  go_wp2_with (fail)
                  exact ⟨rfl, undef, rfl, ⟨only_put _ _ _ _ _ _ _ _ _ _, .inr (HCL.out.put n s a b true [] 0 0)⟩, rfl, HCL.out.put n s a b true [] 0 0⟩
                · intro xs W hW hn
                  simp [flowNeeds, Region.binds] at hn
                  simp only [flowAct, List.zipWith_cons_cons, List.zipWith_nil_left]
                  simp only [hn]
                  go_wp2_with (fail)
                  exact ⟨rfl, _, rfl, ⟨⟨rfl, rfl, rfl, Nat.le_refl _, fun _ _ _ => rfl⟩, .inl rfl⟩, rfl⟩
                · intro xs W hW hn
                  simp [flowNeeds, Region.binds] at hn
                  simp only [flowAct, List.zipWith_cons_cons, List.zipWith_nil_left]
                  simp only [hn]
                  go_wp2_with (fail)
                  exact ⟨rfl, _, rfl, ⟨⟨rfl, rfl, rfl, Nat.le_refl _, fun _ _ _ => rfl⟩, .inl rfl⟩, rfl⟩
              · intro xs W hW hall
                simp only [flowAll, and_true, Nat.zero_add, Nat.reduceAdd] at hall
                obtain ⟨-, -, -, -, e4, e5, e6, e7⟩ := hall
                simp only [flowAct, List.zipWith_cons_cons, List.zipWith_nil_left, e4, e6, e7]
                obtain ⟨-, -, -, -, hbl⟩ := HK.out W hW.1
                have HBL := Lib.hid hbl
                have HCL := Lib.hid e5.2
                clear hbl e5 e4 e6 e7
                go_wp2
                refine bodyPost_ret (res_tct2 rfl _ _ (q + 1) 50 _ (0, 0) _ (.int .i64 x) (.int .i64 ((P1 : Int) + k2)) (.int .i64 f2) rfl rfl rfl rfl HCL.out Tryd.underlying50 rfl (sizeC _ _ _ _ _ _ _ _)) rfl ⟨x, ⟨n, s, a, b, true, [], 0, 0⟩, ((P1 : Int) + k2), f2, rfl, Nat.zero_le _, fun h => absurd h hfn.out, fun _ => HRD.out, ?_⟩
                rw [HQ.out]
                exact HBL.out
            | true =>
              have ha4 := and4 hx0 hx1 hd
              simp only [if_true] at ha4
              go_upto_region 12 with (fail)
              clear x0 c0 c1 c2 c3 c4 c5 c6 c7 zc
              go_upto_region 13 with (first
                | (go_at_call 101; (with_reducible refine (mkV_c _ _).mono ?_); rintro e9 w8 ⟨rfl, rfl⟩)
                | (go_at_call 97; (with_reducible refine (skip_c HS.out hfn.out _ _ _).mono ?_); rintro e9 w31 ⟨rfl, hS⟩)
                )
              have HS := Lib.hid hS
              clear hS
              have HRD := Lib.hid (show readP l = none by exact hR2)
              go_upto_region 13 with (fail)
              have HK := Lib.hid (fun V (h : Only (q + 1) w31 V) => rd8_only HS.out h)
              have HE0 := Lib.hid (HS.out.hr)
              have HQL := Lib.hid HS.out.lt
              refine wp_region_flowR (fun x y => Only (q + 1) x y ∧ (x.heap[q + 1]? = y.heap[q + 1]? ∨ Cel y (q + 1) n s a b true [] 0 0)) [none, none, some 4, none, some 6, some 7, none, none, none, none, none, none, none, none, none, none, none, none, none, none, none, none, none, none, none, none, none, none, none, none, none, none, none, none, none, none, none, none, none, none, none, none, none, none, some 0, some 1, some 2, some 3] (fun i => [undef, undef, undef, undef, .int .i64 0, undef, .int .i64 0, .int .i64 0].getD i undef) [(fun v _ => v = .int .i64 x), (fun v _ => v = .agg #[.int .i64 n, .int .i64 s, .int .i64 a, .int .i64 b, .bool true, .string (text []), .int .i64 0, .int .i64 0]), (fun v _ => v = .int .i64 ((P1 : Int) + k2)), (fun v _ => v = .int .i64 f2), (fun v _ => v = .int .i64 x), (fun v W => v = undef ∧ Cel W (q + 1) n s a b true [] 0 0), (fun v _ => v = .int .i64 ((P1 : Int) + k2)), (fun v _ => v = .int .i64 f2)] (by kernel_rfl) (by kernel_rfl) rfl rfl rfl (fun a b c h1 h2 => ⟨h1.1.trans h2.1, same_or h1.2 h2.2 (fun h k => h.symm.trans k)⟩) ⟨⟨rfl, rfl, rfl, Nat.le_refl _, fun _ _ _ => rfl⟩, .inl rfl⟩ ?_ ?_ ?_
              · intro g hg v X Y hX hY hv
                simp only [List.mem_cons, List.not_mem_nil, or_false] at hg
                rcases hg with rfl | rfl | rfl | rfl | rfl | rfl | rfl | rfl
                all_goals first
                  | exact hv
                  | exact ⟨hv.1, cel_or hv.2 hY.2⟩
              · simp only [flowOpsR, and_true]
                refine ⟨?_, ?_, ?_, ?_, ?_, ?_, ?_, ?_⟩
                · intro xs W hW hn
                  obtain ⟨y0, y1, y2, hcc, -⟩ := HK.out W hW.1
                  clear hcc
                  simp only [flowAct, List.zipWith_cons_cons, List.zipWith_nil_left]
                  go_wp2_with (fail)
                  exact ⟨rfl, _, rfl, ⟨⟨rfl, rfl, rfl, Nat.le_refl _, fun _ _ _ => rfl⟩, .inl rfl⟩, rfl⟩
                · intro xs W hW hn
                  obtain ⟨y0, y1, y2, hcc, -⟩ := HK.out W hW.1
                  obtain ⟨c0, c1, c2, c3, c4, c5, c6, c7⟩ := hcc.cs
                  clear hcc
                  simp only [flowAct, List.zipWith_cons_cons, List.zipWith_nil_left]
                  go_wp2_with (fail)
                  exact ⟨rfl, _, rfl, ⟨⟨rfl, rfl, rfl, Nat.le_refl _, fun _ _ _ => rfl⟩, .inl rfl⟩, rfl⟩
                · intro xs W hW hn
                  obtain ⟨y0, y1, y2, hcc, -⟩ := HK.out W hW.1
                  clear hcc
                  simp only [flowAct, List.zipWith_cons_cons, List.zipWith_nil_left]
                  go_wp2_with (fail)
                  exact ⟨rfl, _, rfl, ⟨⟨rfl, rfl, rfl, Nat.le_refl _, fun _ _ _ => rfl⟩, .inl rfl⟩, rfl⟩
                · intro xs W hW hn
                  obtain ⟨y0, y1, y2, hcc, -⟩ := HK.out W hW.1
                  clear hcc
                  simp only [flowAct, List.zipWith_cons_cons, List.zipWith_nil_left]
                  go_wp2_with (fail)
                  exact ⟨rfl, _, rfl, ⟨⟨rfl, rfl, rfl, Nat.le_refl _, fun _ _ _ => rfl⟩, .inl rfl⟩, rfl⟩
                · intro xs W hW hn
                  simp [flowNeeds, Region.binds] at hn
                  simp only [flowAct, List.zipWith_cons_cons, List.zipWith_nil_left]
                  simp only [hn]
                  go_wp2_with (fail)
                  exact ⟨rfl, _, rfl, ⟨⟨rfl, rfl, rfl, Nat.le_refl _, fun _ _ _ => rfl⟩, .inl rfl⟩, rfl⟩
                · intro xs W hW hn
                  simp [flowNeeds, Region.binds] at hn
                  obtain ⟨n0, s0, a0, b0, g0, t0, d0, e0, hcel⟩ := cel_of HE0.out hW.2
                  obtain ⟨r0, r1, r2, r3, r4, r5, r6, r7⟩ := hcel.cs
                  have zr := hcel.fz
                  have HCL := Lib.hid hcel
                  clear hcel
                  simp only [flowAct, List.zipWith_cons_cons, List.zipWith_nil_left]
                  simp only [hn]
                  go_wp2_with (fail)
                  exact ⟨rfl, undef, rfl, ⟨only_put _ _ _ _ _ _ _ _ _ _, .inr (HCL.out.put n s a b true [] 0 0)⟩, rfl, HCL.out.put n s a b true [] 0 0⟩
                · intro xs W hW hn
                  simp [flowNeeds, Region.binds] at hn
                  simp only [flowAct, List.zipWith_cons_cons, List.zipWith_nil_left]
                  simp only [hn]
                  go_wp2_with (fail)
                  exact ⟨rfl, _, rfl, ⟨⟨rfl, rfl, rfl, Nat.le_refl _, fun _ _ _ => rfl⟩, .inl rfl⟩, rfl⟩
                · intro xs W hW hn
                  simp [flowNeeds, Region.binds] at hn
                  simp only [flowAct, List.zipWith_cons_cons, List.zipWith_nil_left]
                  simp only [hn]
                  go_wp2_with (fail)
                  exact ⟨rfl, _, rfl, ⟨⟨rfl, rfl, rfl, Nat.le_refl _, fun _ _ _ => rfl⟩, .inl rfl⟩, rfl⟩
              · intro xs W hW hall
                simp only [flowAll, and_true, Nat.zero_add, Nat.reduceAdd] at hall
                obtain ⟨-, -, -, -, e4, e5, e6, e7⟩ := hall
                simp only [flowAct, List.zipWith_cons_cons, List.zipWith_nil_left, e4, e6, e7]
                obtain ⟨-, -, -, -, hbl⟩ := HK.out W hW.1
                have HBL := Lib.hid hbl
                have HCL := Lib.hid e5.2
                clear hbl e5 e4 e6 e7
                go_wp2
                refine bodyPost_ret (res_tct2 rfl _ _ (q + 1) 50 _ (0, 0) _ (.int .i64 x) (.int .i64 ((P1 : Int) + k2)) (.int .i64 f2) rfl rfl rfl rfl HCL.out Tryd.underlying50 rfl (sizeC _ _ _ _ _ _ _ _)) rfl ⟨x, ⟨n, s, a, b, true, [], 0, 0⟩, ((P1 : Int) + k2), f2, rfl, Nat.zero_le _, fun h => absurd h hfn.out, fun _ => HRD.out, ?_⟩
                rw [HQ.out]
                exact HBL.out
        · have hfn := Lib.hid h1
          have hR2 := hRP0.trans (parts_none hw (hm1 _ h1))
          have HS := Lib.hid hS
          clear hS hm1 hok1 hk1 h1
          go_upto_region 9 with (first
            | (go_at_call 101; (with_reducible refine (mkV_c _ _).mono ?_); rintro e9 w8 ⟨rfl, rfl⟩)
            | (go_at_call 97; (with_reducible refine (skip_c HS.out hfn.out _ _ _).mono ?_); rintro e9 w32 ⟨rfl, hS⟩)
            )
          have HS := Lib.hid hS
          clear hS
          have x0 := one_cell HS.out.hx
          obtain ⟨c0, c1, c2, c3, c4, c5, c6, c7⟩ := HS.out.hc.cs
          have zc := HS.out.hc.fz
          cases hd : bit x 4 with
          | false =>
            have ha4 := and4 hx0 hx1 hd
            simp only [Bool.false_eq_true, if_false] at ha4
            have HRD := Lib.hid (show readP l = none by exact hR2)
            go_upto_region 13 with (fail)
            have HK := Lib.hid (fun V (h : Only (q + 1) w32 V) => rd8_only HS.out h)
            have HE0 := Lib.hid (HS.out.hr)
            have HQL := Lib.hid HS.out.lt
            refine wp_region_flowR (fun x y => Only (q + 1) x y ∧ (x.heap[q + 1]? = y.heap[q + 1]? ∨ Cel y (q + 1) n s 0 0 true [] 0 0)) [none, none, some 4, none, some 6, some 7, none, none, none, none, none, none, none, none, none, none, none, none, none, none, none, none, none, none, none, none, none, none, none, none, none, none, none, none, none, none, none, none, none, none, none, none, none, none, some 0, some 1, some 2, some 3] (fun i => [undef, undef, undef, undef, .int .i64 0, undef, .int .i64 0, .int .i64 0].getD i undef) [(fun v _ => v = .int .i64 x), (fun v _ => v = .agg #[.int .i64 n, .int .i64 s, .int .i64 0, .int .i64 0, .bool true, .string (text []), .int .i64 0, .int .i64 0]), (fun v _ => v = .int .i64 ((q0 : Int) + k1)), (fun v _ => v = .int .i64 f1), (fun v _ => v = .int .i64 x), (fun v W => v = undef ∧ Cel W (q + 1) n s 0 0 true [] 0 0), (fun v _ => v = .int .i64 ((q0 : Int) + k1)), (fun v _ => v = .int .i64 f1)] (by kernel_rfl) (by kernel_rfl) rfl rfl rfl (fun a b c h1 h2 => ⟨h1.1.trans h2.1, same_or h1.2 h2.2 (fun h k => h.symm.trans k)⟩) ⟨⟨rfl, rfl, rfl, Nat.le_refl _, fun _ _ _ => rfl⟩, .inl rfl⟩ ?_ ?_ ?_
            · intro g hg v X Y hX hY hv
              simp only [List.mem_cons, List.not_mem_nil, or_false] at hg
              rcases hg with rfl | rfl | rfl | rfl | rfl | rfl | rfl | rfl
              all_goals first
                | exact hv
                | exact ⟨hv.1, cel_or hv.2 hY.2⟩
            · simp only [flowOpsR, and_true]
              refine ⟨?_, ?_, ?_, ?_, ?_, ?_, ?_, ?_⟩
              · intro xs W hW hn
                obtain ⟨y0, y1, y2, hcc, -⟩ := HK.out W hW.1
                clear hcc
                simp only [flowAct, List.zipWith_cons_cons, List.zipWith_nil_left]
                go_wp2_with (fail)
                exact ⟨rfl, _, rfl, ⟨⟨rfl, rfl, rfl, Nat.le_refl _, fun _ _ _ => rfl⟩, .inl rfl⟩, rfl⟩
              · intro xs W hW hn
                obtain ⟨y0, y1, y2, hcc, -⟩ := HK.out W hW.1
                obtain ⟨c0, c1, c2, c3, c4, c5, c6, c7⟩ := hcc.cs
                clear hcc
                simp only [flowAct, List.zipWith_cons_cons, List.zipWith_nil_left]
                go_wp2_with (fail)
                exact ⟨rfl, _, rfl, ⟨⟨rfl, rfl, rfl, Nat.le_refl _, fun _ _ _ => rfl⟩, .inl rfl⟩, rfl⟩
              · intro xs W hW hn
                obtain ⟨y0, y1, y2, hcc, -⟩ := HK.out W hW.1
                clear hcc
                simp only [flowAct, List.zipWith_cons_cons, List.zipWith_nil_left]
                go_wp2_with (fail)
                exact ⟨rfl, _, rfl, ⟨⟨rfl, rfl, rfl, Nat.le_refl _, fun _ _ _ => rfl⟩, .inl rfl⟩, rfl⟩
              · intro xs W hW hn
                obtain ⟨y0, y1, y2, hcc, -⟩ := HK.out W hW.1
                clear hcc
                simp only [flowAct, List.zipWith_cons_cons, List.zipWith_nil_left]
                go_wp2_with (fail)
                exact ⟨rfl, _, rfl, ⟨⟨rfl, rfl, rfl, Nat.le_refl _, fun _ _ _ => rfl⟩, .inl rfl⟩, rfl⟩
              · intro xs W hW hn
                simp [flowNeeds, Region.binds] at hn
                simp only [flowAct, List.zipWith_cons_cons, List.zipWith_nil_left]
                simp only [hn]
                go_wp2_with (fail)
                exact ⟨rfl, _, rfl, ⟨⟨rfl, rfl, rfl, Nat.le_refl _, fun _ _ _ => rfl⟩, .inl rfl⟩, rfl⟩
              · intro xs W hW hn
                simp [flowNeeds, Region.binds] at hn
                obtain ⟨n0, s0, a0, b0, g0, t0, d0, e0, hcel⟩ := cel_of HE0.out hW.2
                obtain ⟨r0, r1, r2, r3, r4, r5, r6, r7⟩ := hcel.cs
                have zr := hcel.fz
                have HCL := Lib.hid hcel
                clear hcel
                simp only [flowAct, List.zipWith_cons_cons, List.zipWith_nil_left]
                simp only [hn]
                go_wp2_with (fail)
                exact ⟨rfl, undef, rfl, ⟨only_put _ _ _ _ _ _ _ _ _ _, .inr (HCL.out.put n s 0 0 true [] 0 0)⟩, rfl, HCL.out.put n s 0 0 true [] 0 0⟩
              · intro xs W hW hn
                simp [flowNeeds, Region.binds] at hn
                simp only [flowAct, List.zipWith_cons_cons, List.zipWith_nil_left]
                simp only [hn]
                go_wp2_with (fail)
                exact ⟨rfl, _, rfl, ⟨⟨rfl, rfl, rfl, Nat.le_refl _, fun _ _ _ => rfl⟩, .inl rfl⟩, rfl⟩
              · intro xs W hW hn
                simp [flowNeeds, Region.binds] at hn
                simp only [flowAct, List.zipWith_cons_cons, List.zipWith_nil_left]
                simp only [hn]
                go_wp2_with (fail)
                exact ⟨rfl, _, rfl, ⟨⟨rfl, rfl, rfl, Nat.le_refl _, fun _ _ _ => rfl⟩, .inl rfl⟩, rfl⟩
            · intro xs W hW hall
              simp only [flowAll, and_true, Nat.zero_add, Nat.reduceAdd] at hall
              obtain ⟨-, -, -, -, e4, e5, e6, e7⟩ := hall
              simp only [flowAct, List.zipWith_cons_cons, List.zipWith_nil_left, e4, e6, e7]
              obtain ⟨-, -, -, -, hbl⟩ := HK.out W hW.1
              have HBL := Lib.hid hbl
              have HCL := Lib.hid e5.2
              clear hbl e5 e4 e6 e7
              go_wp2
              refine bodyPost_ret (res_tct2 rfl _ _ (q + 1) 50 _ (0, 0) _ (.int .i64 x) (.int .i64 ((q0 : Int) + k1)) (.int .i64 f1) rfl rfl rfl rfl HCL.out Tryd.underlying50 rfl (sizeC _ _ _ _ _ _ _ _)) rfl ⟨x, ⟨n, s, 0, 0, true, [], 0, 0⟩, ((q0 : Int) + k1), f1, rfl, Nat.zero_le _, fun h => absurd h hfn.out, fun _ => HRD.out, ?_⟩
              rw [HQ.out]
              exact HBL.out
          | true =>
            have ha4 := and4 hx0 hx1 hd
            simp only [if_true] at ha4
            go_upto_region 12 with (fail)
            clear x0 c0 c1 c2 c3 c4 c5 c6 c7 zc
            go_upto_region 13 with (first
              | (go_at_call 101; (with_reducible refine (mkV_c _ _).mono ?_); rintro e9 w8 ⟨rfl, rfl⟩)
              | (go_at_call 97; (with_reducible refine (skip_c HS.out hfn.out _ _ _).mono ?_); rintro e9 w33 ⟨rfl, hS⟩)
              )
            have HS := Lib.hid hS
            clear hS
            have HRD := Lib.hid (show readP l = none by exact hR2)
            go_upto_region 13 with (fail)
            have HK := Lib.hid (fun V (h : Only (q + 1) w33 V) => rd8_only HS.out h)
            have HE0 := Lib.hid (HS.out.hr)
            have HQL := Lib.hid HS.out.lt
            refine wp_region_flowR (fun x y => Only (q + 1) x y ∧ (x.heap[q + 1]? = y.heap[q + 1]? ∨ Cel y (q + 1) n s 0 0 true [] 0 0)) [none, none, some 4, none, some 6, some 7, none, none, none, none, none, none, none, none, none, none, none, none, none, none, none, none, none, none, none, none, none, none, none, none, none, none, none, none, none, none, none, none, none, none, none, none, none, none, some 0, some 1, some 2, some 3] (fun i => [undef, undef, undef, undef, .int .i64 0, undef, .int .i64 0, .int .i64 0].getD i undef) [(fun v _ => v = .int .i64 x), (fun v _ => v = .agg #[.int .i64 n, .int .i64 s, .int .i64 0, .int .i64 0, .bool true, .string (text []), .int .i64 0, .int .i64 0]), (fun v _ => v = .int .i64 ((q0 : Int) + k1)), (fun v _ => v = .int .i64 f1), (fun v _ => v = .int .i64 x), (fun v W => v = undef ∧ Cel W (q + 1) n s 0 0 true [] 0 0), (fun v _ => v = .int .i64 ((q0 : Int) + k1)), (fun v _ => v = .int .i64 f1)] (by kernel_rfl) (by kernel_rfl) rfl rfl rfl (fun a b c h1 h2 => ⟨h1.1.trans h2.1, same_or h1.2 h2.2 (fun h k => h.symm.trans k)⟩) ⟨⟨rfl, rfl, rfl, Nat.le_refl _, fun _ _ _ => rfl⟩, .inl rfl⟩ ?_ ?_ ?_
            · intro g hg v X Y hX hY hv
              simp only [List.mem_cons, List.not_mem_nil, or_false] at hg
              rcases hg with rfl | rfl | rfl | rfl | rfl | rfl | rfl | rfl
              all_goals first
                | exact hv
                | exact ⟨hv.1, cel_or hv.2 hY.2⟩
            · simp only [flowOpsR, and_true]
              refine ⟨?_, ?_, ?_, ?_, ?_, ?_, ?_, ?_⟩
              · intro xs W hW hn
                obtain ⟨y0, y1, y2, hcc, -⟩ := HK.out W hW.1
                clear hcc
                simp only [flowAct, List.zipWith_cons_cons, List.zipWith_nil_left]
                go_wp2_with (fail)
                exact ⟨rfl, _, rfl, ⟨⟨rfl, rfl, rfl, Nat.le_refl _, fun _ _ _ => rfl⟩, .inl rfl⟩, rfl⟩
              · intro xs W hW hn
                obtain ⟨y0, y1, y2, hcc, -⟩ := HK.out W hW.1
                obtain ⟨c0, c1, c2, c3, c4, c5, c6, c7⟩ := hcc.cs
                clear hcc
                simp only [flowAct, List.zipWith_cons_cons, List.zipWith_nil_left]
                go_wp2_with (fail)
                exact ⟨rfl, _, rfl, ⟨⟨rfl, rfl, rfl, Nat.le_refl _, fun _ _ _ => rfl⟩, .inl rfl⟩, rfl⟩
              · intro xs W hW hn
                obtain ⟨y0, y1, y2, hcc, -⟩ := HK.out W hW.1
                clear hcc
                simp only [flowAct, List.zipWith_cons_cons, List.zipWith_nil_left]
                go_wp2_with (fail)
                exact ⟨rfl, _, rfl, ⟨⟨rfl, rfl, rfl, Nat.le_refl _, fun _ _ _ => rfl⟩, .inl rfl⟩, rfl⟩
              · intro xs W hW hn
                obtain ⟨y0, y1, y2, hcc, -⟩ := HK.out W hW.1
                clear hcc
                simp only [flowAct, List.zipWith_cons_cons, List.zipWith_nil_left]
                go_wp2_with (fail)
                exact ⟨rfl, _, rfl, ⟨⟨rfl, rfl, rfl, Nat.le_refl _, fun _ _ _ => rfl⟩, .inl rfl⟩, rfl⟩
              · intro xs W hW hn
                simp [flowNeeds, Region.binds] at hn
                simp only [flowAct, List.zipWith_cons_cons, List.zipWith_nil_left]
                simp only [hn]
                go_wp2_with (fail)
                exact ⟨rfl, _, rfl, ⟨⟨rfl, rfl, rfl, Nat.le_refl _, fun _ _ _ => rfl⟩, .inl rfl⟩, rfl⟩
              · intro xs W hW hn
                simp [flowNeeds, Region.binds] at hn
                obtain ⟨n0, s0, a0, b0, g0, t0, d0, e0, hcel⟩ := cel_of HE0.out hW.2
                obtain ⟨r0, r1, r2, r3, r4, r5, r6, r7⟩ := hcel.cs
                have zr := hcel.fz
                have HCL := Lib.hid hcel
                clear hcel
                simp only [flowAct, List.zipWith_cons_cons, List.zipWith_nil_left]
                simp only [hn]
                go_wp2_with (fail)
                exact ⟨rfl, undef, rfl, ⟨only_put _ _ _ _ _ _ _ _ _ _, .inr (HCL.out.put n s 0 0 true [] 0 0)⟩, rfl, HCL.out.put n s 0 0 true [] 0 0⟩
              · intro xs W hW hn
                simp [flowNeeds, Region.binds] at hn
                simp only [flowAct, List.zipWith_cons_cons, List.zipWith_nil_left]
                simp only [hn]
                go_wp2_with (fail)
                exact ⟨rfl, _, rfl, ⟨⟨rfl, rfl, rfl, Nat.le_refl _, fun _ _ _ => rfl⟩, .inl rfl⟩, rfl⟩
              · intro xs W hW hn
                simp [flowNeeds, Region.binds] at hn
                simp only [flowAct, List.zipWith_cons_cons, List.zipWith_nil_left]
                simp only [hn]
                go_wp2_with (fail)
                exact ⟨rfl, _, rfl, ⟨⟨rfl, rfl, rfl, Nat.le_refl _, fun _ _ _ => rfl⟩, .inl rfl⟩, rfl⟩
            · intro xs W hW hall
              simp only [flowAll, and_true, Nat.zero_add, Nat.reduceAdd] at hall
              obtain ⟨-, -, -, -, e4, e5, e6, e7⟩ := hall
              simp only [flowAct, List.zipWith_cons_cons, List.zipWith_nil_left, e4, e6, e7]
              obtain ⟨-, -, -, -, hbl⟩ := HK.out W hW.1
              have HBL := Lib.hid hbl
              have HCL := Lib.hid e5.2
              clear hbl e5 e4 e6 e7
              go_wp2
              refine bodyPost_ret (res_tct2 rfl _ _ (q + 1) 50 _ (0, 0) _ (.int .i64 x) (.int .i64 ((q0 : Int) + k1)) (.int .i64 f1) rfl rfl rfl rfl HCL.out Tryd.underlying50 rfl (sizeC _ _ _ _ _ _ _ _)) rfl ⟨x, ⟨n, s, 0, 0, true, [], 0, 0⟩, ((q0 : Int) + k1), f1, rfl, Nat.zero_le _, fun h => absurd h hfn.out, fun _ => HRD.out, ?_⟩
              rw [HQ.out]
              exact HBL.out
  · have hfn := Lib.hid hf0
    have hR2 := HE.out hf0
    obtain ⟨rfl, rfl⟩ := hbad hf0
    have HS := Lib.hid hS
    clear hS hok hbad HE hat hk0 hx' hf0
    have hx0 : (0 : Int) ≤ 0 := by omega
    have hx1 : (0 : Int) ≤ 4611686018427387903 := by omega
    have ha1 := and1 hx0 hx1 (show bit 0 1 = false by decide)
    have ha2 := and2 hx0 hx1 (show bit 0 2 = false by decide)
    have ha4 := and4 hx0 hx1 (show bit 0 4 = false by decide)
    simp only [Bool.false_eq_true, if_false] at ha1 ha2 ha4
    have x0 := one_cell HS.out.hx
    obtain ⟨c0, c1, c2, c3, c4, c5, c6, c7⟩ := HS.out.hc.cs
    have zc := HS.out.hc.fz
    go_upto_region 6 with (fail)
    have HS := Lib.hid (HS.out.put_c (Only.set w9 ⟨q + 2, 4, none⟩ (.bool false)) (c' := ⟨0, 0, 0, 0, false, [], 0, 0⟩) (HS.out.hc.gn false))
    clear x0 c0 c1 c2 c3 c4 c5 c6 c7 zc
    generalize w9.setCell ⟨q + 2, 4, none⟩ (.bool false) = V1 at *
    have y0 := one_cell HS.out.hx
    have HRD := Lib.hid (show readP l = none by exact hR2)
    go_upto_region 13 with (fail)
    have HK := Lib.hid (fun V (h : Only (q + 1) V1 V) => rd8_only HS.out h)
    have HE0 := Lib.hid (HS.out.hr)
    have HQL := Lib.hid HS.out.lt
    refine wp_region_flowR (fun x y => Only (q + 1) x y ∧ (x.heap[q + 1]? = y.heap[q + 1]? ∨ Cel y (q + 1) 0 0 0 0 false [] 0 0)) [none, none, some 4, none, some 6, some 7, none, none, none, none, none, none, none, none, none, none, none, none, none, none, none, none, none, none, none, none, none, none, none, none, none, none, none, none, none, none, none, none, none, none, none, none, none, none, some 0, some 1, some 2, some 3] (fun i => [undef, undef, undef, undef, .int .i64 0, undef, .int .i64 0, .int .i64 0].getD i undef) [(fun v _ => v = .int .i64 0), (fun v _ => v = .agg #[.int .i64 0, .int .i64 0, .int .i64 0, .int .i64 0, .bool false, .string (text []), .int .i64 0, .int .i64 0]), (fun v _ => v = .int .i64 (((0 : Nat) : Int) + 0)), (fun v _ => v = .int .i64 f0), (fun v _ => v = .int .i64 0), (fun v W => v = undef ∧ Cel W (q + 1) 0 0 0 0 false [] 0 0), (fun v _ => v = .int .i64 (((0 : Nat) : Int) + 0)), (fun v _ => v = .int .i64 f0)] (by kernel_rfl) (by kernel_rfl) rfl rfl rfl (fun a b c h1 h2 => ⟨h1.1.trans h2.1, same_or h1.2 h2.2 (fun h k => h.symm.trans k)⟩) ⟨⟨rfl, rfl, rfl, Nat.le_refl _, fun _ _ _ => rfl⟩, .inl rfl⟩ ?_ ?_ ?_
    · intro g hg v X Y hX hY hv
      simp only [List.mem_cons, List.not_mem_nil, or_false] at hg
      rcases hg with rfl | rfl | rfl | rfl | rfl | rfl | rfl | rfl
      all_goals first
        | exact hv
        | exact ⟨hv.1, cel_or hv.2 hY.2⟩
    · simp only [flowOpsR, and_true]
      refine ⟨?_, ?_, ?_, ?_, ?_, ?_, ?_, ?_⟩
      · intro xs W hW hn
        obtain ⟨y0, y1, y2, hcc, -⟩ := HK.out W hW.1
        clear hcc
        simp only [flowAct, List.zipWith_cons_cons, List.zipWith_nil_left]
        go_wp2_with (fail)
        exact ⟨rfl, _, rfl, ⟨⟨rfl, rfl, rfl, Nat.le_refl _, fun _ _ _ => rfl⟩, .inl rfl⟩, rfl⟩
      · intro xs W hW hn
        obtain ⟨y0, y1, y2, hcc, -⟩ := HK.out W hW.1
        obtain ⟨c0, c1, c2, c3, c4, c5, c6, c7⟩ := hcc.cs
        clear hcc
        simp only [flowAct, List.zipWith_cons_cons, List.zipWith_nil_left]
        go_wp2_with (fail)
        exact ⟨rfl, _, rfl, ⟨⟨rfl, rfl, rfl, Nat.le_refl _, fun _ _ _ => rfl⟩, .inl rfl⟩, rfl⟩
      · intro xs W hW hn
        obtain ⟨y0, y1, y2, hcc, -⟩ := HK.out W hW.1
        clear hcc
        simp only [flowAct, List.zipWith_cons_cons, List.zipWith_nil_left]
        go_wp2_with (fail)
        exact ⟨rfl, _, rfl, ⟨⟨rfl, rfl, rfl, Nat.le_refl _, fun _ _ _ => rfl⟩, .inl rfl⟩, rfl⟩
      · intro xs W hW hn
        obtain ⟨y0, y1, y2, hcc, -⟩ := HK.out W hW.1
        clear hcc
        simp only [flowAct, List.zipWith_cons_cons, List.zipWith_nil_left]
        go_wp2_with (fail)
        exact ⟨rfl, _, rfl, ⟨⟨rfl, rfl, rfl, Nat.le_refl _, fun _ _ _ => rfl⟩, .inl rfl⟩, rfl⟩
      · intro xs W hW hn
        simp [flowNeeds, Region.binds] at hn
        simp only [flowAct, List.zipWith_cons_cons, List.zipWith_nil_left]
        simp only [hn]
        go_wp2_with (fail)
        exact ⟨rfl, _, rfl, ⟨⟨rfl, rfl, rfl, Nat.le_refl _, fun _ _ _ => rfl⟩, .inl rfl⟩, rfl⟩
      · intro xs W hW hn
        simp [flowNeeds, Region.binds] at hn
        obtain ⟨n0, s0, a0, b0, g0, t0, d0, e0, hcel⟩ := cel_of HE0.out hW.2
        obtain ⟨r0, r1, r2, r3, r4, r5, r6, r7⟩ := hcel.cs
        have zr := hcel.fz
        have HCL := Lib.hid hcel
        clear hcel
        simp only [flowAct, List.zipWith_cons_cons, List.zipWith_nil_left]
        simp only [hn]
        go_wp2_with (fail)
        exact ⟨rfl, undef, rfl, ⟨only_put _ _ _ _ _ _ _ _ _ _, .inr (HCL.out.put 0 0 0 0 false [] 0 0)⟩, rfl, HCL.out.put 0 0 0 0 false [] 0 0⟩
      · intro xs W hW hn
        simp [flowNeeds, Region.binds] at hn
        simp only [flowAct, List.zipWith_cons_cons, List.zipWith_nil_left]
        simp only [hn]
        go_wp2_with (fail)
        exact ⟨rfl, _, rfl, ⟨⟨rfl, rfl, rfl, Nat.le_refl _, fun _ _ _ => rfl⟩, .inl rfl⟩, rfl⟩
      · intro xs W hW hn
        simp [flowNeeds, Region.binds] at hn
        simp only [flowAct, List.zipWith_cons_cons, List.zipWith_nil_left]
        simp only [hn]
        go_wp2_with (fail)
        exact ⟨rfl, _, rfl, ⟨⟨rfl, rfl, rfl, Nat.le_refl _, fun _ _ _ => rfl⟩, .inl rfl⟩, rfl⟩
    · intro xs W hW hall
      simp only [flowAll, and_true, Nat.zero_add, Nat.reduceAdd] at hall
      obtain ⟨-, -, -, -, e4, e5, e6, e7⟩ := hall
      simp only [flowAct, List.zipWith_cons_cons, List.zipWith_nil_left, e4, e6, e7]
      obtain ⟨-, -, -, -, hbl⟩ := HK.out W hW.1
      have HBL := Lib.hid hbl
      have HCL := Lib.hid e5.2
      clear hbl e5 e4 e6 e7
      go_wp2
      refine bodyPost_ret (res_tct2 rfl _ _ (q + 1) 50 _ (0, 0) _ (.int .i64 0) (.int .i64 (((0 : Nat) : Int) + 0)) (.int .i64 f0) rfl rfl rfl rfl HCL.out Tryd.underlying50 rfl (sizeC _ _ _ _ _ _ _ _)) rfl ⟨0, ⟨0, 0, 0, 0, false, [], 0, 0⟩, (((0 : Nat) : Int) + 0), f0, rfl, Nat.zero_le _, fun h => absurd h hfn.out, fun _ => HRD.out, ?_⟩
      rw [HQ.out]
      exact HBL.out
end Go.Proofs.YtkjpmdpljdgcjaaDoor
