/-
  Net: the reference: out, Send, Twice.
-/
import Derived.Test.YtngfohedddcboaaNT7
namespace Go.Proofs.Ytngfohedddcboaa
open Go.RowKit Go Go.Sort Go.Lib Go.Maps
set_option linter.unusedVariables false
set_option maxRecDepth 20000

/-- A region that copies the list l (e: an empty one; a: append), lays x (b), appends it (c), and stores what comes of it (s), in whatever order. -/
structure CpInv (w8 : World) (g : Nat) (l : List Pk) (x : Pk) (e a b c s n : Nat) (vals : List (Option Value)) (L : Nat → Bool) (xs : Nat → Value) (W : World) : Prop where
  val : ∀ i, i < n → L i = true → RvN vals i (xs i)
  below : L s = false → Below w8.heap.size w8 W
  emp : L e = true → L a = false → ∃ g1, xs e = .slice (some ⟨g1, 0, none⟩) 0 0 ∧ OwnL 2 43 Pk.arr W w8.heap.size (.slice (some ⟨g1, 0, none⟩) 0 0) [] ∧ W.heap[g1]? = some (.cells #[] 43 (0, 0))
  one : L a = true → L c = false → OwnL 2 43 Pk.arr W w8.heap.size (xs a) l
  box : L b = true → L c = false → ∃ b9, xs b = .slice (some ⟨b9, 0, none⟩) 1 1 ∧ PkB W b9 x
  two : L c = true → L s = false → OwnL 2 43 Pk.arr W w8.heap.size (xs c) (l ++ [x])
  fin : L s = true → ∃ W3 v', Below w8.heap.size w8 W3 ∧ OwnL 2 43 Pk.arr W3 w8.heap.size v' (l ++ [x]) ∧ W = W3.setCell ⟨g, 1, none⟩ v'
  ea : L a = true → L e = true
  ac : L c = true → L a = true ∧ L b = true
  cs : L s = true → L c = true
section
variable {w8 : World} {g : Nat} {l : List Pk} {x : Pk} {e a b c s n : Nat} {vals : List (Option Value)} {L : Nat → Bool} {xs : Nat → Value} {W W' : World}
theorem CpInv.noa (h : CpInv w8 g l x e a b c s n vals L xs W) (he : L e = false) : L a = false := by
  cases h9 : L a with
  | false => rfl
  | true => rw [h.ea h9] at he; cases he
theorem CpInv.noc (h : CpInv w8 g l x e a b c s n vals L xs W) (he : L a = false ∨ L b = false) : L c = false := by
  cases h9 : L c with
  | false => rfl
  | true =>
    obtain ⟨h1, h2⟩ := h.ac h9
    rcases he with he | he
    · rw [h1] at he; cases he
    · rw [h2] at he; cases he
theorem CpInv.nos (h : CpInv w8 g l x e a b c s n vals L xs W) (he : L c = false) : L s = false := by
  cases h9 : L s with
  | false => rfl
  | true => rw [h.cs h9] at he; cases he
theorem CpInv.start {m : Nat} (hL : ∀ i, i < m → L i = false) (he : e < m ∧ a < m ∧ b < m ∧ c < m ∧ s < m) (hn : n ≤ m) (hb : Below w8.heap.size w8 W) : CpInv w8 g l x e a b c s n vals L xs W := by
  obtain ⟨h1, h2, h3, h4, h5⟩ := he
  refine ⟨fun i hi h => ?_, fun _ => hb, fun h => ?_, fun h => ?_, fun h => ?_, fun h => ?_, fun h => ?_, fun h => ?_, fun h => ?_, fun h => ?_⟩
  · rw [hL i (by omega)] at h; cases h
  · rw [hL e h1] at h; cases h
  · rw [hL a h2] at h; cases h
  · rw [hL b h3] at h; cases h
  · rw [hL c h4] at h; cases h
  · rw [hL s h5] at h; cases h
  · rw [hL a h2] at h; cases h
  · rw [hL c h4] at h; cases h
  · rw [hL s h5] at h; cases h
theorem cp_val (h : CpInv w8 g l x e a b c s n vals L xs W) {i : Nat} {v : Value} (hv : RvN vals i v) : ∀ j, j < n → (fun j => if j = i then true else L j) j = true → RvN vals j ((fun j => if j = i then v else xs j) j) := fun j hj hL => by
  by_cases e9 : j = i
  · subst e9; simpa using hv
  · simp only [if_neg e9] at hL ⊢; exact h.val j hj hL
theorem CpInv.pure (h : CpInv w8 g l x e a b c s n vals L xs W) (i : Nat) (hi : i ≠ e ∧ i ≠ a ∧ i ≠ b ∧ i ≠ c ∧ i ≠ s) {v : Value} (hv : RvN vals i v) : CpInv w8 g l x e a b c s n vals (fun j => if j = i then true else L j) (fun j => if j = i then v else xs j) W := by
  obtain ⟨n1, n2, n3, n4, n5⟩ := hi
  have m1 := Ne.symm n1
  have m2 := Ne.symm n2
  have m3 := Ne.symm n3
  have m4 := Ne.symm n4
  have m5 := Ne.symm n5
  refine ⟨cp_val h hv, ?_, ?_, ?_, ?_, ?_, ?_, ?_, ?_, ?_⟩
  · simpa only [if_neg m1, if_neg m2, if_neg m3, if_neg m4, if_neg m5] using h.below
  · simpa only [if_neg m1, if_neg m2, if_neg m3, if_neg m4, if_neg m5] using h.emp
  · simpa only [if_neg m1, if_neg m2, if_neg m3, if_neg m4, if_neg m5] using h.one
  · simpa only [if_neg m1, if_neg m2, if_neg m3, if_neg m4, if_neg m5] using h.box
  · simpa only [if_neg m1, if_neg m2, if_neg m3, if_neg m4, if_neg m5] using h.two
  · simpa only [if_neg m1, if_neg m2, if_neg m3, if_neg m4, if_neg m5] using h.fin
  · simpa only [if_neg m1, if_neg m2, if_neg m3, if_neg m4, if_neg m5] using h.ea
  · simpa only [if_neg m1, if_neg m2, if_neg m3, if_neg m4, if_neg m5] using h.ac
  · simpa only [if_neg m1, if_neg m2, if_neg m3, if_neg m4, if_neg m5] using h.cs
theorem CpInv.stepE (h : CpInv w8 g l x e a b c s n vals L xs W) (hd : a ≠ e ∧ b ≠ e ∧ c ≠ e ∧ s ≠ e) (hL : L e = false) {v : Value} (hv : RvN vals e v) (hv2 : v = .slice (some ⟨W.heap.size, 0, none⟩) 0 0) : CpInv w8 g l x e a b c s n vals (fun j => if j = e then true else L j) (fun j => if j = e then v else xs j) (W.alloc (.cells #[] 43)) := by
  obtain ⟨m2, m3, m4, m5⟩ := hd
  have ha := h.noa hL
  have hc := h.noc (.inl ha)
  have hs := h.nos hc
  have hb := h.below hs
  refine ⟨cp_val h hv, fun _ => hb.trans ((alloc_below W _).mono hb.size), fun _ _ => ⟨W.heap.size, by simp [hv2], empty_pks W _ hb.size, heap_alloc_new W _⟩, ?_, ?_, ?_, ?_, ?_, ?_, ?_⟩
  · simp only [if_neg m2, ha]; intro h; cases h
  · simp only [if_neg m3, if_neg m4]
    intro h1 h2
    obtain ⟨b9, e9, hp⟩ := h.box h1 h2
    exact ⟨b9, e9, hp.kept (alloc_below W _)⟩
  · simp only [if_neg m4, hc]; intro h; cases h
  · simp only [if_neg m5, hs]; intro h; cases h
  · intro _; simp
  · simp only [if_neg m4, hc]; intro h; cases h
  · simp only [if_neg m5, hs]; intro h; cases h
theorem CpInv.stepA (h : CpInv w8 g l x e a b c s n vals L xs W) (hd : e ≠ a ∧ b ≠ a ∧ c ≠ a ∧ s ≠ a) (hL : L a = false) (hLe : L e = true) {v : Value} (hv : RvN vals a v) (hb : Below w8.heap.size w8 W') (ho : OwnL 2 43 Pk.arr W' w8.heap.size v l) (hk : ∀ b9, PkB W b9 x → PkB W' b9 x) : CpInv w8 g l x e a b c s n vals (fun j => if j = a then true else L j) (fun j => if j = a then v else xs j) W' := by
  obtain ⟨m1, m3, m4, m5⟩ := hd
  have hc := h.noc (.inl hL)
  have hs := h.nos hc
  refine ⟨cp_val h hv, fun _ => hb, ?_, fun _ _ => by simpa using ho, ?_, ?_, ?_, ?_, ?_, ?_⟩
  · intro _ h2; simp at h2
  · simp only [if_neg m3, if_neg m4]
    intro h1 h2
    obtain ⟨b9, e9, hp⟩ := h.box h1 h2
    exact ⟨b9, e9, hk _ hp⟩
  · simp only [if_neg m4, hc]; intro h; cases h
  · simp only [if_neg m5, hs]; intro h; cases h
  · simp only [if_neg m1, hLe]; intro _; trivial
  · simp only [if_neg m4, hc]; intro h; cases h
  · simp only [if_neg m5, hs]; intro h; cases h
theorem CpInv.stepB (h : CpInv w8 g l x e a b c s n vals L xs W) (hd : e ≠ b ∧ a ≠ b ∧ c ≠ b ∧ s ≠ b) (hL : L b = false) {v : Value} (hv : RvN vals b v) (hv2 : v = .slice (some ⟨W.heap.size, 0, none⟩) 1 1) {cs9 : Array Value} (hx : cs9 = x.arr) : CpInv w8 g l x e a b c s n vals (fun j => if j = b then true else L j) (fun j => if j = b then v else xs j) (W.alloc (.cells cs9 43)) := by
  obtain ⟨m1, m2, m4, m5⟩ := hd
  subst hx
  have hc := h.noc (.inr hL)
  have hs := h.nos hc
  have hb := h.below hs
  refine ⟨cp_val h hv, fun _ => hb.trans ((alloc_below W _).mono hb.size), ?_, ?_, fun _ _ => ⟨W.heap.size, by simp [hv2], heap_alloc_new W _⟩, ?_, ?_, ?_, ?_, ?_⟩
  · simp only [if_neg m1, if_neg m2]
    intro h1 h2
    obtain ⟨g1, e1, o1, c1⟩ := h.emp h1 h2
    exact ⟨g1, e1, o1.kept (alloc_below W _), ((alloc_below W _).block g1 (Array.getElem?_eq_some_iff.1 c1).1).trans c1⟩
  · simp only [if_neg m2, if_neg m4]
    intro h1 h2
    exact (h.one h1 h2).kept (alloc_below W _)
  · simp only [if_neg m4, hc]; intro h; cases h
  · simp only [if_neg m5, hs]; intro h; cases h
  · simpa only [if_neg m1, if_neg m2] using h.ea
  · simp only [if_neg m4, hc]; intro h; cases h
  · simp only [if_neg m5, hs]; intro h; cases h
theorem CpInv.stepC (h : CpInv w8 g l x e a b c s n vals L xs W) (hd : e ≠ c ∧ a ≠ c ∧ b ≠ c ∧ s ≠ c) (hL : L c = false) (hLa : L a = true) (hLb : L b = true) {v : Value} (hv : RvN vals c v) (hb : Below w8.heap.size w8 W') (ho : OwnL 2 43 Pk.arr W' w8.heap.size v (l ++ [x])) : CpInv w8 g l x e a b c s n vals (fun j => if j = c then true else L j) (fun j => if j = c then v else xs j) W' := by
  obtain ⟨m1, m2, m3, m5⟩ := hd
  have hs := h.nos hL
  refine ⟨cp_val h hv, fun _ => hb, ?_, ?_, ?_, fun _ _ => by simpa using ho, ?_, ?_, ?_, ?_⟩
  · simp only [if_neg m2, hLa]; intro _ h; cases h
  · intro _ h; simp at h
  · intro _ h; simp at h
  · simp only [if_neg m5, hs]; intro h; cases h
  · simpa only [if_neg m1, if_neg m2] using h.ea
  · simp only [if_neg m2, if_neg m3, hLa, hLb]; intro _; exact ⟨trivial, trivial⟩
  · simp only [if_neg m5, hs]; intro h; cases h
theorem CpInv.stepS (h : CpInv w8 g l x e a b c s n vals L xs W) (hd : e ≠ s ∧ a ≠ s ∧ b ≠ s ∧ c ≠ s) (hL : L s = false) (hLc : L c = true) {v u : Value} (hv : RvN vals s v) (hu : xs c = u) : CpInv w8 g l x e a b c s n vals (fun j => if j = s then true else L j) (fun j => if j = s then v else xs j) (W.setCell ⟨g, 1, none⟩ u) := by
  obtain ⟨m1, m2, m3, m4⟩ := hd
  subst hu
  obtain ⟨hLa, hLb⟩ := h.ac hLc
  refine ⟨cp_val h hv, ?_, ?_, ?_, ?_, ?_, fun _ => ⟨W, xs c, h.below hL, h.two hLc hL, rfl⟩, ?_, ?_, ?_⟩
  · intro h; simp at h
  · simp only [if_neg m2, hLa]; intro _ h; cases h
  · simp only [if_neg m4, hLc]; intro _ h; cases h
  · simp only [if_neg m4, hLc]; intro _ h; cases h
  · intro _ h; simp at h
  · simpa only [if_neg m1, if_neg m2] using h.ea
  · simpa only [if_neg m2, if_neg m3, if_neg m4] using h.ac
  · simp only [if_neg m4, hLc]; intro _; trivial
end
theorem pk_ne_empty {W : World} {b g1 : Nat} {x : Pk} (h : PkB W b x) (h1 : W.heap[g1]? = some (.cells #[] 43 (0, 0))) : b ≠ g1 := by
  rintro rfl
  unfold PkB at h
  rw [h] at h1
  injection h1 with h1
  injection h1 with h1
  have := congrArg Array.size h1
  simp [Pk.arr] at this
/-- append([]api.Packet{}, l...) of a list that lies in the old. -/
theorem wpList_append_cp {w8 W : World} {ops : Array Oper} {rest : List Oper} {o : Oper} {ac : Act} {Q : Exit → Act → World → Prop} (hgd : o.guard = none) (os ox : Operand)
    (ho : o.op = .call { callee := .builtin .append, args := #[os, ox], argTypes := #[39, 39] })
    {ty : TypeId} {g g1 : Nat} {v : Value} {q : Nt} {x : Pk} (hs : ac.eval os = .slice (some ⟨g1, 0, none⟩) 0 0) (hown : OwnL 2 43 Pk.arr W w8.heap.size (.slice (some ⟨g1, 0, none⟩) 0 0) []) (hg1 : W.heap[g1]? = some (.cells #[] 43 (0, 0)))
    (hx : ac.eval ox = v) (hn : NtIn W ty g v q) (hlen : q.l.length ≤ 64) (hb : Below w8.heap.size w8 W)
    (h : ∀ v' w', OwnL 2 43 Pk.arr w' w8.heap.size v' q.l → Below w8.heap.size w8 w' → (∀ b9, PkB W b9 x → PkB w' b9 x) → wpList Try.prog ops Q rest (ac.put o.dst v') w') :
    wpList Try.prog ops Q (o :: rest) ac W := by
  rcases hn.list.2 with ⟨rfl, hn0⟩ | ⟨b, cap, cur, rfl, -, hg, hnc, hcm, hcs, htake⟩
  · have hl : q.l = [] := List.eq_nil_of_length_eq_zero hn0
    refine wpList_append_pk0 hgd os ox ho (base := 0) hs hx (h _ _ (by rw [hl]; exact hown) hb (fun _ hp => hp))
  · refine wpList_append_pks hgd os ox ho hs hown (M := q.l) hx rfl (fun j u hj => ?_) (by simp; omega) hb.size (fun v' w' h1 h2 _ => h v' w' (by simpa using h1) (hb.grown h2 hb.size (fun k hk => (hown.lt k hk).1)) (fun b9 hp => ?_))
    · have hjl := (List.getElem?_eq_some_iff.1 hj).1
      rw [lCells_length (sz := 2) pk_size] at hjl
      rw [addr_add, Nat.zero_add, cell_of_row W b j cur _ (0, 0) hg]
      rw [← htake, List.getElem?_take, if_pos (by omega)] at hj
      simpa using hj
    · have hne := pk_ne_empty hp hg1
      exact (h2.block b9 hp.lt (fun e => by injection e with e; exact hne e)).trans hp
/-- A net whose list was copied, one put behind it, and stored. -/
theorem NtIn.copied {w w8 W3 : World} {ty : TypeId} {g : Nat} {v v' : Value} {q : Nt} {l' : List Pk} (h : NtIn w8 ty g v q) (hb : Below w8.heap.size w8 W3) (ho : OwnL 2 43 Pk.arr W3 w8.heap.size v' l') (h0 : Below w.heap.size w w8) : NtIn (W3.setCell ⟨g, 1, none⟩ v') ty g v' { q with l := l' } ∧ TrN (nfoot g v) w (W3.setCell ⟨g, 1, none⟩ v') ∧ ∀ k, nfoot g v' k → nfoot g v k ∨ w.heap.size ≤ k := by
  refine ⟨h.relist (hb.block g (h.lt (.inl rfl))) (ho.mono (Nat.zero_le _)), ((TrN.of h0).then (TrN.of (hb.mono h0.size |> fun h => ⟨h.os, h.tape, h.output, hb.size, fun k hk => hb.block k hk⟩))).set (.inl (.inl rfl)), fun k hk => ?_⟩
  rcases hk with rfl | hk
  · exact .inl (.inl rfl)
  · exact .inr (Nat.le_trans h0.size (ho.lt k hk).1)
/-- What is left of the first j ones, but for i. -/
def outN (l : List Pk) (i j : Nat) : List Pk := (l.take j).take i ++ (l.take j).drop (i + 1)
theorem outN_zero (l : List Pk) (i : Nat) : outN l i 0 = [] := by simp [outN]
theorem outN_full (l : List Pk) (i : Nat) : outN l i l.length = l.take i ++ l.drop (i + 1) := by simp [outN]
theorem outN_at (l : List Pk) (i : Nat) : outN l i (i + 1) = outN l i i := by
  unfold outN
  rw [List.take_take, List.take_take, Nat.min_eq_left (by omega), Nat.min_eq_left (by omega), List.drop_of_length_le (by rw [List.length_take]; omega), List.drop_of_length_le (by rw [List.length_take]; omega)]
theorem outN_step (l : List Pk) (i j : Nat) (hj : j < l.length) (hne : j ≠ i) : outN l i (j + 1) = outN l i j ++ [l.getD j Pk.zero] := by
  have hs : l.take (j + 1) = l.take j ++ [l.getD j Pk.zero] := by
    rw [List.take_add_one, List.getElem?_eq_getElem hj, List.getD_eq_getElem?_getD, List.getElem?_eq_getElem hj]
    rfl
  have hlj : (l.take j).length = j := by rw [List.length_take]; omega
  unfold outN
  rw [hs]
  rcases Nat.lt_or_ge j i with h | h
  · rw [List.take_of_length_le (by simp; omega), List.take_of_length_le (l := l.take j) (by rw [hlj]; omega), List.drop_of_length_le (by simp; omega), List.drop_of_length_le (by rw [hlj]; omega)]
    simp
  · rw [List.take_append_of_le_length (by rw [hlj]; omega), List.drop_append_of_le_length (by rw [hlj]; omega), List.append_assoc]
theorem outN_len (l : List Pk) (i j : Nat) : (outN l i j).length ≤ l.length := by
  unfold outN
  rw [List.length_append, List.length_take, List.length_drop, List.length_take]
  omega
set_option maxRecDepth 100000 in
set_option maxHeartbeats 6400000 in
theorem rnout_c {w : World} {g : Nat} {v : Value} {q : Nt} (h : NtIn w 60 g v q) (h64 : q.l.length ≤ 64) (i : Nat) (hi : i < q.l.length) : Calls Try.prog 33 #[.pointer (some ⟨g, 0, none⟩), .int .i64 (i : Int)] w (fun e w' => e = .returned (.tuple #[]) ∧ ∃ v', NtIn w' 60 g v' { q with l := q.l.take i ++ q.l.drop (i + 1) } ∧ TrN (nfoot g v) w w' ∧ ∀ k, nfoot g v' k → nfoot g v k ∨ w.heap.size ≤ k) := by
  obtain ⟨b, cap, hv, hle, hcm, -, -, -⟩ := h.pk (i := (i : Int)) ⟨by omega, by omega⟩
  have HH := Lib.hid h
  have HV := Lib.hid hv
  obtain ⟨n, hn⟩ : ∃ z, q.l.length = z := ⟨_, rfl⟩
  have HN := Lib.hid hn
  have HC := Lib.hid (fun (W : World) (hW : Below w.heap.size w W) => show W.cell? ⟨g, 1, none⟩ = some (.slice (some ⟨b, 0, none⟩) n cap) ∧ W.frozen? ⟨g, 1, none⟩ = false from by
    have := (h.below hW).cs.2.1
    rw [hv, hn] at this
    exact ⟨this, (h.below hW).fz 1⟩)
  have HIN := Lib.hid (show i < n from by omega)
  have hle2 : n ≤ cap := by omega
  clear h hv hn hi
  go_enter Try.func33, Try.ntmps33
  go_wp2
  go_loopw [4, 5] (fun v9 j9 wr => ∃ j : Nat, j ≤ n ∧ j9 = .int .i64 (j : Int) ∧ OwnL 2 43 Pk.arr wr w.heap.size v9 (outN q.l i j) ∧ Below w.heap.size w wr) (fun _ j9 _ => n - (RowKit.intOf j9).toNat)
  case atStart => exact ⟨0, by omega, rfl, by rw [outN_zero]; exact World.ownsRow_nil _ _ _ _, Below.refl _ _⟩
  case round =>
    obtain ⟨j, hj, rfl, hrow, hb⟩ := hrel
    have HB := Lib.hid hb
    have HROW := Lib.hid hrow
    obtain ⟨c1, c2⟩ := HC.out _ hb
    clear hb hrow
    by_cases hlt : j < n
    · have hjj : (j : Int) < (n : Int) := by omega
      have hjc : (j : Int) < (cap : Int) := by omega
      by_cases heq : j = i
      · subst heq
        have hbe : ((j : Int) != (j : Int)) = false := by simp
        go_wp2
        go_roundw
        case rel => exact ⟨j + 1, by omega, by go_num, by rw [outN_at]; exact HROW.out, HB.out⟩
        case measure => simp [RowKit.intOf]; omega
      · have hbe : ((j : Int) != (i : Int)) = true := by simp; omega
        have HNE := Lib.hid heq
        obtain ⟨b', cap', e, -, -, -, -, hat⟩ := (HH.out.below HB.out).pk (i := (j : Int)) ⟨by omega, by have := HN.out; omega⟩
        rw [HV.out] at e
        injection e with e1 e2 e3
        injection e1 with e1
        injection e1 with e1
        subst e1
        obtain ⟨a0, a1⟩ := hat _ (Below.refl _ _)
        rw [Int.toNat_natCast] at a0 a1
        have hgd : q.get (j : Int) = q.l.getD j Pk.zero := rfl
        have HST := Lib.hid (outN_step q.l i j (by have := HN.out; omega) heq)
        rw [← hgd] at HST
        obtain ⟨p9, hp9⟩ : ∃ z, q.get (j : Int) = z := ⟨_, rfl⟩
        rw [hp9] at a0 a1 HST
        obtain ⟨pf, hpf⟩ : ∃ z, p9.frm = z := ⟨_, rfl⟩
        obtain ⟨tp, htp⟩ : ∃ z, text p9.s = z := ⟨_, rfl⟩
        have HPA := Lib.hid (show #[.int .i64 pf, .string tp] = p9.arr from by simp only [Pk.arr, hpf, htp])
        rw [hpf] at a0
        rw [htp] at a1
        clear hat hp9 hpf htp hgd heq e2 e3
        have HOA := Lib.hid (HROW.out.kept (alloc_below wr (.cells #[.int .i64 pf, .string tp] 43)))
        have HPK := Lib.hid (show PkB (wr.alloc (.cells #[.int .i64 pf, .string tp] 43)) wr.heap.size p9 from by unfold PkB; rw [← HPA.out]; exact heap_alloc_new wr _)
        have HBA := Lib.hid (HB.out.trans ((alloc_below wr (.cells #[.int .i64 pf, .string tp] 43)).mono HB.out.size))
        have HOL := Lib.hid (show (outN q.l i j).length + 1 ≤ 2000000 from by have := outN_len q.l i j; omega)
        go_wp2_with (at_builtin; refine wpList_append_pk rfl _ _ rfl rfl HOA.out p9 rfl HPK.out HOL.out HBA.out.size ?_; intro v9 w9 ho9 hg9 ha9; have HO9 := Lib.hid ho9; have HB9 := Lib.hid (HBA.out.grown hg9 HBA.out.size (fun k hk => (HROW.out.lt k hk).1)); clear ho9 hg9 ha9)
        go_roundw
        case rel => exact ⟨j + 1, by omega, by go_num, by rw [HST.out]; exact HO9.out, HB9.out⟩
        case measure => simp [RowKit.intOf]; omega
    · obtain rfl : j = n := by omega
      have hfull : outN q.l i j = q.l.take i ++ q.l.drop (i + 1) := by rw [← HN.out]; exact outN_full q.l i
      rw [hfull] at HROW
      obtain ⟨va, vc, ev, -⟩ := OwnL.ls (z := Pk.zero) pk_size HROW.out
      obtain ⟨vm, hvm⟩ : ∃ z, (q.l.take i ++ q.l.drop (i + 1)).length = z := ⟨_, rfl⟩
      rw [hvm] at ev
      subst ev
      clear hvm hfull
      go_wp2
      refine bodyPost_end (results_none rfl _ _ _) rfl ?_
      refine ⟨rfl, _, (HH.out.below HB.out).relist rfl (HROW.out.mono (Nat.zero_le _)), (TrN.of HB.out).set (.inl (.inl rfl)), fun k hk => ?_⟩
      rcases hk with rfl | hk
      · exact .inl (.inl rfl)
      · exact .inr (HROW.out.lt k hk).1
end Go.Proofs.Ytngfohedddcboaa
