/-
  Disk: the program's Used and lose: loops over the map of files.
-/
import Derived.Test.YtplanmiggeghfaaD3
namespace Go.Proofs.Ytplanmiggeghfaa
open Go.RowKit Go Go.Sort Go.Maps Go.WideMaps
set_option linter.unusedVariables false
set_option maxRecDepth 20000

/-- The files that a loop has been at. -/
def doneL (left : Lit → Bool) (FS : List Fl) : List Fl := FS.filter (fun y => !left (.string y.f.nm))
theorem doneL_start (FS : List Fl) : doneL (Maps.has (mapD FS)) FS = [] := by
  unfold doneL
  rw [List.filter_eq_nil_iff]
  intro x hx
  have : Maps.has (mapD FS) (.string x.f.nm) = true := by
    unfold mapD Maps.has mapL
    rw [List.any_eq_true]
    exact ⟨_, List.mem_map.2 ⟨x, hx, rfl⟩, by simp [Lit.sameKey]⟩
  simp [this]
theorem doneL_end {left : Lit → Bool} (h : ∀ kl, left kl = false) (FS : List Fl) : doneL left FS = FS := by
  unfold doneL
  rw [List.filter_eq_self]
  intro x hx
  simp [h]
/-- The names of a disk's files are unlike. -/
def Names (FS : List Fl) : Prop := FS.Pairwise (fun a b => a.f.nm ≠ b.f.nm)
theorem DiskIn.names {W : World} {q m : Nat} {pv : Value} {FS : List Fl} {st : Ds} (h : DiskIn W q m pv FS st) : Names FS := by
  have := h.ok.asc
  rw [← h.pr, List.pairwise_map] at this
  exact this.imp less_ne
theorem left_other {left : Lit → Bool} {y x : Fl} (h : y.f.nm ≠ x.f.nm) : (left (.string y.f.nm) && !(Lit.string y.f.nm).sameKey (.string x.f.nm)) = left (.string y.f.nm) := by
  have : (Lit.string y.f.nm).sameKey (.string x.f.nm) = false := by simp [Lit.sameKey, h]
  rw [this]; simp
theorem doneL_step {left : Lit → Bool} {A C : List Fl} {x : Fl} (hn : Names (A ++ x :: C)) (hl : left (.string x.f.nm) = true) :
    (doneL (fun z => left z && !z.sameKey (.string x.f.nm)) (A ++ x :: C)).Perm (x :: doneL left (A ++ x :: C)) := by
  unfold Names at hn
  rw [List.pairwise_append, List.pairwise_cons] at hn
  have e : ∀ L : List Fl, (∀ y ∈ L, y.f.nm ≠ x.f.nm) → L.filter (fun y => !(left (.string y.f.nm) && !(Lit.string y.f.nm).sameKey (.string x.f.nm))) = L.filter (fun y => !left (.string y.f.nm)) := fun L h =>
    List.filter_congr fun y hy => by rw [left_other (h y hy)]
  unfold doneL
  rw [List.filter_append, List.filter_append, List.filter_cons, List.filter_cons, e A (fun y hy => hn.2.2 y hy x (by simp)), e C (fun y hy => Ne.symm (hn.2.1.1 y hy))]
  simp only [hl, Lit.sameKey, beq_self_eq_true, Bool.not_true, Bool.and_false, Bool.not_false, if_true]
  simp only [Bool.false_eq_true, if_false]
  exact List.perm_middle
theorem key_invD {key : Value} {kl : Lit} (h : keyOf Try.prog 9 key = some kl) : ∃ s : List UInt8, key = .string (text s) ∧ kl = .string s := by
  cases key <;> simp [keyOf, Try.underlying9, mapKey] at h
  rename_i b
  obtain ⟨h1, rfl⟩ := h
  exact ⟨b.data.toList, by simp [text], rfl⟩
theorem entryD {FS : List Fl} {key v : Value} {kl : Lit} {y : DataW Unit × List MemPlace} (hk : keyOf Try.prog 9 key = some kl) (hv : ptrElem v = some y) (ha : ∀ zd, (mapD FS).atKey kl zd = y.1) :
    ∃ A x C, FS = A ++ x :: C ∧ kl = .string x.f.nm ∧ key = .string (text x.f.nm) ∧ v = .pointer (some ⟨x.g, 0, none⟩) := by
  obtain ⟨s, rfl, rfl⟩ := key_invD hk
  cases hf : FS.find? (fun x => x.f.nm == s) with
  | none =>
    have h1 := ha .nil
    have h2 := ha (.lit (.bool true))
    rw [atKeyD, hf] at h1 h2
    simp only at h1 h2
    rw [← h1] at h2
    cases h2
  | some x =>
    obtain ⟨hn, A, C, e⟩ := find_split hf
    have h1 := ha .nil
    rw [atKeyD, hf] at h1
    simp only at h1
    obtain ⟨d, ps⟩ := y
    simp only at h1
    subst h1
    exact ⟨A, x, C, e, by rw [hn], by rw [hn], ptrElem_lit hv⟩
theorem sum_len_le {L : List Nat} {c n : Nat} (h : ∀ x ∈ L, x ≤ c) (hn : L.length ≤ n) : L.sum ≤ n * c := by
  have : L.sum ≤ L.length * c := by
    induction L with
    | nil => simp
    | cons a r ih =>
      have h1 := h a (by simp)
      have h2 := ih (fun x hx => h x (by simp [hx])) (by simp at hn; omega)
      simp only [List.sum_cons, List.length_cons, Nat.succ_mul]
      omega
  exact Nat.le_trans this (Nat.mul_le_mul_right c hn)
theorem DiskIn.few {W : World} {q m : Nat} {pv : Value} {FS : List Fl} {st : Ds} (h : DiskIn W q m pv FS st) {L : List Fl} (hL : L.length ≤ FS.length) (hs : ∀ x ∈ L, x ∈ FS) : (L.map fun x => x.f.b.length).sum ≤ 67108864 := by
  have hl : FS.length ≤ 64 := by have := h.ok.len; rw [← h.pr] at this; simpa using this
  have := sum_len_le (L := L.map fun x => x.f.b.length) (c := 1048576) (n := 64) (fun x hx => by
    obtain ⟨y, hy, rfl⟩ := List.mem_map.1 hx
    exact (h.ok.each y.f (by rw [← h.pr]; exact List.mem_map.2 ⟨y, hs y hy, rfl⟩)).1) (by simp; omega)
  omega
theorem Below.thenD {a b c : World} (h : Below a.heap.size a b) (h' : Below b.heap.size b c) : Below a.heap.size a c := h.trans (h'.mono h.size)
theorem rg_below {w wr w2 : World} {r : Nat} (hb : Below w.heap.size w wr) (hg : wr.grownBy w2 (some r)) (hr : w.heap.size ≤ r) : Below w.heap.size w w2 := hb.grown hg hb.size (fun k hk => by cases hk; exact hr)
set_option maxRecDepth 100000 in
set_option maxHeartbeats 6400000 in
theorem dused_c {w : World} {q m : Nat} {pv : Value} {FS : List Fl} {st : Ds} (h : DiskIn w q m pv FS st) : Calls Try.prog 56 #[.pointer (some ⟨q, 0, none⟩)] w (Tells (.int .i64 (usedF st.F : Int)) w) := by
  have c0 := h.cs.1
  have hu : usedF st.F = (FS.map fun x => x.f.b.length).sum := by unfold usedF; rw [← h.pr, List.map_map]; rfl
  rw [hu]
  have HD := Lib.hid h
  have HM := Lib.hid h.map
  have HN := Lib.hid h.names
  clear hu h
  go_enter Try.func56, Try.ntmps56
  go_wp2_with (first
    | (go_at_call 64; (with_reducible refine (dmade_c HD.out).mono ?_); rintro e9 w9 ⟨rfl, rfl⟩)
    | (at_range; refine wpList_range_own _ rfl _ 82 rfl 9 94 klawD Try.underlying82 ptrElem m FS.length (mapD FS) rfl HM.out ?_; intro w0 hrg0 hg0 hs0)
    | go_in)
  go_frame
  go_loopw [3] (fun s wr => ∃ (left : Lit → Bool) (cnt : Nat), wr.ranges Try.prog 9 ptrElem m w.heap.size FS.length (mapD FS) left cnt ∧ s = .int .i64 ((((doneL left FS).map fun x => x.f.b.length).sum : Nat) : Int) ∧ Below w.heap.size w wr) (fun _ wr => wr.rangeLeft m w.heap.size)
  case atStart => exact ⟨_, _, hrg0, by rw [doneL_start]; rfl, ⟨hg0.os, hg0.tape, hg0.output, hg0.size, fun k hk => hg0.block k hk (by simp)⟩⟩
  case round =>
    obtain ⟨left, cnt, hrg, rfl, hb⟩ := hrel
    have HRG := Lib.hid hrg
    have HB := Lib.hid hb
    clear hb
    go_wp2_with (first
      | (at_next; refine wpList_next_ranges _ rfl _ rfl 9 klawD ptrElem (fun v : Value => v) (fun v : Value => v) (fun key kl _ => ⟨key, rfl⟩) (fun v y _ => ⟨v, rfl⟩) m w.heap.size FS.length _ _ _ rfl hrg ?_ ?_)
      | go_in)
    · intro hc0 hl0
      rw [doneL_end hl0]
      go_wp2
      go_ret
      exact ⟨rfl, HB.out⟩
    · intro key v kl yd yp w2 cnt2 hkey hlk hv hat hrg2 hlt hg2 hs2 hen
      obtain ⟨A, x, C, e, rfl, rfl, rfl⟩ := entryD (y := (yd, yp)) hkey hv hat
      have hB2 := rg_below HB.out hg2 (Nat.le_refl _)
      have hd2 := HD.out.below hB2
      have hxm : x ∈ FS := by rw [e]; simp
      have hbx := hd2.fb.box x hxm
      have hpm := doneL_step (left := left) (x := x) (A := A) (C := C) (by rw [← e]; exact HN.out) hlk
      rw [← e] at hpm
      have hsm := (hpm.map fun x => x.f.b.length).sum_nat
      simp only [List.map_cons, List.sum_cons] at hsm
      have hf1 := HD.out.few (L := doneL left FS) (List.length_filter_le _ _) (fun x hx => (List.mem_filter.1 hx).1)
      obtain ⟨S1, hS1⟩ : ∃ q, ((doneL left FS).map fun x => x.f.b.length).sum = q := ⟨_, rfl⟩
      rw [hS1] at hsm hf1 ⊢
      obtain ⟨a, c, hva, hby⟩ := (hd2.fb.own x hxm).bys
      rw [hva] at hbx
      obtain ⟨d0, d1⟩ := box_cs hbx
      have hlen : x.f.b.length ≤ 1048576 := (HD.out.ok.each x.f (by rw [← HD.out.pr]; exact List.mem_map.2 ⟨x, hxm, rfl⟩)).1
      obtain ⟨xl, hxl⟩ : ∃ q, x.f.b.length = q := ⟨_, rfl⟩
      rw [hxl] at d0 hsm hlen
      obtain ⟨xg, hxg⟩ : ∃ q, x.g = q := ⟨_, rfl⟩
      rw [hxg] at d0 hen ⊢
      obtain ⟨kx, hkx⟩ : ∃ q, text x.f.nm = q := ⟨_, rfl⟩
      rw [hkx] at hen ⊢
      have hw : IntKind.i64.wrap ((S1 : Int) + (xl : Int)) = ((S1 + xl : Nat) : Int) := by rw [IntKind.wrap_i64]; omega
      have hw3 : (S1 : Int) + (xl : Int) = ((S1 + xl : Nat) : Int) := by omega
      have HB2 := Lib.hid hB2
      have HS := Lib.hid (show ((doneL (fun z => left z && !z.sameKey (.string x.f.nm)) FS).map fun x => x.f.b.length).sum = S1 + xl by omega)
      have HW3 := Lib.hid hw3
      have HR2 := Lib.hid hrg2
      have HLT := Lib.hid hlt
      clear hB2 hd2 hbx hpm hsm hf1 hS1 hva hby d1 hlen hxl hxg hkx hw3 hrg2 hlt hg2 hs2 hat hv hlk hkey hxm hrg
      go_wp2
      go_roundw
      case rel => exact ⟨_, cnt2, HR2.out, by rw [HS.out]; first | rfl | (congr 1; exact HW3.out), HB2.out⟩
      case measure => rw [HR2.out.left_eq, HRG.out.left_eq]; exact HLT.out

def cutV (v : Value) (n : Nat) : Value := match v with
  | .slice a _ c => .slice a n c
  | v => v
def lostL (keep : Int) (x : Fl) : Fl := ⟨x.g, cutV x.v (loseN keep x.f.b.length x.f.su), x.f.lose keep⟩
def leftL (keep : Int) (left : Lit → Bool) (x : Fl) : Fl := if left (.string x.f.nm) = true then x else lostL keep x
theorem cutV_blk (v : Value) (n : Nat) : (cutV v n).ownBlock = v.ownBlock := by
  unfold cutV
  split
  · rename_i a l c; cases a <;> rfl
  · rfl
theorem leftL_same {keep : Int} {left : Lit → Bool} {x : Fl} (L : List Fl) (h : ∀ y ∈ L, y.f.nm ≠ x.f.nm) : L.map (leftL keep (fun z => left z && !z.sameKey (.string x.f.nm))) = L.map (leftL keep left) :=
  List.map_congr_left fun y hy => by unfold leftL; simp only [left_other (h y hy)]
theorem lose_bd (keep : Int) {l s : Nat} (h : s ≤ l) : s ≤ loseN keep l s ∧ loseN keep l s ≤ l := by unfold loseN; omega
theorem lost_ok {st : Ds} (h : st.Ok) (keep : Int) : (st.lost keep st.F).Ok := by
  refine ⟨by simpa [Ds.lost] using h.len, fun f hf => ?_, ?_, h.pn, h.room⟩
  · obtain ⟨y, hy, rfl⟩ := List.mem_map.1 hf
    have h1 := h.each y hy
    have h2 := lose_bd keep h1.2.1
    refine ⟨?_, ?_, h1.2.2⟩
    · show (y.b.take _).length ≤ _
      rw [List.length_take]; omega
    · show loseN keep y.b.length y.su ≤ (y.b.take _).length
      rw [List.length_take]; omega
  · show (st.F.map (Fi.lose keep)).Pairwise _
    rw [List.pairwise_map]
    exact h.asc
theorem lostF_map (keep : Int) (FS : List Fl) : (FS.map (lostL keep)).map Fl.f = (FS.map Fl.f).map (Fi.lose keep) := by
  rw [List.map_map, List.map_map]; rfl
theorem mapD_lost (keep : Int) (FS : List Fl) : mapD (FS.map (lostL keep)) = mapD FS := by
  unfold mapD mapL; rw [List.map_map]; rfl
theorem leftL_start (keep : Int) (FS : List Fl) : FS.map (leftL keep (Maps.has (mapD FS))) = FS := by
  have : FS.map (leftL keep (Maps.has (mapD FS))) = FS.map id := List.map_congr_left fun x hx => by
    have : Maps.has (mapD FS) (.string x.f.nm) = true := by
      unfold mapD Maps.has mapL
      rw [List.any_eq_true]
      exact ⟨_, List.mem_map.2 ⟨x, hx, rfl⟩, by simp [Lit.sameKey]⟩
    unfold leftL; rw [if_pos this]; rfl
  rw [this, List.map_id]
theorem leftL_end {keep : Int} {left : Lit → Bool} (h : ∀ kl, left kl = false) (FS : List Fl) : FS.map (leftL keep left) = FS.map (lostL keep) :=
  List.map_congr_left fun x hx => by unfold leftL; rw [if_neg (by simp [h])]
theorem foot_lost {q m : Nat} {pv : Value} {keep : Int} {FS : List Fl} {k : Nat} (h : foot q m (.pointer none) (FS.map (lostL keep)) k) : foot q m pv FS k := by
  rcases h with h | h | h | ⟨y, hy, h⟩
  · exact .inl h
  · exact .inr (.inl h)
  · cases h
  · obtain ⟨x, hx, rfl⟩ := List.mem_map.1 hy
    refine .inr (.inr (.inr ⟨x, hx, ?_⟩))
    rcases h with h | h
    · exact .inl h
    · exact .inr (by rw [← h]; exact (cutV_blk _ _).symm)
set_option maxRecDepth 100000 in
set_option maxHeartbeats 6400000 in
theorem dlose_c {w : World} {q m : Nat} {pv : Value} {FS : List Fl} {st : Ds} (h : DiskIn w q m pv FS st) (keep : Int) : Calls Try.prog 62 #[.pointer (some ⟨q, 0, none⟩), .int .i64 keep] w (DPost q (foot q m pv FS) (.tuple #[]) (st.lost keep st.F) w) := by
  have c0 := h.cs.1
  have HD := Lib.hid h
  have HM := Lib.hid h.map
  have HN := Lib.hid h.names
  clear h
  go_enter Try.func62, Try.ntmps62
  go_wp2_with (first
    | (at_range; refine wpList_range_own _ rfl _ 82 rfl 9 94 klawD Try.underlying82 ptrElem m FS.length (mapD FS) rfl HM.out ?_; intro w0 hrg0 hg0 hs0)
    | go_in)
  go_frame
  go_loopw [] (fun wr => ∃ (left : Lit → Bool) (cnt : Nat), wr.ranges Try.prog 9 ptrElem m w.heap.size FS.length (mapD FS) left cnt ∧ FilesB wr (FS.map (leftL keep left)) ∧ Trn (foot q m pv FS) w wr ∧ (∀ k, (k = q ∨ pv = .pointer (some ⟨k, 0, none⟩)) → wr.heap[k]? = w.heap[k]?)) (fun wr => wr.rangeLeft m w.heap.size)
  case atStart =>
    have hb : Below w.heap.size w w0 := ⟨hg0.os, hg0.tape, hg0.output, hg0.size, fun k hk => hg0.block k hk (by simp)⟩
    exact ⟨_, _, hrg0, by rw [leftL_start]; exact (HD.out.below hb).fb, Trn.of hb, fun k hk => hb.block k (HD.out.lt (by rcases hk with rfl | hk; exact .inl rfl; exact .inr (.inr (.inl hk))))⟩
  case round =>
    obtain ⟨left, cnt, hrg, hfb, htr, hqk⟩ := hrel
    have HRG := Lib.hid hrg
    have HF := Lib.hid hfb
    have HT := Lib.hid htr
    have HQ := Lib.hid hqk
    clear hfb htr hqk
    go_wp2_with (first
      | (at_next; refine wpList_next_ranges _ rfl _ rfl 9 klawD ptrElem (fun v : Value => v) (fun v : Value => v) (fun key kl _ => ⟨key, rfl⟩) (fun v y _ => ⟨v, rfl⟩) m w.heap.size FS.length _ _ _ rfl hrg ?_ ?_)
      | go_in)
    · intro hc0 hl0
      have hfb := HF.out
      rw [leftL_end hl0] at hfb
      have hh := (HQ.out q (.inl rfl)).trans HD.out.head
      have HH := Lib.hid hh
      have HFB := Lib.hid hfb
      have e0 : ∀ (i : Nat) (v : Value), (#[Value.map (some m), .int .i64 st.room, .bool st.on, .int .i64 st.ops, .int .i64 st.fails, pv] : Array Value)[i]? = some v → wr.cell? ⟨q, i, none⟩ = some v := fun i v hv => by rw [cell_of_row wr q i _ 85 (0, 0) hh]; exact hv
      have d2 := e0 2 _ rfl
      have d4 := e0 4 _ rfl
      have d5 := e0 5 _ rfl
      have f2 := frozen_of_row wr q 2 _ 85 hh
      have f4 := frozen_of_row wr q 4 _ 85 hh
      have f5 := frozen_of_row wr q 5 _ 85 hh
      have HMR := Lib.hid hrg.owns
      obtain ⟨fl, hfl⟩ : ∃ x, wr64 (st.fails + 1) = x := ⟨_, rfl⟩
      have hw : IntKind.i64.wrap (st.fails + 1) = fl := hfl
      clear e0 hh hfb hrg hfl c0
      go_wp2
      refine bodyPost_end (results_none rfl _ _ _) rfl ?_
      have hd := HD.out
      obtain ⟨k1, k2, k3, k4, k5, k6⟩ := hd.kinds
      have hx : ∀ x ∈ FS.map (lostL keep), x.g ≠ q ∧ x.v.ownBlock ≠ some q := fun x hx => by
        obtain ⟨y, hy, rfl⟩ := List.mem_map.1 hx
        exact ⟨(k4 y hy).1, by show (cutV _ _).ownBlock ≠ _; rw [cutV_blk]; exact (k4 y hy).2.2.2.1⟩
      refine ⟨rfl, _, ⟨m, .pointer none, FS.map (lostL keep), ⟨?_, .inl ⟨rfl, rfl⟩, ?_, HFB.out.keep fun x h2 => ⟨?_, fun k hk => ?_⟩, ?_, lost_ok hd.ok keep⟩, rfl⟩, ((HT.out.set (.inl (.inl rfl))).set (.inl (.inl rfl))).set (.inl (.inl rfl)), fun k hk => .inl (foot_lost hk)⟩
      · rw [heap_setCell_same _ q 4 _ 85 _ (by rw [heap_setCell_same _ q 5 _ 85 _ (by rw [heap_setCell_same _ q 2 _ 85 _ HH.out])])]
        rw [← hw]
        rfl
      · rw [mapD_lost, List.length_map]
        refine ownsMap_keep HMR.out ?_
        rw [heap_setCell_other _ _ _ _ (Ne.symm k1), heap_setCell_other _ _ _ _ (Ne.symm k1), heap_setCell_other _ _ _ _ (Ne.symm k1)]
      · have h3 := (hx x h2).1
        rw [heap_setCell_other _ _ _ _ h3, heap_setCell_other _ _ _ _ h3, heap_setCell_other _ _ _ _ h3]
      · have h3 : k ≠ q := fun e => (hx x h2).2 (e ▸ hk)
        rw [heap_setCell_other _ _ _ _ h3, heap_setCell_other _ _ _ _ h3, heap_setCell_other _ _ _ _ h3]
      · rw [lostF_map, hd.pr]; rfl
    · intro key v kl yd yp w2 cnt2 hkey hlk hv hat hrg2 hlt hg2 hs2 hen
      obtain ⟨A, x, C, e, rfl, rfl, rfl⟩ := entryD (y := (yd, yp)) hkey hv hat
      have hxm : x ∈ FS := by rw [e]; simp
      have hnn := HN.out
      rw [e] at hnn
      unfold Names at hnn
      rw [List.pairwise_append, List.pairwise_cons] at hnn
      have hfb := HF.out
      have ex : leftL keep left x = x := by unfold leftL; rw [if_pos hlk]
      have em : FS.map (leftL keep left) = A.map (leftL keep left) ++ x :: C.map (leftL keep left) := by rw [e]; simp [ex]
      have em2 : FS.map (leftL keep (fun z => left z && !z.sameKey (.string x.f.nm))) = A.map (leftL keep left) ++ lostL keep x :: C.map (leftL keep left) := by
        have ex2 : leftL keep (fun z => left z && !z.sameKey (.string x.f.nm)) x = lostL keep x := by unfold leftL; rw [if_neg (by simp [Lit.sameKey])]
        rw [e, List.map_append, List.map_cons, leftL_same A (fun y hy => hnn.2.2 y hy x (by simp)), leftL_same C (fun y hy => Ne.symm (hnn.2.1.1 y hy)), ex2]
      rw [em] at hfb
      have hfl : ∀ z ∈ A.map (leftL keep left) ++ x :: C.map (leftL keep left), z.g < w.heap.size ∧ ∀ k, z.v.ownBlock = some k → k < w.heap.size := fun z hz => by
        rw [← em] at hz
        obtain ⟨y, hy, rfl⟩ := List.mem_map.1 hz
        have h1 := HD.out.fb.lt hy
        unfold leftL
        split
        · exact h1
        · exact ⟨h1.1, fun k hk => h1.2 k (by rw [← hk]; exact (cutV_blk _ _).symm)⟩
      have hfb2 : FilesB w2 (A.map (leftL keep left) ++ x :: C.map (leftL keep left)) := hfb.keep fun z hz => ⟨hg2.block _ (hfb.lt hz).1 (fun e9 => by injection e9 with e9; have := (hfl z hz).1; omega), fun k hk => hg2.block k ((hfb.lt hz).2 k hk) (fun e9 => by injection e9 with e9; have := (hfl z hz).2 k hk; omega)⟩
      have hx2 : x ∈ A.map (leftL keep left) ++ x :: C.map (leftL keep left) := by simp
      have hbx := hfb2.box x hx2
      have hox := hfb2.own x hx2
      obtain ⟨a, c, hva, hby⟩ := hox.bys
      rw [hva] at hbx
      have hlen := HD.out.ok.each x.f (by rw [← HD.out.pr]; exact List.mem_map.2 ⟨x, hxm, rfl⟩)
      have hfl2 := flose_c hbx hby.le hby.max hlen.2.1 hlen.1 keep
      have hrel2 : ∀ w3, w3.heap[x.g]? = some (.cells #[.slice a (loseN keep x.f.b.length x.f.su) c, .int .i64 ((loseN keep x.f.b.length x.f.su : Nat) : Int)] 98 (0, 0)) → w2.grownBy w3 (some x.g) →
          w3.ranges Try.prog 9 ptrElem m w.heap.size FS.length (mapD FS) (fun z => left z && !z.sameKey (.string x.f.nm)) cnt2 ∧ FilesB w3 (FS.map (leftL keep (fun z => left z && !z.sameKey (.string x.f.nm)))) ∧ Trn (foot q m pv FS) w w3 ∧ (∀ k, (k = q ∨ pv = .pointer (some ⟨k, 0, none⟩)) → w3.heap[k]? = w.heap[k]?) := fun w3 hb3 hg3 => by
        have hd := HD.out
        obtain ⟨k1, k2, k3, k4, k5, k6⟩ := hd.kinds
        have hxg := (hfl x hx2).1
        refine ⟨hrg2.kept hg3 (fun e9 => (k4 x hxm).2.1 (by injection e9 with e9; exact e9.symm)) (fun e9 => by injection e9 with e9; omega), ?_, ?_, fun k hk => ?_⟩
        · rw [em2]
          refine hfb2.upd rfl ?_ ?_ (fun k hk => .inl (by rw [← hk]; exact (cutV_blk _ _).symm)) (fun k hk hne hnv => hg3.block k hk (by simpa using hne))
          · show w3.heap[x.g]? = some (.cells #[cutV x.v _, _] _ _)
            rw [hva]; exact hb3
          · show OwnB w3 0 5 (cutV x.v _) (x.f.b.take _)
            rw [hva]
            have ho2 : OwnB w3 0 5 x.v x.f.b := hox.of_blk fun k hk => hg3.block k (hox.lt k hk).2 (fun e9 => by injection e9 with e9; exact hfb2.kinds hx2 hx2 (e9 ▸ hk))
            rw [hva] at ho2
            exact ho2.take (lose_bd keep hlen.2.1).2
        · refine HT.out.trans (F' := fun k => k = w.heap.size ∨ k = x.g) ⟨hg3.os.trans hg2.os, hg3.tape.trans hg2.tape, hg3.output.trans hg2.output, Nat.le_trans hg2.size hg3.size, fun k hk hn => (hg3.block k (Nat.lt_of_lt_of_le hk hg2.size) (fun e9 => hn (.inr (by injection e9)))).trans (hg2.block k hk (fun e9 => hn (.inl (by injection e9))))⟩ (fun k hk => ?_)
          rcases hk with rfl | rfl
          · exact .inr (Nat.le_refl _)
          · exact .inl (.inr (.inr (.inr ⟨x, hxm, .inl rfl⟩)))
        · have hlt9 : k < w.heap.size := hd.lt (by rcases hk with rfl | hk; exact .inl rfl; exact .inr (.inr (.inl hk)))
          have hne : k ≠ x.g := by
            rcases hk with rfl | hk
            · exact Ne.symm (k4 x hxm).1
            · exact fun e9 => (k4 x hxm).2.2.1 (by rw [← e9]; exact hk)
          have hs9 := HT.out.size
          exact ((hg3.block k (by have := hg2.size; omega) (fun e9 => hne (by injection e9))).trans (hg2.block k (by omega) (fun e9 => by injection e9 with e9; omega))).trans (HQ.out k hk)
      have HR := Lib.hid hrel2
      have HFL := Lib.hid hfl2
      have HLT := Lib.hid hlt
      clear hrel2 hfl2 hlen hby hva hox hbx hx2 hfb2 hfl em em2 ex hfb hnn hxm hrg2 hlt hg2 hs2 hat hv hlk hkey hrg
      obtain ⟨xg, hxg⟩ : ∃ q, x.g = q := ⟨_, rfl⟩
      obtain ⟨kx, hkx⟩ : ∃ q, text x.f.nm = q := ⟨_, rfl⟩
      rw [hxg] at hen HR HFL ⊢
      rw [hkx] at hen ⊢
      clear hxg hkx
      go_wp2_with (go_at_call 78; (with_reducible refine HFL.out.mono ?_); rintro e3 w3 ⟨rfl, hb3, hg3⟩)
      obtain ⟨r1, r2, r3, r4⟩ := HR.out w3 hb3 hg3
      go_roundw
      case rel => exact ⟨_, cnt2, r1, r2, r3, r4⟩
      case measure => rw [r1.left_eq, HRG.out.left_eq]; exact HLT.out
end Go.Proofs.Ytplanmiggeghfaa
