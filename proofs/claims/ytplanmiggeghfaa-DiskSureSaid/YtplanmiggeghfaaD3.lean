/-
  Disk: one file of a disk turned; the program's cut and lose of a file.
-/
import Derived.Test.YtplanmiggeghfaaD2
namespace Go.Proofs.Ytplanmiggeghfaa
open Go.RowKit Go Go.Sort Go.Maps
set_option linter.unusedVariables false
set_option maxRecDepth 20000

theorem FilesB.kinds {W : World} {FS : List Fl} (h : FilesB W FS) {x y : Fl} (hx : x ∈ FS) (hy : y ∈ FS) : x.v.ownBlock ≠ some y.g := fun e => by
  obtain ⟨c, hc⟩ := (h.own x hx).blkD e
  exact absurd (tneD hc (h.box y hy)) (by decide)
theorem FilesB.lt {W : World} {FS : List Fl} (h : FilesB W FS) {x : Fl} (hx : x ∈ FS) : x.g < W.heap.size ∧ ∀ k, x.v.ownBlock = some k → k < W.heap.size :=
  ⟨(Array.getElem?_eq_some_iff.1 (h.box x hx)).1, fun k hk => ((h.own x hx).lt k hk).2⟩
theorem FilesB.upd {W W' : World} {A C : List Fl} {x x' : Fl} (h : FilesB W (A ++ x :: C)) (hg : x'.g = x.g) (hbox : W'.heap[x.g]? = some (.cells #[x'.v, .int .i64 (x'.f.su : Int)] 98 (0, 0))) (hown : OwnB W' 0 5 x'.v x'.f.b)
    (hv : ∀ k, x'.v.ownBlock = some k → x.v.ownBlock = some k ∨ W.heap.size ≤ k) (hk : ∀ k, k < W.heap.size → k ≠ x.g → x.v.ownBlock ≠ some k → W'.heap[k]? = W.heap[k]?) : FilesB W' (A ++ x' :: C) := by
  have hxm : x ∈ A ++ x :: C := by simp
  have hap := h.apart
  rw [List.pairwise_append, List.pairwise_cons] at hap
  obtain ⟨p1, ⟨p2, p3⟩, p4⟩ := hap
  have hA : ∀ y ∈ A, y.g ≠ x.g ∧ ∀ k, y.v.ownBlock = some k → x.v.ownBlock ≠ some k := fun y hy => p4 y hy x (by simp)
  have hC : ∀ y ∈ C, y.g ≠ x.g ∧ ∀ k, y.v.ownBlock = some k → x.v.ownBlock ≠ some k := fun y hy => ⟨Ne.symm (p2 y hy).1, fun k hk e => (p2 y hy).2 k e hk⟩
  have hO : ∀ y, y ∈ A ∨ y ∈ C → y ∈ A ++ x :: C ∧ y.g ≠ x.g ∧ ∀ k, y.v.ownBlock = some k → x.v.ownBlock ≠ some k := fun y hy => by
    rcases hy with hy | hy
    · exact ⟨by simp [hy], hA y hy⟩
    · exact ⟨by simp [hy], hC y hy⟩
  have hkb : ∀ y, y ∈ A ∨ y ∈ C → W'.heap[y.g]? = W.heap[y.g]? := fun y hy => hk _ (h.lt (hO y hy).1).1 (hO y hy).2.1 (h.kinds hxm (hO y hy).1)
  have hkv : ∀ y, y ∈ A ∨ y ∈ C → ∀ k, y.v.ownBlock = some k → W'.heap[k]? = W.heap[k]? := fun y hy k e => hk _ ((h.lt (hO y hy).1).2 k e) (fun e2 => h.kinds (hO y hy).1 hxm (e2 ▸ e)) ((hO y hy).2.2 k e)
  have hmem : ∀ y, y ∈ A ++ x' :: C → y = x' ∨ (y ∈ A ∨ y ∈ C) := fun y hy => by
    simp only [List.mem_append, List.mem_cons] at hy
    rcases hy with hy | hy | hy
    · exact .inr (.inl hy)
    · exact .inl hy
    · exact .inr (.inr hy)
  refine ⟨fun y hy => ?_, fun y hy => ?_, ?_⟩
  · rcases hmem y hy with rfl | hy
    · rw [hg]; exact hbox
    · exact (hkb y hy).trans (h.box y (hO y hy).1)
  · rcases hmem y hy with rfl | hy
    · exact hown
    · exact (h.own y (hO y hy).1).of_blk (hkv y hy)
  · rw [List.pairwise_append, List.pairwise_cons]
    refine ⟨p1, ⟨fun y hy => ⟨by rw [hg]; exact Ne.symm (hC y hy).1, fun k e e2 => ?_⟩, p3⟩, fun y hy z hz => ?_⟩
    · rcases hv k e with h1 | h1
      · exact (hC y hy).2 k e2 h1
      · have := (h.lt (hO y (.inr hy)).1).2 k e2; omega
    · rcases List.mem_cons.1 hz with rfl | hz
      · refine ⟨by rw [hg]; exact (hA y hy).1, fun k e e2 => ?_⟩
        rcases hv k e2 with h1 | h1
        · exact (hA y hy).2 k e h1
        · have := (h.lt (hO y (.inl hy)).1).2 k e; omega
      · exact p4 y hy z (by simp [hz])
theorem foot_upd {q m : Nat} {pv : Value} {A C : List Fl} {x x' : Fl} {n : Nat} (hg : x'.g = x.g) (hv : ∀ k, x'.v.ownBlock = some k → x.v.ownBlock = some k ∨ n ≤ k) {k : Nat} (hk : foot q m pv (A ++ x' :: C) k) : foot q m pv (A ++ x :: C) k ∨ n ≤ k := by
  rcases hk with h | h | h | ⟨y, hy, h⟩
  · exact .inl (.inl h)
  · exact .inl (.inr (.inl h))
  · exact .inl (.inr (.inr (.inl h)))
  · simp only [List.mem_append, List.mem_cons] at hy
    rcases hy with hy | rfl | hy
    · exact .inl (.inr (.inr (.inr ⟨y, by simp [hy], h⟩)))
    · rcases h with h | h
      · exact .inl (.inr (.inr (.inr ⟨x, by simp, .inl (by rw [← hg]; exact h)⟩)))
      · rcases hv k h with h1 | h1
        · exact .inl (.inr (.inr (.inr ⟨x, by simp, .inr h1⟩)))
        · exact .inr h1
    · exact .inl (.inr (.inr (.inr ⟨y, by simp [hy], h⟩)))
theorem mapD_upd {A C : List Fl} {x x' : Fl} (hg : x'.g = x.g) (hn : x'.f.nm = x.f.nm) : mapD (A ++ x' :: C) = mapD (A ++ x :: C) := by
  simp [mapD, mapL, hg, hn]
theorem DiskIn.upd {W W' : World} {q m : Nat} {pv : Value} {A C : List Fl} {x x' : Fl} {st : Ds} (h : DiskIn W q m pv (A ++ x :: C) st) (hg : x'.g = x.g) (hn : x'.f.nm = x.f.nm) (hl : x'.f.b.length ≤ 1048576 ∧ x'.f.su ≤ x'.f.b.length)
    (hbox : W'.heap[x.g]? = some (.cells #[x'.v, .int .i64 (x'.f.su : Int)] 98 (0, 0))) (hown : OwnB W' 0 5 x'.v x'.f.b)
    (hv : ∀ k, x'.v.ownBlock = some k → x.v.ownBlock = some k ∨ W.heap.size ≤ k) (hk : ∀ k, k < W.heap.size → k ≠ x.g → x.v.ownBlock ≠ some k → W'.heap[k]? = W.heap[k]?) : DiskIn W' q m pv (A ++ x' :: C) { st with F := A.map Fl.f ++ x'.f :: C.map Fl.f } := by
  have hxm : x ∈ A ++ x :: C := by simp
  obtain ⟨k1, k2, k3, k4, k5, k6⟩ := h.kinds
  have hF : st.F = A.map Fl.f ++ x.f :: C.map Fl.f := by rw [← h.pr]; simp
  have kq : W'.heap[q]? = W.heap[q]? := hk q (h.lt (.inl rfl)) (Ne.symm (k4 x hxm).1) (k4 x hxm).2.2.2.1
  have km : W'.heap[m]? = W.heap[m]? := hk m (h.lt (.inr (.inl rfl))) (Ne.symm (k4 x hxm).2.1) (k4 x hxm).2.2.2.2
  refine ⟨kq.trans h.head, ?_, ?_, h.fb.upd hg hbox hown hv hk, by simp, ?_⟩
  · rcases h.plan with h1 | ⟨h1, gp, h2, h3⟩
    · exact .inl h1
    · exact .inr ⟨h1, gp, h2, (hk gp (h.lt (.inr (.inr (.inl h2)))) (fun e => (k4 x hxm).2.2.1 (by rw [h2, e])) (fun e => k6 x hxm gp e h2)).trans h3⟩
  · have hm := ownsMap_keep h.map km
    rw [mapD_upd hg hn]
    simpa using hm
  · have ok := h.ok
    refine ⟨?_, fun f hf => ?_, ?_, ok.pn, ok.room⟩
    · have := ok.len; rw [hF] at this; simpa using this
    · simp only [List.mem_append, List.mem_cons] at hf
      have hx2 := (ok.each x.f (by rw [hF]; simp)).2.2
      rcases hf with hf | rfl | hf
      · exact ok.each f (by rw [hF]; simp only [List.mem_append]; exact .inl hf)
      · exact ⟨hl.1, hl.2, by rw [hn]; exact hx2⟩
      · exact ok.each f (by rw [hF]; simp only [List.mem_append, List.mem_cons]; exact .inr (.inr hf))
    · have ha := ok.asc
      rw [hF, List.pairwise_append, List.pairwise_cons] at ha
      show (A.map Fl.f ++ x'.f :: C.map Fl.f).Pairwise _
      rw [List.pairwise_append, List.pairwise_cons]
      refine ⟨ha.1, ⟨fun f hf => by rw [hn]; exact ha.2.1.1 f hf, ha.2.1.2⟩, fun f hf z hz => ?_⟩
      rcases List.mem_cons.1 hz with rfl | hz
      · rw [hn]; exact ha.2.2 f hf x.f (by simp)
      · exact ha.2.2 f hf z (by simp [hz])
theorem setF_split {A C : List Fi} {f : Fi} (g : Fi → Fi) (ha : (A ++ f :: C).Pairwise (fun a b => Op.bytesLess a.nm b.nm = true)) : setF f.nm g (A ++ f :: C) = A ++ g f :: C := by
  rw [List.pairwise_append, List.pairwise_cons] at ha
  have e1 : ∀ L : List Fi, (∀ y ∈ L, y.nm ≠ f.nm) → L.map (fun y => if y.nm = f.nm then g y else y) = L := fun L h => by
    have e : L.map (fun y => if y.nm = f.nm then g y else y) = L.map id := List.map_congr_left fun y hy => by simp [h y hy]
    rw [e, List.map_id]
  unfold setF
  rw [List.map_append, List.map_cons, e1 A (fun y hy => less_ne (ha.2.2 y hy f (by simp))), e1 C (fun y hy => Ne.symm (less_ne (ha.2.1.1 y hy)))]
  simp
/-- What a call on a file's box leaves. -/
def BoxPost (g : Nat) (v' : Value) (su : Nat) (w : World) (e : Ending) (w' : World) : Prop :=
  e = .returned (.tuple #[]) ∧ w'.heap[g]? = some (.cells #[v', .int .i64 (su : Int)] 98 (0, 0)) ∧ w.grownBy w' (some g)
theorem box_cs {W : World} {g : Nat} {v u : Value} (h : W.heap[g]? = some (.cells #[v, u] 98 (0, 0))) : W.cell? ⟨g, 0, none⟩ = some v ∧ W.cell? ⟨g, 1, none⟩ = some u := by
  refine ⟨?_, ?_⟩ <;> (rw [cell_of_row W g _ _ 98 (0, 0) h]; rfl)
theorem box_fz {W : World} {g : Nat} {v u : Value} (h : W.heap[g]? = some (.cells #[v, u] 98 (0, 0))) (i : Nat) : W.frozen? ⟨g, i, none⟩ = false := frozen_of_row W g i _ 98 h
theorem grown_set {w w' : World} {g : Nat} (h : w.grownBy w' (some g)) (i : Nat) (v : Value) : w.grownBy (w'.setCell ⟨g, i, none⟩ v) (some g) :=
  ⟨h.os, h.tape, h.output, by rw [World.size_setCell]; exact h.size, fun k hk hne => (heap_setCell_other w' ⟨g, i, none⟩ k v (by simpa using hne)).trans (h.block k hk hne)⟩
theorem box_set0 {W : World} {g : Nat} {v u : Value} (h : W.heap[g]? = some (.cells #[v, u] 98 (0, 0))) (x : Value) : (W.setCell ⟨g, 0, none⟩ x).heap[g]? = some (.cells #[x, u] 98 (0, 0)) := by
  rw [heap_setCell_same W g 0 _ 98 _ h]; rfl
theorem box_set1 {W : World} {g : Nat} {v u : Value} (h : W.heap[g]? = some (.cells #[v, u] 98 (0, 0))) (x : Value) : (W.setCell ⟨g, 1, none⟩ x).heap[g]? = some (.cells #[v, x] 98 (0, 0)) := by
  rw [heap_setCell_same W g 1 _ 98 _ h]; rfl
set_option maxRecDepth 100000 in
set_option maxHeartbeats 3200000 in
theorem fcut_c {w : World} {g : Nat} {a : Option Addr} {l c su n : Nat} (hb : w.heap[g]? = some (.cells #[.slice a l c, .int .i64 (su : Int)] 98 (0, 0))) (hl : l ≤ c) (hn : n ≤ l) :
    Calls Try.prog 77 #[.pointer (some ⟨g, 0, none⟩), .int .i64 (n : Int)] w (BoxPost g (.slice a n c) (min su n) w) := by
  obtain ⟨c0, c1⟩ := box_cs hb
  have f0 := box_fz hb 0
  have f1 := box_fz hb 1
  have n0 : (0 : Int) ≤ (n : Int) := by omega
  have n1 : (n : Int) ≤ (c : Int) := by omega
  have HB := Lib.hid hb
  have hmin : min (su : Int) (n : Int) = ((min su n : Nat) : Int) := by omega
  have HM := Lib.hid hmin
  clear hb hl hn hmin
  go_enter Try.func77, Try.ntmps77
  go_upto_region 1 with (fail)
  have hb1 := box_set0 HB.out (.slice a n c)
  have HG := Lib.hid (grown_set (World.grownBy.refl w (some g)) 0 (.slice a n c))
  clear c0 c1 f0 f1
  generalize w.setCell ⟨g, 0, none⟩ (.slice a n c) = W1 at *
  obtain ⟨c0, c1⟩ := box_cs hb1
  have f0 := box_fz hb1 0
  have f1 := box_fz hb1 1
  have HB1 := Lib.hid hb1
  clear hb1
  go_wp2
  refine bodyPost_end (results_none rfl _ _ _) rfl ?_
  refine ⟨rfl, ?_, grown_set HG.out 1 _⟩
  rw [← HM.out]
  exact box_set1 HB1.out _
set_option maxRecDepth 100000 in
set_option maxHeartbeats 6400000 in
theorem flose_c {w : World} {g : Nat} {a : Option Addr} {l c su : Nat} (hb : w.heap[g]? = some (.cells #[.slice a l c, .int .i64 (su : Int)] 98 (0, 0))) (hl : l ≤ c) (hc : c ≤ 9223372036854775807) (hs : su ≤ l) (h20 : l ≤ 1048576) (keep : Int) :
    Calls Try.prog 78 #[.pointer (some ⟨g, 0, none⟩), .int .i64 keep] w (BoxPost g (.slice a (loseN keep l su) c) (loseN keep l su) w) := by
  obtain ⟨bh, hbh⟩ : ∃ q : Nat, l - su = q := ⟨_, rfl⟩
  obtain ⟨mx, hmx⟩ : ∃ q : Int, max keep 0 = q := ⟨_, rfl⟩
  obtain ⟨mn, hmn, hmn2⟩ : ∃ q : Nat, min mx (bh : Int) = (q : Int) ∧ q ≤ bh := ⟨(min mx (bh : Int)).toNat, by omega, by omega⟩
  obtain ⟨n, hn⟩ : ∃ q : Nat, loseN keep l su = q := ⟨_, rfl⟩
  have hnv : n = su + mn := by
    have e : (l : Int) - (su : Int) = (bh : Int) := by omega
    unfold loseN at hn
    rw [hmx, e, hmn] at hn
    omega
  rw [hn]
  have s1 : IntKind.i64.wrap ((l : Int) - (su : Int)) = (bh : Int) := by rw [IntKind.wrap_i64]; omega
  have s2 : IntKind.i64.wrap ((su : Int) + (mn : Int)) = (n : Int) := by rw [IntKind.wrap_i64]; omega
  have s3 : (su : Int) + (mn : Int) = (n : Int) := by omega
  have n0 : (0 : Int) ≤ (n : Int) := by omega
  have n1 : (n : Int) ≤ (c : Int) := by omega
  obtain ⟨c0, c1⟩ := box_cs hb
  have HB := Lib.hid hb
  clear hb hl hs h20 hbh hn hnv hmn2 hc
  have H2 := Lib.hid s2
  have H3 := Lib.hid s3
  clear s2 s3
  go_enter Try.func78, Try.ntmps78
  go_wp2
  go_quiet (fail)
  have HB1 := Lib.hid (show (w.drewN nq).heap[g]? = some (.cells #[.slice a l c, .int .i64 (su : Int)] 98 (0, 0)) from HB.out)
  have HD := Lib.hid (drewN_below (Below.refl w.heap.size w) nq)
  clear c0 c1 s1
  go_upto_region 1 with (fail)
  obtain ⟨W1, hW1⟩ : ∃ X, w.drewN nq = X := ⟨_, rfl⟩
  rw [hW1] at HB1 HD ⊢
  clear hW1
  have HCB := Lib.hid (fun W (hW : Below W1.heap.size W1 W) => box_cs ((hW.block g (Array.getElem?_eq_some_iff.1 HB1.out).1).trans HB1.out))
  have s2 := H2.out
  refine wp_region_flow_tail 17 [none, none, none, none, none, none, none, none, none, none, none, none, none, none, none, some 0, some 1, some 2, some 3, some 4, some 5, some 6, some 7, some 8, some 9, some 10, some 11, some 12, some 13, some 14, some 15, some 16, none, none, none, none, none, none, none, none] (fun i => [undef, undef, undef, undef, undef, undef, undef, undef, undef, undef, undef, undef, undef, undef, undef, undef, undef].getD i undef) [(fun v _ => v = .pointer (some ⟨g, 0, none⟩)), (fun v _ => v = .pointer (some ⟨g, 0, none⟩)), (fun v _ => v = .pointer (some ⟨g, 0, none⟩)), (fun v _ => v = .pointer (some ⟨g, 0, none⟩)), (fun v _ => v = .slice a l c), (fun v _ => v = .pointer (some ⟨g, 0, none⟩)), (fun v _ => v = .pointer (some ⟨g, 0, none⟩)), (fun v _ => v = .pointer (some ⟨g, 1, none⟩)), (fun v _ => v = .int .i64 (su : Int)), (fun v _ => v = .int .i64 keep), (fun v _ => v = .int .i64 mx), (fun v _ => v = .int .i64 (bh : Int)), (fun v _ => v = .int .i64 (mn : Int)), (fun v _ => v = .int .i64 (n : Int)), (fun v _ => v = .slice a n c), (fun v _ => v = .pointer (some ⟨g, 0, none⟩)), (fun v _ => v = .pointer (some ⟨g, 0, none⟩))] (fun _ => False) (by kernel_rfl) (by kernel_rfl) (by kernel_rfl) rfl rfl rfl ?_ ?_ ?_
  · intro g hg v X Y hX hY hv
    simp only [List.mem_cons, List.not_mem_nil, or_false] at hg
    rcases hg with rfl | rfl | rfl | rfl | rfl | rfl | rfl | rfl | rfl | rfl | rfl | rfl | rfl | rfl | rfl | rfl | rfl
    all_goals first
      | exact hv
      | exact hv.kept hY
  · simp only [flowOpsF, List.take_succ_cons, List.take_zero, and_true]
    refine ⟨?_, ?_, ?_, ?_, ?_, ?_, ?_, ?_, ?_, ?_, ?_, ?_, ?_, ?_, ?_, ?_, ?_⟩
    · intro xs W hW hn9
      simp only [flowAct, List.zipWith_cons_cons, List.zipWith_nil_left]
      go_wp2_with (fail)
      exact ⟨rfl, _, rfl, Below.refl _ _, rfl, fun h => h.elim⟩
    · intro xs W hW hn9
      simp only [flowAct, List.zipWith_cons_cons, List.zipWith_nil_left]
      go_wp2_with (fail)
      exact ⟨rfl, _, rfl, Below.refl _ _, rfl, fun h => h.elim⟩
    · intro xs W hW hn9
      simp [flowNeeds, Region.binds] at hn9
      simp only [flowAct, List.zipWith_cons_cons, List.zipWith_nil_left]
      try simp only [hn9]
      go_wp2_with (fail)
      exact ⟨rfl, _, rfl, Below.refl _ _, rfl, fun h => h.elim⟩
    · intro xs W hW hn9
      simp [flowNeeds, Region.binds] at hn9
      simp only [flowAct, List.zipWith_cons_cons, List.zipWith_nil_left]
      try simp only [hn9]
      go_wp2_with (fail)
      exact ⟨rfl, _, rfl, Below.refl _ _, rfl, fun h => h.elim⟩
    · intro xs W hW hn9
      obtain ⟨c0, c1⟩ := HCB.out W hW
      simp [flowNeeds, Region.binds] at hn9
      simp only [flowAct, List.zipWith_cons_cons, List.zipWith_nil_left]
      try simp only [hn9]
      go_wp2_with (fail)
      exact ⟨rfl, _, rfl, Below.refl _ _, rfl, fun h => h.elim⟩
    · intro xs W hW hn9
      simp only [flowAct, List.zipWith_cons_cons, List.zipWith_nil_left]
      go_wp2_with (fail)
      exact ⟨rfl, _, rfl, Below.refl _ _, rfl, fun h => h.elim⟩
    · intro xs W hW hn9
      simp [flowNeeds, Region.binds] at hn9
      simp only [flowAct, List.zipWith_cons_cons, List.zipWith_nil_left]
      try simp only [hn9]
      go_wp2_with (fail)
      exact ⟨rfl, _, rfl, Below.refl _ _, rfl, fun h => h.elim⟩
    · intro xs W hW hn9
      simp [flowNeeds, Region.binds] at hn9
      simp only [flowAct, List.zipWith_cons_cons, List.zipWith_nil_left]
      try simp only [hn9]
      go_wp2_with (fail)
      exact ⟨rfl, _, rfl, Below.refl _ _, rfl, fun h => h.elim⟩
    · intro xs W hW hn9
      obtain ⟨c0, c1⟩ := HCB.out W hW
      simp [flowNeeds, Region.binds] at hn9
      simp only [flowAct, List.zipWith_cons_cons, List.zipWith_nil_left]
      try simp only [hn9]
      go_wp2_with (fail)
      exact ⟨rfl, _, rfl, Below.refl _ _, rfl, fun h => h.elim⟩
    · intro xs W hW hn9
      simp only [flowAct, List.zipWith_cons_cons, List.zipWith_nil_left]
      go_wp2_with (fail)
      exact ⟨rfl, _, rfl, Below.refl _ _, rfl, fun h => h.elim⟩
    · intro xs W hW hn9
      simp [flowNeeds, Region.binds] at hn9
      simp only [flowAct, List.zipWith_cons_cons, List.zipWith_nil_left]
      try simp only [hn9]
      go_wp2_with (fail)
      exact ⟨rfl, _, rfl, Below.refl _ _, rfl, fun h => h.elim⟩
    · intro xs W hW hn9
      simp only [flowAct, List.zipWith_cons_cons, List.zipWith_nil_left]
      go_wp2_with (fail)
      exact ⟨rfl, _, rfl, Below.refl _ _, rfl, fun h => h.elim⟩
    · intro xs W hW hn9
      simp [flowNeeds, Region.binds] at hn9
      simp only [flowAct, List.zipWith_cons_cons, List.zipWith_nil_left]
      try simp only [hn9]
      go_wp2_with (fail)
      exact ⟨rfl, _, rfl, Below.refl _ _, rfl, fun h => h.elim⟩
    · intro xs W hW hn9
      simp [flowNeeds, Region.binds] at hn9
      simp only [flowAct, List.zipWith_cons_cons, List.zipWith_nil_left]
      try simp only [hn9]
      go_wp2_with (fail)
      exact ⟨rfl, _, rfl, Below.refl _ _, rfl, fun h => h.elim⟩
    · intro xs W hW hn9
      simp [flowNeeds, Region.binds] at hn9
      simp only [flowAct, List.zipWith_cons_cons, List.zipWith_nil_left]
      try simp only [hn9]
      go_wp2_with (fail)
      exact ⟨rfl, _, rfl, Below.refl _ _, rfl, fun h => h.elim⟩
    · intro xs W hW hn9
      simp [flowNeeds, Region.binds] at hn9
      simp only [flowAct, List.zipWith_cons_cons, List.zipWith_nil_left]
      try simp only [hn9]
      go_wp2_with (fail)
      exact ⟨rfl, _, rfl, Below.refl _ _, rfl, fun h => h.elim⟩
    · intro xs W hW hn9
      simp [flowNeeds, Region.binds] at hn9
      simp only [flowAct, List.zipWith_cons_cons, List.zipWith_nil_left]
      try simp only [hn9]
      go_wp2_with (fail)
      exact ⟨rfl, _, rfl, Below.refl _ _, rfl, fun h => h.elim⟩
  · intro xs W hW hall hfr
    clear hfr
    simp only [flowAll, and_true, Nat.zero_add, Nat.reduceAdd] at hall
    obtain ⟨-, -, -, -, -, -, -, -, -, -, -, -, -, -, a14, -, a16⟩ := hall
    simp only [flowAct, List.zipWith_cons_cons, List.zipWith_nil_left, List.drop_succ_cons, List.drop_zero]
    simp only [a14, a16]
    clear a14 a16
    have hb1 := (hW.block g (Array.getElem?_eq_some_iff.1 HB1.out).1).trans HB1.out
    obtain ⟨c0, c1⟩ := box_cs hb1
    have f0 := box_fz hb1 0
    have HB2 := Lib.hid hb1
    have hW9 := HD.out.trans (hW.mono HD.out.size)
    have HW := Lib.hid (show w.grownBy W (some g) from ⟨hW9.os, hW9.tape, hW9.output, hW9.size, fun k hk _ => hW9.block k hk⟩)
    clear hW9
    clear hb1 hW
    go_upto_region 2 with (fail)
    have hb3 := box_set0 HB2.out (.slice a n c)
    have HG := Lib.hid (grown_set HW.out 0 (.slice a n c))
    clear c0 c1 f0 HB2 HW
    generalize W.setCell ⟨g, 0, none⟩ (.slice a n c) = W3 at *
    obtain ⟨c0, c1⟩ := box_cs hb3
    have f0 := box_fz hb3 0
    have f1 := box_fz hb3 1
    have HB3 := Lib.hid hb3
    clear hb3
    go_wp2
    refine bodyPost_end (results_none rfl _ _ _) rfl ?_
    exact ⟨rfl, box_set1 HB3.out _, grown_set HG.out 1 _⟩
end Go.Proofs.Ytplanmiggeghfaa
