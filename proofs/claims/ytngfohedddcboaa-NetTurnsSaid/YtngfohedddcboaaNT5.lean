/-
  Net: the program's remove.
-/
import Derived.Test.YtngfohedddcboaaNT4
import Derived.Shelf.Spec.SlicesInsert
namespace Go.Proofs.Ytngfohedddcboaa
open Go.RowKit Go Go.Sort Go.Lib Go.Maps
set_option linter.unusedVariables false
set_option maxRecDepth 20000

theorem run_copy_sz {P : Program} (w : World) (dT sT ty elem : TypeId) (b o dLen dCap : Nat) (a : Addr) (sLen sCap : Nat) (cs : List Value) (size : Nat)
    (hu : P.underlying dT = some (.slice elem)) (hs : (P.info? elem).map (·.size) = some size) (hn : cs.length = Nat.min sLen dLen * size)
    (hsrc : ∀ j v, cs[j]? = some v → w.cell? (a.add j) = some v) (hc : ∀ j, j < cs.length → (w.cell? ⟨b, o + j, none⟩).isSome = true) (hf : ∀ j, j < cs.length → w.frozen? ⟨b, o + j, none⟩ = false) (h1 : ∀ v ∈ cs, v.oneCell' = true) :
    (Builtin.copy_ #[dT, sT] ty #[.slice (some ⟨b, o, none⟩) dLen dCap, .slice (some a) sLen sCap]).run P w = .ok (goInt (Nat.min sLen dLen)) (w.setCells b o cs) := by
  have hl := run_loadCells_list (P := P) w a cs hsrc
  have hst := run_storeCells_cells (P := P) b o cs 0 w (by simpa using hc) (by simpa using hf) h1
  cases hq : P.info? elem with
  | none => simp [hq] at hs
  | some i =>
    have hi : i.size = size := by simpa [hq] using hs
    simp [Builtin.copy_, run_underlying hu, Builtin.lenOf, Builtin.firstCells, sizeOf, typeInfo, hq, hi, ← hn, hl, hst]
theorem run_clear_sz {P : Program} (w : World) (t e ty : TypeId) (z : Value) (zs : List Value) (ht : P.underlying t = some (.slice e)) (hv : ∀ w, (zeroValue e).run P w = .ok z w) (hz : z.cells.toList = zs) (h1 : ∀ u ∈ zs, u.oneCell' = true) (b o c : Nat)
    (hc : ∀ j, j < zs.length → (w.cell? ⟨b, o + j, none⟩).isSome = true) (hf : ∀ j, j < zs.length → w.frozen? ⟨b, o + j, none⟩ = false) :
    (Builtin.clear_ #[t] ty #[.slice (some ⟨b, o, none⟩) 1 c]).run P w = .ok (.tuple #[]) (w.setCells b o zs) := by
  have hzc : (Builtin.zeroCells z.cells 1).toList = zs := by
    subst hz
    have e : Builtin.zeroCells z.cells 1 = z.cells := by
      apply Array.ext
      · simp [Builtin.zeroCells]
      · intro i h1 h2
        simp [Builtin.zeroCells, Nat.mod_eq_of_lt h2, h2]
    rw [e]
  have hst := run_storeCells_cells (P := P) b o zs 0 w (by simpa using hc) (by simpa using hf) h1
  simp only [Nat.add_zero] at hst
  simp [Builtin.clear_, run_underlying ht, hv, hzc, hst]
theorem wpList_copy_run {P : Program} (w : World) {ops : Array Oper} {rest : List Oper} {o : Oper} {a : Act} {Q : Exit → Act → World → Prop} (hgd : o.guard = none) (d s : Operand) (t t' : TypeId)
    (ho : o.op = .call { callee := .builtin .copy, args := #[d, s], argTypes := #[t, t'] }) (v u : Value) (hd : a.eval d = v) (hs : a.eval s = u) {v' : Value} {w' : World}
    (hr : (Builtin.copy_ #[t, t'] o.type #[v, u]).run P w = .ok v' w') (h : wpList P ops Q rest (a.put o.dst v') w') : wpList P ops Q (o :: rest) a w := wpList_copy_runI w hgd d s t t' ho v u hd hs hr h
theorem below_setCells_at {B g : Nat} (hg : B ≤ g) : ∀ (vs : List Value) (o : Nat) {a w : World}, Below B a w → Below B a (w.setCells g o vs)
  | [], _, _, _, h => h
  | v :: r, o, _, _, h => below_setCells_at hg r (o + 1) (h.setCell (p := ⟨g, o, none⟩) hg v)
theorem setCells_other (g : Nat) : ∀ (vs : List Value) (o : Nat) (w : World) (k : Nat), k ≠ g → (w.setCells g o vs).heap[k]? = w.heap[k]?
  | [], _, _, _, _ => rfl
  | v :: r, o, w, k, h => (setCells_other g r (o + 1) _ k h).trans (Below.heap_setCell w ⟨g, o, none⟩ v k h)
theorem setCells_size (g : Nat) : ∀ (vs : List Value) (o : Nat) (w : World), (w.setCells g o vs).heap.size = w.heap.size
  | [], _, _ => rfl
  | v :: r, o, w => by rw [World.setCells, setCells_size g r, World.size_setCell]
theorem TrN.cells {F : Nat → Prop} {W W' : World} (h : TrN F W W') {g : Nat} (hg : F g) (o : Nat) (vs : List Value) : TrN F W (W'.setCells g o vs) := by
  have hb := below_setCells_at (B := 0) (g := g) (Nat.zero_le _) vs o (Below.refl 0 W')
  exact h.then ⟨hb.os, hb.tape, hb.output, by rw [setCells_size]; exact Nat.le_refl _, fun k _ hn => setCells_other g vs o W' k (fun e => hn (e ▸ hg))⟩
/-- The worlds while packets move down. -/
def DropR (w : World) (b o : Nat) (cs : List Value) : Nat → World → Prop
  | 0, W => SameN w W
  | _, W => ∃ W3, SameN w W3 ∧ W = W3.setCells b o cs
theorem DropR.any {w W : World} {b o : Nat} {cs : List Value} {k : Nat} (h : DropR w b o cs k W) : TrN (fun j => j = b) w W := by
  cases k with
  | zero => exact TrN.of (SameN.below h)
  | succ k =>
    obtain ⟨W3, hs, rfl⟩ := h
    exact (TrN.of (F := fun j => j = b) hs.below).cells (g := b) rfl _ _
theorem setCells_heapN {g : Nat} : ∀ {w w' : World}, w.heap = w'.heap → ∀ (o : Nat) (vs : List Value), (w.setCells g o vs).heap = (w'.setCells g o vs).heap := by
  intro w w' h o vs
  induction vs generalizing o w w' with
  | nil => exact h
  | cons v r ih =>
    rw [World.setCells, World.setCells]
    refine ih ?_ _
    unfold World.setCell
    rw [h]
set_option maxRecDepth 100000 in
set_option maxHeartbeats 6400000 in
theorem nrem1_c {w : World} {g nn : Nat} {q : Nt} {F : Nat → Prop} (hk : Nk w 56 g q F) (ho : q.Ok nn) (hnn : nn ≤ 100000) (i9 : Int) : Calls Try.prog 32 #[.pointer (some ⟨g, 0, none⟩), .int .i64 i9, .int .i64 1] w (NPost 56 g F (.tuple #[.agg (q.look i9).1.arr, .int .i64 (q.look i9).2]) (q.took i9) w) := by
  have HB := Lib.hid (alloc_below w (.cells #[.int .i64 0, .string ⟨#[]⟩] 43))
  have HP := Lib.hid (show PkB (w.alloc (.cells #[.int .i64 0, .string ⟨#[]⟩] 43)) w.heap.size Pk.zero from heap_alloc_new w _)
  have HKB := Lib.hid (hk.below HB.out)
  have HLK := Lib.hid (nlook_c HKB.out ho.m0 i9)
  obtain ⟨v, h, rfl⟩ := hk
  have HO := Lib.hid h
  have HCB := Lib.hid (show 0 ≤ q.c1 ∧ q.c1 ≤ 4611686018427387904 from by have := ho.b1; omega)
  have hml := ho.len
  have hm1 := ho.m1
  obtain ⟨B, hB⟩ : ∃ z, w.heap.size = z := ⟨_, rfl⟩
  have HSB := Lib.hid hB
  rw [hB] at HP
  by_cases hi : q.has i9
  · have he : q.look i9 = (q.get i9, 0) := by unfold Nt.look; rw [if_pos hi]
    have he2 : q.took i9 = { q with l := q.rest i9, c1 := q.c1 + 1 } := by unfold Nt.took; rw [if_pos hi]
    rw [he2]
    unfold LkPost at HLK
    rw [he] at HLK ⊢
    obtain ⟨b, cap, hv, hle, hcm, hbg, hbt, -⟩ := HO.out.pk hi
    have hr9 : q.rest i9 = q.l.take i9.toNat ++ q.l.drop (i9.toNat + 1) := rfl
    rw [hr9]
    obtain ⟨i, rfl⟩ := Int.eq_ofNat_of_zero_le hi.1
    have hlt : i < q.l.length := by have := hi.2; omega
    rw [Int.toNat_natCast]
    obtain ⟨p9, hp9⟩ : ∃ z, q.get (i : Int) = z := ⟨_, rfl⟩
    rw [hp9] at HLK ⊢
    obtain ⟨pf, hpf⟩ : ∃ z, p9.frm = z := ⟨_, rfl⟩
    obtain ⟨tp, htp⟩ : ∃ z, text p9.s = z := ⟨_, rfl⟩
    have HPA := Lib.hid (show p9.arr = #[.int .i64 pf, .string tp] from by simp only [Pk.arr, hpf, htp])
    have HTX := Lib.hid (show (Value.int .i64 p9.frm = .int .i64 pf) ∧ (Value.string (text p9.s) = .string tp) from by rw [← hpf, ← htp]; exact ⟨rfl, rfl⟩)
    simp only [HPA.out] at HLK
    obtain ⟨n, hn⟩ : ∃ z, q.l.length = z := ⟨_, rfl⟩
    have HM := Lib.hid hn
    have HV := Lib.hid (show v = .slice (some ⟨b, 0, none⟩) n cap from by rw [hv, hn])
    obtain ⟨p, hp⟩ : ∃ z, i + 1 = z := ⟨_, rfl⟩
    obtain ⟨m1, hm⟩ : ∃ z, n - 1 = z := ⟨_, rfl⟩
    obtain ⟨d, hd⟩ : ∃ z, n - p = z := ⟨_, rfl⟩
    have HD := Lib.hid hd
    have hll := lCells_length (arr := Pk.arr) (sz := 2) pk_size q.l
    obtain ⟨news, hnews⟩ : ∃ z, (lCells Pk.arr q.l).drop (p * 2) = z := ⟨_, rfl⟩
    have hnl : news.length = (n - p) * 2 := by rw [← hnews, List.length_drop, hll]; omega
    have HNW := Lib.hid (show news = (lCells Pk.arr q.l).drop ((i + 1) * 2) from by rw [hp]; exact hnews.symm)
    have hin : i < n := by omega
    have hnc : n ≤ cap := by omega
    have hn64 : n ≤ 64 := by omega
    have HPN := Lib.hid (show i < n ∧ n - 1 = m1 from ⟨hin, hm⟩)
    have HBG := Lib.hid hbg
    have hone : ∀ u ∈ news, u.oneCell' = true := fun u hu => by rw [← hnews] at hu; exact pks_one _ u (List.mem_of_mem_drop hu)
    have hmn : i + (n - p) = m1 := by omega
    have hpn : p ≤ n := by omega
    have hpi : (i : Int) + 1 = (p : Int) := by omega
    have hwp : IntKind.i64.wrap ((i : Int) + 1) = (p : Int) := by rw [IntKind.wrap_i64]; omega
    have hwm : IntKind.i64.wrap ((i : Int) + (d : Int)) = (m1 : Int) := by rw [IntKind.wrap_i64]; omega
    obtain ⟨A, hA⟩ : ∃ A, (if cap = p then (some (⟨b, 0, none⟩ : Addr)) else some ⟨b, p * 2, none⟩) = A := ⟨_, rfl⟩
    have hic : (i : Int) ≤ (cap : Int) := by omega
    have hcap : ¬ cap = i := by omega
    have hcm1 : ¬ cap = m1 := by omega
    clear hv hi he he2 hr9 hp9 hpf htp hn hll hml hm1 h hlt hle hbt
    go_enter Try.func32, Try.ntmps32
    go_upto_region 1 with (fail)
    try rw [hB]
    clear hB
    generalize w.alloc (.cells #[.int .i64 0, .string ⟨#[]⟩] 43) = W1 at *
    go_upto_region 2 with (go_at_call 20; (with_reducible refine HLK.out.mono ?_); rintro e1 w1 ⟨rfl, hb1⟩)
    have hal := alloc_below w1 (.cells #[.int .i64 pf, .string tp] 43)
    have HP1 := Lib.hid (show PkB (w1.alloc (.cells #[.int .i64 pf, .string tp] 43)) w1.heap.size p9 from by unfold PkB; rw [HPA.out]; exact heap_alloc_new w1 _)
    have hb2 := hb1.trans (hal.mono hb1.size)
    have HB8 := Lib.hid (HB.out.trans (hb2.mono HB.out.size))
    have HP0 := Lib.hid (HP.out.kept hb2)
    have HN8 := Lib.hid (HO.out.below HB8.out)
    have HBL := Lib.hid (show b < w.heap.size ∧ g < w.heap.size from ⟨(HO.out.list.lt b (by rw [HV.out]; rfl)).2, HO.out.lt (.inl rfl)⟩)
    obtain ⟨B1, hB1⟩ : ∃ z, w1.heap.size = z := ⟨_, rfl⟩
    have HNE := Lib.hid (show B1 ≠ g ∧ B1 ≠ b ∧ B ≠ g ∧ B ≠ b from by
      have h1 := HBL.out
      have h2 := HSB.out
      have h3 := (HB.out.trans (hb1.mono HB.out.size)).size
      refine ⟨?_, ?_, ?_, ?_⟩ <;> omega)
    rw [hB1] at HP1 ⊢
    clear hal hb1 hb2 hB1
    generalize w1.alloc (.cells #[.int .i64 pf, .string tp] 43) = w8 at *
    have HC := Lib.hid (fun (W : World) (hW : TrN (fun k => k = b) w8 W) => show W.cell? ⟨g, 1, none⟩ = some (.slice (some ⟨b, 0, none⟩) n cap) from by
      have hh := hW.heap HN8.out.head (fun hk => HBG.out hk.symm)
      rw [cell_of_row W g 1 _ _ (0, 0) hh, ← HV.out]; rfl)
    have HCF := Lib.hid (fun (W : World) (hW : TrN (fun k => k = b) w8 W) => show W.frozen? ⟨g, 1, none⟩ = false from frozen_of_row W g 1 _ _ (hW.heap HN8.out.head (fun hk => HBG.out hk.symm)))
    have HSRC := Lib.hid (show (∀ j u, (lCells Pk.arr q.l)[j]? = some u → ∀ W, SameN w8 W → W.cell? ⟨b, j, none⟩ = some u) ∧ (∀ j, j < cap * 2 → ∀ W, SameN w8 W → (W.cell? ⟨b, j, none⟩).isSome = true) ∧ ∀ j W, SameN w8 W → W.frozen? ⟨b, j, none⟩ = false from by
      rcases HN8.out.list.2 with ⟨e, -⟩ | ⟨b', cap', cur, e, -, hg, hnc', -, hcs, htake⟩
      · rw [HV.out] at e; cases e
      · rw [HV.out] at e
        injection e with e1 e2 e3
        injection e1 with e1
        injection e1 with e1
        subst e1 e3
        refine ⟨fun j u hj W hW => ?_, fun j hj W hW => ?_, fun j W hW => frozen_of_row W b j _ _ (by rw [hW.heap]; exact hg)⟩
        · rw [cell_of_row W b j cur _ (0, 0) (by rw [hW.heap]; exact hg)]
          have hjl := (List.getElem?_eq_some_iff.1 hj).1
          rw [lCells_length (sz := 2) pk_size] at hjl
          rw [← htake, List.getElem?_take, if_pos (by omega)] at hj
          simpa using hj
        · rw [cell_of_row W b j cur _ (0, 0) (by rw [hW.heap]; exact hg), Array.getElem?_eq_getElem (by omega)]
          rfl)
    have HCP := Lib.hid (fun (W : World) (hW : SameN w8 W) (ty : TypeId) => show (Builtin.copy_ #[39, 39] ty #[.slice (some ⟨b, i * 2, none⟩) (n - i) (cap - i), .slice A (n - p) (cap - p)]).run Try.prog W = .ok (.int .i64 (d : Int)) (W.setCells b (i * 2) news) from by
      obtain ⟨A', rfl, hA2⟩ : ∃ A' : Addr, A = some A' ∧ ∀ j u, news[j]? = some u → W.cell? (A'.add j) = some u := by
        by_cases hc : cap = p
        · refine ⟨_, by rw [← hA, if_pos hc], fun j u hj => ?_⟩
          have h0 : news.length = 0 := by rw [hnl]; omega
          rw [List.length_eq_zero_iff.1 h0] at hj
          simp at hj
        · refine ⟨_, by rw [← hA, if_neg hc], fun j u hj => ?_⟩
          rw [addr_add]
          exact HSRC.out.1 _ u (by rw [← hnews, List.getElem?_drop] at hj; exact hj) W hW
      have hmin : Nat.min (n - p) (n - i) = n - p := Nat.min_eq_left (by omega)
      have hr := run_copy_sz (P := Try.prog) W 39 39 ty 43 b (i * 2) (n - i) (cap - i) A' (n - p) (cap - p) news 2 Try.underlying39 (by kernel_rfl) (by rw [hnl, hmin]) hA2 (fun j hj => HSRC.out.2.1 _ (by rw [hnl] at hj; omega) W hW) (fun j hj => HSRC.out.2.2 _ W hW) hone
      rw [hmin] at hr
      rw [show (Value.int .i64 (d : Int)) = goInt ((n - p : Nat) : Int) from by rw [HD.out]; rfl]
      exact hr)
    have HCL0 := Lib.hid (fun (W : World) (hW : SameN w8 W) (ty : TypeId) => show (Builtin.clear_ #[39] ty #[.slice (some ⟨b, m1 * 2, none⟩) (n - m1) (cap - m1)]).run Try.prog (W.setCells b (i * 2) news) = .ok (.tuple #[]) ((W.setCells b (i * 2) news).setCells b (m1 * 2) [Value.int .i64 0, Value.string ⟨#[]⟩]) from by
      obtain ⟨i0, hi0, hz0, hz1, hz2⟩ := info_parts infoPk
      rw [show n - m1 = 1 by omega]
      refine run_clear_sz (W.setCells b (i * 2) news) _ 43 ty (.agg #[.int .i64 0, .string ⟨#[]⟩]) [Value.int .i64 0, Value.string ⟨#[]⟩] Try.underlying39 (fun w => by simp [zeroValue, typeInfo, hi0, hz0]) rfl (by intro u hu; simp only [List.mem_cons, List.not_mem_nil, or_false] at hu; rcases hu with rfl | rfl <;> rfl) b _ _ (fun j hj => ?_) (fun j hj => ?_)
      · have hj2 : j < 2 := hj
        exact isSome_setCells b _ _ _ (fun j hj => HSRC.out.2.1 _ (by rw [hnl] at hj; omega) W hW) _ (HSRC.out.2.1 _ (by omega) W hW)
      · rw [World.frozen?_setCells]; exact HSRC.out.2.2 _ W hW)
    clear hnews hone hp hm hbg hd
    go_upto_region 4 with (fail)
    refine wp_region_inv [none, none, none, none, none, none, none, none, none, none, some 16, none, none, none, none, none, none, none, none, none, none, some 0, some 1, some 2, some 3, some 4, some 5, some 6, some 7, some 8, some 9, some 10, some 11, some 12, some 13, some 14, some 15, none, none, none, none, none, none, none, none, none, none, none, none, none, none, none, none, none, none, none, none, none, none] (fun i => [undef, undef, undef, undef, undef, undef, undef, undef, undef, undef, undef, undef, undef, undef, undef, undef, undef].getD i undef) (fun L xs W => InvQ [14] 17 (RvN [some (.int .i64 (i : Int)), some (.pointer (some ⟨g, 0, none⟩)), some (.pointer (some ⟨g, 0, none⟩)), some (.pointer (some ⟨g, 1, none⟩)), some (.slice (some ⟨b, 0, none⟩) n cap), some (.int .i64 (i : Int)), some (.slice (some ⟨b, i * 2, none⟩) (n - i) (cap - i)), some (.pointer (some ⟨g, 0, none⟩)), some (.pointer (some ⟨g, 0, none⟩)), some (.pointer (some ⟨g, 1, none⟩)), some (.slice (some ⟨b, 0, none⟩) n cap), some (.int .i64 (i : Int)), some (.int .i64 (p : Int)), some (.slice A (n - p) (cap - p)), some (.int .i64 (d : Int)), some (.int .i64 (m1 : Int)), some (.int .i64 (m1 : Int))]) (DropR w8 b (i * 2) news) L xs W ∧ ((L 14 = true → L 6 = true))) (by kernel_rfl) (by kernel_rfl) rfl rfl (fun L hL => ⟨InvQ.start hL (by decide) (by decide) (SameN.drawn _ _), (fun h => by rw [hL 14 (by decide)] at h; cases h)⟩) ?_ ?_
    · simp only [invOps, and_true]
      refine ⟨?_, ?_, ?_, ?_, ?_, ?_, ?_, ?_, ?_, ?_, ?_, ?_, ?_, ?_, ?_, ?_, ?_⟩
      · intro L xs W ⟨hI, hE⟩ hL hn
        have hE0 := hE
        simp only [flowAct, List.zipWith_cons_cons, List.zipWith_nil_left]
        go_wp2_with (fail)
        exact ⟨rfl, _, rfl, hI.pure 0 (by decide) (fun _ h => h) (fun x hx => by first | (injection hx with hx) | cases hx), hE0⟩
      · intro L xs W ⟨hI, hE⟩ hL hn
        have hE0 := hE
        simp only [flowAct, List.zipWith_cons_cons, List.zipWith_nil_left]
        go_wp2_with (fail)
        exact ⟨rfl, _, rfl, hI.pure 1 (by decide) (fun _ h => h) (fun x hx => by first | (injection hx with hx) | cases hx), hE0⟩
      · intro L xs W ⟨hI, hE⟩ hL hn
        simp [invNeeds, Region.binds] at hn
        have e1 : xs 1 = .pointer (some ⟨g, 0, none⟩) := hI.val 1 (by decide) (by simp only [hn]) _ rfl
        have hE0 := hE
        simp only [flowAct, List.zipWith_cons_cons, List.zipWith_nil_left]
        simp only [e1]
        go_wp2_with (fail)
        exact ⟨rfl, _, rfl, hI.pure 2 (by decide) (fun _ h => h) (fun x hx => by first | (injection hx with hx) | cases hx), hE0⟩
      · intro L xs W ⟨hI, hE⟩ hL hn
        simp [invNeeds, Region.binds] at hn
        have e2 : xs 2 = .pointer (some ⟨g, 0, none⟩) := hI.val 2 (by decide) (by simp only [hn]) _ rfl
        have hE0 := hE
        simp only [flowAct, List.zipWith_cons_cons, List.zipWith_nil_left]
        simp only [e2]
        go_wp2_with (fail)
        exact ⟨rfl, _, rfl, hI.pure 3 (by decide) (fun _ h => h) (fun x hx => by first | (injection hx with hx) | cases hx), hE0⟩
      · intro L xs W ⟨hI, hE⟩ hL hn
        simp [invNeeds, Region.binds] at hn
        have e3 : xs 3 = .pointer (some ⟨g, 1, none⟩) := hI.val 3 (by decide) (by simp only [hn]) _ rfl
        have hE0 := hE
        have z1 := HC.out W (hI.any |> fun ⟨k, _, h⟩ => h.any)
        simp only [flowAct, List.zipWith_cons_cons, List.zipWith_nil_left]
        simp only [e3]
        go_wp2_with (fail)
        exact ⟨rfl, _, rfl, hI.pure 4 (by decide) (fun _ h => h) (fun x hx => by first | (injection hx with hx) | cases hx), hE0⟩
      · intro L xs W ⟨hI, hE⟩ hL hn
        have hE0 := hE
        simp only [flowAct, List.zipWith_cons_cons, List.zipWith_nil_left]
        go_wp2_with (fail)
        exact ⟨rfl, _, rfl, hI.pure 5 (by decide) (fun _ h => h) (fun x hx => by first | (injection hx with hx) | cases hx), hE0⟩
      · intro L xs W ⟨hI, hE⟩ hL hn
        simp [invNeeds, Region.binds] at hn
        have e4 : xs 4 = .slice (some ⟨b, 0, none⟩) n cap := hI.val 4 (by decide) (by simp only [hn]) _ rfl
        have e5 : xs 5 = .int .i64 (i : Int) := hI.val 5 (by decide) (by simp only [hn]) _ rfl
        have hE0 := hE
        have Lb0 : L 14 = false := by
          cases h : L 14 with
          | false => rfl
          | true => have := hE0 h; rw [hL] at this; cases this
        simp only [flowAct, List.zipWith_cons_cons, List.zipWith_nil_left]
        simp only [e4, e5]
        go_wp2_with (fail)
        exact ⟨rfl, _, rfl, hI.pure 6 (by decide) (fun _ h => h) (fun x hx => by first | (injection hx with hx) | cases hx), (fun _ => by simp)⟩
      · intro L xs W ⟨hI, hE⟩ hL hn
        have hE0 := hE
        simp only [flowAct, List.zipWith_cons_cons, List.zipWith_nil_left]
        go_wp2_with (fail)
        exact ⟨rfl, _, rfl, hI.pure 7 (by decide) (fun _ h => h) (fun x hx => by first | (injection hx with hx) | cases hx), hE0⟩
      · intro L xs W ⟨hI, hE⟩ hL hn
        simp [invNeeds, Region.binds] at hn
        have e7 : xs 7 = .pointer (some ⟨g, 0, none⟩) := hI.val 7 (by decide) (by simp only [hn]) _ rfl
        have hE0 := hE
        simp only [flowAct, List.zipWith_cons_cons, List.zipWith_nil_left]
        simp only [e7]
        go_wp2_with (fail)
        exact ⟨rfl, _, rfl, hI.pure 8 (by decide) (fun _ h => h) (fun x hx => by first | (injection hx with hx) | cases hx), hE0⟩
      · intro L xs W ⟨hI, hE⟩ hL hn
        simp [invNeeds, Region.binds] at hn
        have e8 : xs 8 = .pointer (some ⟨g, 0, none⟩) := hI.val 8 (by decide) (by simp only [hn]) _ rfl
        have hE0 := hE
        simp only [flowAct, List.zipWith_cons_cons, List.zipWith_nil_left]
        simp only [e8]
        go_wp2_with (fail)
        exact ⟨rfl, _, rfl, hI.pure 9 (by decide) (fun _ h => h) (fun x hx => by first | (injection hx with hx) | cases hx), hE0⟩
      · intro L xs W ⟨hI, hE⟩ hL hn
        simp [invNeeds, Region.binds] at hn
        have e9 : xs 9 = .pointer (some ⟨g, 1, none⟩) := hI.val 9 (by decide) (by simp only [hn]) _ rfl
        have hE0 := hE
        have z1 := HC.out W (hI.any |> fun ⟨k, _, h⟩ => h.any)
        simp only [flowAct, List.zipWith_cons_cons, List.zipWith_nil_left]
        simp only [e9]
        go_wp2_with (fail)
        exact ⟨rfl, _, rfl, hI.pure 10 (by decide) (fun _ h => h) (fun x hx => by first | (injection hx with hx) | cases hx), hE0⟩
      · intro L xs W ⟨hI, hE⟩ hL hn
        have hE0 := hE
        simp only [flowAct, List.zipWith_cons_cons, List.zipWith_nil_left]
        go_wp2_with (fail)
        exact ⟨rfl, _, rfl, hI.pure 11 (by decide) (fun _ h => h) (fun x hx => by first | (injection hx with hx) | cases hx), hE0⟩
      · intro L xs W ⟨hI, hE⟩ hL hn
        simp [invNeeds, Region.binds] at hn
        have e11 : xs 11 = .int .i64 (i : Int) := hI.val 11 (by decide) (by simp only [hn]) _ rfl
        have hE0 := hE
        simp only [flowAct, List.zipWith_cons_cons, List.zipWith_nil_left]
        simp only [e11]
        go_wp2_with (fail)
        exact ⟨rfl, _, rfl, hI.pure 12 (by decide) (fun _ h => h) (fun x hx => by first | (injection hx with hx) | cases hx), hE0⟩
      · intro L xs W ⟨hI, hE⟩ hL hn
        simp [invNeeds, Region.binds] at hn
        have e10 : xs 10 = .slice (some ⟨b, 0, none⟩) n cap := hI.val 10 (by decide) (by simp only [hn]) _ rfl
        have e12 : xs 12 = .int .i64 (p : Int) := hI.val 12 (by decide) (by simp only [hn]) _ rfl
        have hE0 := hE
        simp only [flowAct, List.zipWith_cons_cons, List.zipWith_nil_left]
        simp only [e10, e12]
        go_wp2_with (fail)
        exact ⟨rfl, _, rfl, hI.pure 13 (by decide) (fun _ h => h) (fun x hx => by first | (injection hx with hx) | cases hx), hE0⟩
      · intro L xs W ⟨hI, hE⟩ hL hn
        simp [invNeeds, Region.binds] at hn
        have e6 : xs 6 = .slice (some ⟨b, i * 2, none⟩) (n - i) (cap - i) := hI.val 6 (by decide) (by simp only [hn]) _ rfl
        have e13 : xs 13 = .slice A (n - p) (cap - p) := hI.val 13 (by decide) (by simp only [hn]) _ rfl
        have hr := hI.at 0 rfl hL (fun p hp => absurd hp.1 (by omega))
        have hE0 := hE
        have Li0 : L 6 = true := by simp only [hn]
        have HR := Lib.hid hr
        clear hr
        simp only [flowAct, List.zipWith_cons_cons, List.zipWith_nil_left]
        simp only [e6, e13]
        go_wp2_with (refine wpList_copy_run _ rfl _ _ _ _ rfl _ _ rfl rfl (HCP.out W HR.out _) ?_)
        exact ⟨rfl, _, rfl, hI.step 0 rfl hL (fun p hp => absurd hp.1 (by omega)) (by decide) (⟨W, HR.out, rfl⟩) (fun x hx => by first | (injection hx with hx) | cases hx), (fun _ => by simpa using Li0)⟩
      · intro L xs W ⟨hI, hE⟩ hL hn
        simp [invNeeds, Region.binds] at hn
        have e0 : xs 0 = .int .i64 (i : Int) := hI.val 0 (by decide) (by simp only [hn]) _ rfl
        have e14 : xs 14 = .int .i64 (d : Int) := hI.val 14 (by decide) (by simp only [hn]) _ rfl
        have hE0 := hE
        simp only [flowAct, List.zipWith_cons_cons, List.zipWith_nil_left]
        simp only [e0, e14]
        go_wp2_with (fail)
        exact ⟨rfl, _, rfl, hI.pure 15 (by decide) (fun _ h => h) (fun x hx => by first | (injection hx with hx) | cases hx), hE0⟩
      · intro L xs W ⟨hI, hE⟩ hL hn
        simp [invNeeds, Region.binds] at hn
        have e15 : xs 15 = .int .i64 (m1 : Int) := hI.val 15 (by decide) (by simp only [hn]) _ rfl
        have hE0 := hE
        simp only [flowAct, List.zipWith_cons_cons, List.zipWith_nil_left]
        simp only [e15]
        go_wp2_with (fail)
        exact ⟨rfl, _, rfl, hI.pure 16 (by decide) (fun _ h => h) (fun x hx => by first | (injection hx with hx) | cases hx), hE0⟩
    · intro L xs W ⟨hI, hE⟩ hL
      have hdone := (hI.done hL (by decide) (by decide)).1
      obtain ⟨W3, hs3, rfl⟩ : ∃ W3, SameN w8 W3 ∧ W = W3.setCells b (i * 2) news := hdone
      have HS3 := Lib.hid hs3
      have x16 : xs 16 = .int .i64 (m1 : Int) := hI.val 16 (by decide) (hL 16 (by decide)) _ rfl
      have HT4 := Lib.hid ((TrN.of (F := fun k => k = b) hs3.below).cells rfl (i * 2) news)
      have HCL := Lib.hid (HCL0.out W3 hs3)
      have z1 := HC.out _ HT4.out
      obtain ⟨W4, hW4⟩ : ∃ z, W3.setCells b (i * 2) news = z := ⟨_, rfl⟩
      have HW4 := Lib.hid hW4
      rw [hW4] at z1 HT4 HCL ⊢
      have hcl := HCL.out
      clear hW4 hI hE hL hs3
      simp only [flowAct, List.zipWith_cons_cons, List.zipWith_nil_left]
      simp only [x16]
      clear x16
      go_upto_region 6 with (fail)
      have HT5 := Lib.hid (HT4.out.cells (g := b) rfl (m1 * 2) [Value.int .i64 0, Value.string ⟨#[]⟩])
      have hlist := HN8.out.list
      rw [HV.out] at hlist
      have hout := OwnL.out (i := i) (w := w8) (w1 := W4) (w2 := W4.setCells b (m1 * 2) [Value.int .i64 0, Value.string ⟨#[]⟩]) (by rw [HM.out]; exact hlist) (by rw [HM.out]; exact HPN.out.1) (by rw [← HW4.out, ← HNW.out]; exact setCells_heapN HS3.out.heap _ _) (by rw [HM.out, HPN.out.2])
      rw [HM.out, HPN.out.2] at hout
      have z1 := HC.out _ HT5.out
      have z2 := HCF.out _ HT5.out
      have hrl := HN8.out.relist (HT5.out.block g (HN8.out.lt (.inl rfl)) (fun h => HBG.out h.symm)) hout
      have HRL := Lib.hid hrl
      have HT5' := Lib.hid ((HT5.out.mono (F' := fun k => k = g ∨ k = b) (fun k hk => .inr hk)).set (p := ⟨g, 1, none⟩) (v := .slice (some ⟨b, 0, none⟩) m1 cap) (.inl (.inl rfl)))
      clear hlist hout hrl hcl
      generalize W4.setCells b (m1 * 2) [Value.int .i64 0, Value.string ⟨#[]⟩] = W5 at *
      go_upto_region 7 with (fail)
      clear z1 z2
      generalize W5.setCell ⟨g, 1, none⟩ (.slice (some ⟨b, 0, none⟩) m1 cap) = W6 at *
      go_upto_region 8 with (go_at_call 35; (with_reducible refine (naadd_c (t := q.c1) HRL.out.cs.2.2.2.1 (HRL.out.fz 3) HCB.out.1 HCB.out.2).mono ?_); rintro e6 w6 ⟨rfl, rfl⟩)
      have HW := Lib.hid (HRL.out.bump1 (q.c1 + 1))
      have HT6 := Lib.hid (HT5'.out.set (p := ⟨g, 3, none⟩) (v := .int .i64 (q.c1 + 1)) (.inl (.inl rfl)))
      generalize W6.setCell ⟨g, 3, none⟩ (.int .i64 (q.c1 + 1)) = W7 at *
      have HB1 := Lib.hid (show PkB W7 B1 p9 from HT6.out.heap HP1.out (fun h => h.elim HNE.out.1 HNE.out.2.1))
      have HB0 := Lib.hid (show PkB W7 B Pk.zero from HT6.out.heap HP0.out (fun h => h.elim HNE.out.2.2.1 HNE.out.2.2.2))
      have l0 := HB1.out.c0
      have l1 := HB1.out.c1
      rw [HTX.out.1] at l0
      rw [HTX.out.2] at l1
      have z0 := HB0.out.c0
      have z1 := HB0.out.c1
      have f0 := HB0.out.fz 0
      have f1 := HB0.out.fz 1
      simp only [Pk.zero] at z0 z1
      go_wp2
      refine bodyPost_ret (res_cell_tmp rfl _ _ B 43 _ (0, 0) _ _ rfl rfl (by have := HB0.out.set p9; simp only [HTX.out.1, HTX.out.2] at this; exact this) Try.underlying43 rfl (sizePk _)) rfl ⟨by rw [HPA.out]; rfl, _, ⟨_, (HW.out.keep (fun k hk => ?_)), rfl⟩, ?_, fun k hk => ?_⟩
      · rcases hk with rfl | hk
        · rw [heap_setCell_other _ _ _ _ (Ne.symm HNE.out.2.2.1), heap_setCell_other _ _ _ _ (Ne.symm HNE.out.2.2.1)]
        · have hkb : b = k := by injection hk
          subst hkb
          rw [heap_setCell_other _ _ _ _ (Ne.symm HNE.out.2.2.2), heap_setCell_other _ _ _ _ (Ne.symm HNE.out.2.2.2)]
      · refine (((TrN.of HB8.out).trans HT6.out (fun k hk => .inl ?_)).set (.inr (Nat.le_of_eq HSB.out))).set (.inr (Nat.le_of_eq HSB.out))
        rcases hk with rfl | rfl
        · exact .inl rfl
        · exact .inr (by rw [HV.out]; rfl)
      · rcases hk with rfl | hk
        · exact .inl (.inl rfl)
        · exact .inl (.inr (by rw [HV.out]; exact hk))
  · have he : q.look i9 = (Pk.zero, 211) := by unfold Nt.look; rw [if_neg hi]
    have he2 : q.took i9 = q := by unfold Nt.took; rw [if_neg hi]
    rw [he2]
    unfold LkPost at HLK
    rw [he] at HLK ⊢
    have hza : Pk.arr Pk.zero = #[.int .i64 0, .string ⟨#[]⟩] := rfl
    simp only [hza] at HLK ⊢
    clear h hi he he2 hza hml hm1
    go_enter Try.func32, Try.ntmps32
    go_upto_region 1 with (fail)
    try rw [hB]
    clear hB
    generalize w.alloc (.cells #[.int .i64 0, .string ⟨#[]⟩] 43) = W1 at *
    go_upto_region 2 with (go_at_call 20; (with_reducible refine HLK.out.mono ?_); rintro e1 w1 ⟨rfl, hb1⟩)
    have hb2 := hb1.trans ((alloc_below w1 (.cells #[.int .i64 0, .string ⟨#[]⟩] 43)).mono hb1.size)
    have HB8 := Lib.hid (HB.out.trans (hb2.mono HB.out.size))
    have HP0 := Lib.hid (HP.out.kept hb2)
    clear hb1 hb2
    generalize w1.alloc (.cells #[.int .i64 0, .string ⟨#[]⟩] 43) = w8 at *
    have z0 := HP0.out.c0
    have z1 := HP0.out.c1
    have f0 := HP0.out.fz 0
    have f1 := HP0.out.fz 1
    simp only [Pk.zero] at z0 z1
    go_wp2
    have HFB : Below w.heap.size w ((w8.setCell ⟨B, 0, none⟩ (.int .i64 0)).setCell ⟨B, 1, none⟩ (.string ⟨#[]⟩)) := (HB8.out.setCell (p := ⟨B, 0, none⟩) (Nat.le_of_eq HSB.out) _).setCell (p := ⟨B, 1, none⟩) (Nat.le_of_eq HSB.out) _
    exact bodyPost_ret (res_cell_tmp rfl _ _ B 43 _ (0, 0) _ _ rfl rfl (HP0.out.set Pk.zero) Try.underlying43 rfl (sizePk Pk.zero)) rfl ⟨by rfl, _, ⟨v, HO.out.below HFB, rfl⟩, TrN.of HFB, fun k hk => .inl hk⟩
set_option maxRecDepth 100000 in
set_option maxHeartbeats 6400000 in
theorem nrem2_c {w : World} {g nn : Nat} {q : Nt} {F : Nat → Prop} (hk : Nk w 56 g q F) (ho : q.Ok nn) (hnn : nn ≤ 100000) (i9 : Int) : Calls Try.prog 32 #[.pointer (some ⟨g, 0, none⟩), .int .i64 i9, .int .i64 2] w (NPost 56 g F (.tuple #[.agg (q.look i9).1.arr, .int .i64 (q.look i9).2]) (q.drop i9) w) := by
  have HB := Lib.hid (alloc_below w (.cells #[.int .i64 0, .string ⟨#[]⟩] 43))
  have HP := Lib.hid (show PkB (w.alloc (.cells #[.int .i64 0, .string ⟨#[]⟩] 43)) w.heap.size Pk.zero from heap_alloc_new w _)
  have HKB := Lib.hid (hk.below HB.out)
  have HLK := Lib.hid (nlook_c HKB.out ho.m0 i9)
  obtain ⟨v, h, rfl⟩ := hk
  have HO := Lib.hid h
  have HCB := Lib.hid (show 0 ≤ q.c2 ∧ q.c2 ≤ 4611686018427387904 from by have := ho.b2; omega)
  have hml := ho.len
  have hm1 := ho.m1
  obtain ⟨B, hB⟩ : ∃ z, w.heap.size = z := ⟨_, rfl⟩
  have HSB := Lib.hid hB
  rw [hB] at HP
  by_cases hi : q.has i9
  · have he : q.look i9 = (q.get i9, 0) := by unfold Nt.look; rw [if_pos hi]
    have he2 : q.drop i9 = { q with l := q.rest i9, c2 := q.c2 + 1 } := by unfold Nt.drop; rw [if_pos hi]
    rw [he2]
    unfold LkPost at HLK
    rw [he] at HLK ⊢
    obtain ⟨b, cap, hv, hle, hcm, hbg, hbt, -⟩ := HO.out.pk hi
    have hr9 : q.rest i9 = q.l.take i9.toNat ++ q.l.drop (i9.toNat + 1) := rfl
    rw [hr9]
    obtain ⟨i, rfl⟩ := Int.eq_ofNat_of_zero_le hi.1
    have hlt : i < q.l.length := by have := hi.2; omega
    rw [Int.toNat_natCast]
    obtain ⟨p9, hp9⟩ : ∃ z, q.get (i : Int) = z := ⟨_, rfl⟩
    rw [hp9] at HLK ⊢
    obtain ⟨pf, hpf⟩ : ∃ z, p9.frm = z := ⟨_, rfl⟩
    obtain ⟨tp, htp⟩ : ∃ z, text p9.s = z := ⟨_, rfl⟩
    have HPA := Lib.hid (show p9.arr = #[.int .i64 pf, .string tp] from by simp only [Pk.arr, hpf, htp])
    have HTX := Lib.hid (show (Value.int .i64 p9.frm = .int .i64 pf) ∧ (Value.string (text p9.s) = .string tp) from by rw [← hpf, ← htp]; exact ⟨rfl, rfl⟩)
    simp only [HPA.out] at HLK
    obtain ⟨n, hn⟩ : ∃ z, q.l.length = z := ⟨_, rfl⟩
    have HM := Lib.hid hn
    have HV := Lib.hid (show v = .slice (some ⟨b, 0, none⟩) n cap from by rw [hv, hn])
    obtain ⟨p, hp⟩ : ∃ z, i + 1 = z := ⟨_, rfl⟩
    obtain ⟨m1, hm⟩ : ∃ z, n - 1 = z := ⟨_, rfl⟩
    obtain ⟨d, hd⟩ : ∃ z, n - p = z := ⟨_, rfl⟩
    have HD := Lib.hid hd
    have hll := lCells_length (arr := Pk.arr) (sz := 2) pk_size q.l
    obtain ⟨news, hnews⟩ : ∃ z, (lCells Pk.arr q.l).drop (p * 2) = z := ⟨_, rfl⟩
    have hnl : news.length = (n - p) * 2 := by rw [← hnews, List.length_drop, hll]; omega
    have HNW := Lib.hid (show news = (lCells Pk.arr q.l).drop ((i + 1) * 2) from by rw [hp]; exact hnews.symm)
    have hin : i < n := by omega
    have hnc : n ≤ cap := by omega
    have hn64 : n ≤ 64 := by omega
    have HPN := Lib.hid (show i < n ∧ n - 1 = m1 from ⟨hin, hm⟩)
    have HBG := Lib.hid hbg
    have hone : ∀ u ∈ news, u.oneCell' = true := fun u hu => by rw [← hnews] at hu; exact pks_one _ u (List.mem_of_mem_drop hu)
    have hmn : i + (n - p) = m1 := by omega
    have hpn : p ≤ n := by omega
    have hpi : (i : Int) + 1 = (p : Int) := by omega
    have hwp : IntKind.i64.wrap ((i : Int) + 1) = (p : Int) := by rw [IntKind.wrap_i64]; omega
    have hwm : IntKind.i64.wrap ((i : Int) + (d : Int)) = (m1 : Int) := by rw [IntKind.wrap_i64]; omega
    obtain ⟨A, hA⟩ : ∃ A, (if cap = p then (some (⟨b, 0, none⟩ : Addr)) else some ⟨b, p * 2, none⟩) = A := ⟨_, rfl⟩
    have hic : (i : Int) ≤ (cap : Int) := by omega
    have hcap : ¬ cap = i := by omega
    have hcm1 : ¬ cap = m1 := by omega
    clear hv hi he he2 hr9 hp9 hpf htp hn hll hml hm1 h hlt hle hbt
    go_enter Try.func32, Try.ntmps32
    go_upto_region 1 with (fail)
    try rw [hB]
    clear hB
    generalize w.alloc (.cells #[.int .i64 0, .string ⟨#[]⟩] 43) = W1 at *
    go_upto_region 2 with (go_at_call 20; (with_reducible refine HLK.out.mono ?_); rintro e1 w1 ⟨rfl, hb1⟩)
    have hal := alloc_below w1 (.cells #[.int .i64 pf, .string tp] 43)
    have HP1 := Lib.hid (show PkB (w1.alloc (.cells #[.int .i64 pf, .string tp] 43)) w1.heap.size p9 from by unfold PkB; rw [HPA.out]; exact heap_alloc_new w1 _)
    have hb2 := hb1.trans (hal.mono hb1.size)
    have HB8 := Lib.hid (HB.out.trans (hb2.mono HB.out.size))
    have HP0 := Lib.hid (HP.out.kept hb2)
    have HN8 := Lib.hid (HO.out.below HB8.out)
    have HBL := Lib.hid (show b < w.heap.size ∧ g < w.heap.size from ⟨(HO.out.list.lt b (by rw [HV.out]; rfl)).2, HO.out.lt (.inl rfl)⟩)
    obtain ⟨B1, hB1⟩ : ∃ z, w1.heap.size = z := ⟨_, rfl⟩
    have HNE := Lib.hid (show B1 ≠ g ∧ B1 ≠ b ∧ B ≠ g ∧ B ≠ b from by
      have h1 := HBL.out
      have h2 := HSB.out
      have h3 := (HB.out.trans (hb1.mono HB.out.size)).size
      refine ⟨?_, ?_, ?_, ?_⟩ <;> omega)
    rw [hB1] at HP1 ⊢
    clear hal hb1 hb2 hB1
    generalize w1.alloc (.cells #[.int .i64 pf, .string tp] 43) = w8 at *
    have HC := Lib.hid (fun (W : World) (hW : TrN (fun k => k = b) w8 W) => show W.cell? ⟨g, 1, none⟩ = some (.slice (some ⟨b, 0, none⟩) n cap) from by
      have hh := hW.heap HN8.out.head (fun hk => HBG.out hk.symm)
      rw [cell_of_row W g 1 _ _ (0, 0) hh, ← HV.out]; rfl)
    have HCF := Lib.hid (fun (W : World) (hW : TrN (fun k => k = b) w8 W) => show W.frozen? ⟨g, 1, none⟩ = false from frozen_of_row W g 1 _ _ (hW.heap HN8.out.head (fun hk => HBG.out hk.symm)))
    have HSRC := Lib.hid (show (∀ j u, (lCells Pk.arr q.l)[j]? = some u → ∀ W, SameN w8 W → W.cell? ⟨b, j, none⟩ = some u) ∧ (∀ j, j < cap * 2 → ∀ W, SameN w8 W → (W.cell? ⟨b, j, none⟩).isSome = true) ∧ ∀ j W, SameN w8 W → W.frozen? ⟨b, j, none⟩ = false from by
      rcases HN8.out.list.2 with ⟨e, -⟩ | ⟨b', cap', cur, e, -, hg, hnc', -, hcs, htake⟩
      · rw [HV.out] at e; cases e
      · rw [HV.out] at e
        injection e with e1 e2 e3
        injection e1 with e1
        injection e1 with e1
        subst e1 e3
        refine ⟨fun j u hj W hW => ?_, fun j hj W hW => ?_, fun j W hW => frozen_of_row W b j _ _ (by rw [hW.heap]; exact hg)⟩
        · rw [cell_of_row W b j cur _ (0, 0) (by rw [hW.heap]; exact hg)]
          have hjl := (List.getElem?_eq_some_iff.1 hj).1
          rw [lCells_length (sz := 2) pk_size] at hjl
          rw [← htake, List.getElem?_take, if_pos (by omega)] at hj
          simpa using hj
        · rw [cell_of_row W b j cur _ (0, 0) (by rw [hW.heap]; exact hg), Array.getElem?_eq_getElem (by omega)]
          rfl)
    have HCP := Lib.hid (fun (W : World) (hW : SameN w8 W) (ty : TypeId) => show (Builtin.copy_ #[39, 39] ty #[.slice (some ⟨b, i * 2, none⟩) (n - i) (cap - i), .slice A (n - p) (cap - p)]).run Try.prog W = .ok (.int .i64 (d : Int)) (W.setCells b (i * 2) news) from by
      obtain ⟨A', rfl, hA2⟩ : ∃ A' : Addr, A = some A' ∧ ∀ j u, news[j]? = some u → W.cell? (A'.add j) = some u := by
        by_cases hc : cap = p
        · refine ⟨_, by rw [← hA, if_pos hc], fun j u hj => ?_⟩
          have h0 : news.length = 0 := by rw [hnl]; omega
          rw [List.length_eq_zero_iff.1 h0] at hj
          simp at hj
        · refine ⟨_, by rw [← hA, if_neg hc], fun j u hj => ?_⟩
          rw [addr_add]
          exact HSRC.out.1 _ u (by rw [← hnews, List.getElem?_drop] at hj; exact hj) W hW
      have hmin : Nat.min (n - p) (n - i) = n - p := Nat.min_eq_left (by omega)
      have hr := run_copy_sz (P := Try.prog) W 39 39 ty 43 b (i * 2) (n - i) (cap - i) A' (n - p) (cap - p) news 2 Try.underlying39 (by kernel_rfl) (by rw [hnl, hmin]) hA2 (fun j hj => HSRC.out.2.1 _ (by rw [hnl] at hj; omega) W hW) (fun j hj => HSRC.out.2.2 _ W hW) hone
      rw [hmin] at hr
      rw [show (Value.int .i64 (d : Int)) = goInt ((n - p : Nat) : Int) from by rw [HD.out]; rfl]
      exact hr)
    have HCL0 := Lib.hid (fun (W : World) (hW : SameN w8 W) (ty : TypeId) => show (Builtin.clear_ #[39] ty #[.slice (some ⟨b, m1 * 2, none⟩) (n - m1) (cap - m1)]).run Try.prog (W.setCells b (i * 2) news) = .ok (.tuple #[]) ((W.setCells b (i * 2) news).setCells b (m1 * 2) [Value.int .i64 0, Value.string ⟨#[]⟩]) from by
      obtain ⟨i0, hi0, hz0, hz1, hz2⟩ := info_parts infoPk
      rw [show n - m1 = 1 by omega]
      refine run_clear_sz (W.setCells b (i * 2) news) _ 43 ty (.agg #[.int .i64 0, .string ⟨#[]⟩]) [Value.int .i64 0, Value.string ⟨#[]⟩] Try.underlying39 (fun w => by simp [zeroValue, typeInfo, hi0, hz0]) rfl (by intro u hu; simp only [List.mem_cons, List.not_mem_nil, or_false] at hu; rcases hu with rfl | rfl <;> rfl) b _ _ (fun j hj => ?_) (fun j hj => ?_)
      · have hj2 : j < 2 := hj
        exact isSome_setCells b _ _ _ (fun j hj => HSRC.out.2.1 _ (by rw [hnl] at hj; omega) W hW) _ (HSRC.out.2.1 _ (by omega) W hW)
      · rw [World.frozen?_setCells]; exact HSRC.out.2.2 _ W hW)
    clear hnews hone hp hm hbg hd
    go_upto_region 4 with (fail)
    refine wp_region_inv [none, none, none, none, none, none, none, none, none, none, some 16, none, none, none, none, none, none, none, none, none, none, some 0, some 1, some 2, some 3, some 4, some 5, some 6, some 7, some 8, some 9, some 10, some 11, some 12, some 13, some 14, some 15, none, none, none, none, none, none, none, none, none, none, none, none, none, none, none, none, none, none, none, none, none, none] (fun i => [undef, undef, undef, undef, undef, undef, undef, undef, undef, undef, undef, undef, undef, undef, undef, undef, undef].getD i undef) (fun L xs W => InvQ [14] 17 (RvN [some (.int .i64 (i : Int)), some (.pointer (some ⟨g, 0, none⟩)), some (.pointer (some ⟨g, 0, none⟩)), some (.pointer (some ⟨g, 1, none⟩)), some (.slice (some ⟨b, 0, none⟩) n cap), some (.int .i64 (i : Int)), some (.slice (some ⟨b, i * 2, none⟩) (n - i) (cap - i)), some (.pointer (some ⟨g, 0, none⟩)), some (.pointer (some ⟨g, 0, none⟩)), some (.pointer (some ⟨g, 1, none⟩)), some (.slice (some ⟨b, 0, none⟩) n cap), some (.int .i64 (i : Int)), some (.int .i64 (p : Int)), some (.slice A (n - p) (cap - p)), some (.int .i64 (d : Int)), some (.int .i64 (m1 : Int)), some (.int .i64 (m1 : Int))]) (DropR w8 b (i * 2) news) L xs W ∧ ((L 14 = true → L 6 = true))) (by kernel_rfl) (by kernel_rfl) rfl rfl (fun L hL => ⟨InvQ.start hL (by decide) (by decide) (SameN.drawn _ _), (fun h => by rw [hL 14 (by decide)] at h; cases h)⟩) ?_ ?_
    · simp only [invOps, and_true]
      refine ⟨?_, ?_, ?_, ?_, ?_, ?_, ?_, ?_, ?_, ?_, ?_, ?_, ?_, ?_, ?_, ?_, ?_⟩
      · intro L xs W ⟨hI, hE⟩ hL hn
        have hE0 := hE
        simp only [flowAct, List.zipWith_cons_cons, List.zipWith_nil_left]
        go_wp2_with (fail)
        exact ⟨rfl, _, rfl, hI.pure 0 (by decide) (fun _ h => h) (fun x hx => by first | (injection hx with hx) | cases hx), hE0⟩
      · intro L xs W ⟨hI, hE⟩ hL hn
        have hE0 := hE
        simp only [flowAct, List.zipWith_cons_cons, List.zipWith_nil_left]
        go_wp2_with (fail)
        exact ⟨rfl, _, rfl, hI.pure 1 (by decide) (fun _ h => h) (fun x hx => by first | (injection hx with hx) | cases hx), hE0⟩
      · intro L xs W ⟨hI, hE⟩ hL hn
        simp [invNeeds, Region.binds] at hn
        have e1 : xs 1 = .pointer (some ⟨g, 0, none⟩) := hI.val 1 (by decide) (by simp only [hn]) _ rfl
        have hE0 := hE
        simp only [flowAct, List.zipWith_cons_cons, List.zipWith_nil_left]
        simp only [e1]
        go_wp2_with (fail)
        exact ⟨rfl, _, rfl, hI.pure 2 (by decide) (fun _ h => h) (fun x hx => by first | (injection hx with hx) | cases hx), hE0⟩
      · intro L xs W ⟨hI, hE⟩ hL hn
        simp [invNeeds, Region.binds] at hn
        have e2 : xs 2 = .pointer (some ⟨g, 0, none⟩) := hI.val 2 (by decide) (by simp only [hn]) _ rfl
        have hE0 := hE
        simp only [flowAct, List.zipWith_cons_cons, List.zipWith_nil_left]
        simp only [e2]
        go_wp2_with (fail)
        exact ⟨rfl, _, rfl, hI.pure 3 (by decide) (fun _ h => h) (fun x hx => by first | (injection hx with hx) | cases hx), hE0⟩
      · intro L xs W ⟨hI, hE⟩ hL hn
        simp [invNeeds, Region.binds] at hn
        have e3 : xs 3 = .pointer (some ⟨g, 1, none⟩) := hI.val 3 (by decide) (by simp only [hn]) _ rfl
        have hE0 := hE
        have z1 := HC.out W (hI.any |> fun ⟨k, _, h⟩ => h.any)
        simp only [flowAct, List.zipWith_cons_cons, List.zipWith_nil_left]
        simp only [e3]
        go_wp2_with (fail)
        exact ⟨rfl, _, rfl, hI.pure 4 (by decide) (fun _ h => h) (fun x hx => by first | (injection hx with hx) | cases hx), hE0⟩
      · intro L xs W ⟨hI, hE⟩ hL hn
        have hE0 := hE
        simp only [flowAct, List.zipWith_cons_cons, List.zipWith_nil_left]
        go_wp2_with (fail)
        exact ⟨rfl, _, rfl, hI.pure 5 (by decide) (fun _ h => h) (fun x hx => by first | (injection hx with hx) | cases hx), hE0⟩
      · intro L xs W ⟨hI, hE⟩ hL hn
        simp [invNeeds, Region.binds] at hn
        have e4 : xs 4 = .slice (some ⟨b, 0, none⟩) n cap := hI.val 4 (by decide) (by simp only [hn]) _ rfl
        have e5 : xs 5 = .int .i64 (i : Int) := hI.val 5 (by decide) (by simp only [hn]) _ rfl
        have hE0 := hE
        have Lb0 : L 14 = false := by
          cases h : L 14 with
          | false => rfl
          | true => have := hE0 h; rw [hL] at this; cases this
        simp only [flowAct, List.zipWith_cons_cons, List.zipWith_nil_left]
        simp only [e4, e5]
        go_wp2_with (fail)
        exact ⟨rfl, _, rfl, hI.pure 6 (by decide) (fun _ h => h) (fun x hx => by first | (injection hx with hx) | cases hx), (fun _ => by simp)⟩
      · intro L xs W ⟨hI, hE⟩ hL hn
        have hE0 := hE
        simp only [flowAct, List.zipWith_cons_cons, List.zipWith_nil_left]
        go_wp2_with (fail)
        exact ⟨rfl, _, rfl, hI.pure 7 (by decide) (fun _ h => h) (fun x hx => by first | (injection hx with hx) | cases hx), hE0⟩
      · intro L xs W ⟨hI, hE⟩ hL hn
        simp [invNeeds, Region.binds] at hn
        have e7 : xs 7 = .pointer (some ⟨g, 0, none⟩) := hI.val 7 (by decide) (by simp only [hn]) _ rfl
        have hE0 := hE
        simp only [flowAct, List.zipWith_cons_cons, List.zipWith_nil_left]
        simp only [e7]
        go_wp2_with (fail)
        exact ⟨rfl, _, rfl, hI.pure 8 (by decide) (fun _ h => h) (fun x hx => by first | (injection hx with hx) | cases hx), hE0⟩
      · intro L xs W ⟨hI, hE⟩ hL hn
        simp [invNeeds, Region.binds] at hn
        have e8 : xs 8 = .pointer (some ⟨g, 0, none⟩) := hI.val 8 (by decide) (by simp only [hn]) _ rfl
        have hE0 := hE
        simp only [flowAct, List.zipWith_cons_cons, List.zipWith_nil_left]
        simp only [e8]
        go_wp2_with (fail)
        exact ⟨rfl, _, rfl, hI.pure 9 (by decide) (fun _ h => h) (fun x hx => by first | (injection hx with hx) | cases hx), hE0⟩
      · intro L xs W ⟨hI, hE⟩ hL hn
        simp [invNeeds, Region.binds] at hn
        have e9 : xs 9 = .pointer (some ⟨g, 1, none⟩) := hI.val 9 (by decide) (by simp only [hn]) _ rfl
        have hE0 := hE
        have z1 := HC.out W (hI.any |> fun ⟨k, _, h⟩ => h.any)
        simp only [flowAct, List.zipWith_cons_cons, List.zipWith_nil_left]
        simp only [e9]
        go_wp2_with (fail)
        exact ⟨rfl, _, rfl, hI.pure 10 (by decide) (fun _ h => h) (fun x hx => by first | (injection hx with hx) | cases hx), hE0⟩
      · intro L xs W ⟨hI, hE⟩ hL hn
        have hE0 := hE
        simp only [flowAct, List.zipWith_cons_cons, List.zipWith_nil_left]
        go_wp2_with (fail)
        exact ⟨rfl, _, rfl, hI.pure 11 (by decide) (fun _ h => h) (fun x hx => by first | (injection hx with hx) | cases hx), hE0⟩
      · intro L xs W ⟨hI, hE⟩ hL hn
        simp [invNeeds, Region.binds] at hn
        have e11 : xs 11 = .int .i64 (i : Int) := hI.val 11 (by decide) (by simp only [hn]) _ rfl
        have hE0 := hE
        simp only [flowAct, List.zipWith_cons_cons, List.zipWith_nil_left]
        simp only [e11]
        go_wp2_with (fail)
        exact ⟨rfl, _, rfl, hI.pure 12 (by decide) (fun _ h => h) (fun x hx => by first | (injection hx with hx) | cases hx), hE0⟩
      · intro L xs W ⟨hI, hE⟩ hL hn
        simp [invNeeds, Region.binds] at hn
        have e10 : xs 10 = .slice (some ⟨b, 0, none⟩) n cap := hI.val 10 (by decide) (by simp only [hn]) _ rfl
        have e12 : xs 12 = .int .i64 (p : Int) := hI.val 12 (by decide) (by simp only [hn]) _ rfl
        have hE0 := hE
        simp only [flowAct, List.zipWith_cons_cons, List.zipWith_nil_left]
        simp only [e10, e12]
        go_wp2_with (fail)
        exact ⟨rfl, _, rfl, hI.pure 13 (by decide) (fun _ h => h) (fun x hx => by first | (injection hx with hx) | cases hx), hE0⟩
      · intro L xs W ⟨hI, hE⟩ hL hn
        simp [invNeeds, Region.binds] at hn
        have e6 : xs 6 = .slice (some ⟨b, i * 2, none⟩) (n - i) (cap - i) := hI.val 6 (by decide) (by simp only [hn]) _ rfl
        have e13 : xs 13 = .slice A (n - p) (cap - p) := hI.val 13 (by decide) (by simp only [hn]) _ rfl
        have hr := hI.at 0 rfl hL (fun p hp => absurd hp.1 (by omega))
        have hE0 := hE
        have Li0 : L 6 = true := by simp only [hn]
        have HR := Lib.hid hr
        clear hr
        simp only [flowAct, List.zipWith_cons_cons, List.zipWith_nil_left]
        simp only [e6, e13]
        go_wp2_with (refine wpList_copy_run _ rfl _ _ _ _ rfl _ _ rfl rfl (HCP.out W HR.out _) ?_)
        exact ⟨rfl, _, rfl, hI.step 0 rfl hL (fun p hp => absurd hp.1 (by omega)) (by decide) (⟨W, HR.out, rfl⟩) (fun x hx => by first | (injection hx with hx) | cases hx), (fun _ => by simpa using Li0)⟩
      · intro L xs W ⟨hI, hE⟩ hL hn
        simp [invNeeds, Region.binds] at hn
        have e0 : xs 0 = .int .i64 (i : Int) := hI.val 0 (by decide) (by simp only [hn]) _ rfl
        have e14 : xs 14 = .int .i64 (d : Int) := hI.val 14 (by decide) (by simp only [hn]) _ rfl
        have hE0 := hE
        simp only [flowAct, List.zipWith_cons_cons, List.zipWith_nil_left]
        simp only [e0, e14]
        go_wp2_with (fail)
        exact ⟨rfl, _, rfl, hI.pure 15 (by decide) (fun _ h => h) (fun x hx => by first | (injection hx with hx) | cases hx), hE0⟩
      · intro L xs W ⟨hI, hE⟩ hL hn
        simp [invNeeds, Region.binds] at hn
        have e15 : xs 15 = .int .i64 (m1 : Int) := hI.val 15 (by decide) (by simp only [hn]) _ rfl
        have hE0 := hE
        simp only [flowAct, List.zipWith_cons_cons, List.zipWith_nil_left]
        simp only [e15]
        go_wp2_with (fail)
        exact ⟨rfl, _, rfl, hI.pure 16 (by decide) (fun _ h => h) (fun x hx => by first | (injection hx with hx) | cases hx), hE0⟩
    · intro L xs W ⟨hI, hE⟩ hL
      have hdone := (hI.done hL (by decide) (by decide)).1
      obtain ⟨W3, hs3, rfl⟩ : ∃ W3, SameN w8 W3 ∧ W = W3.setCells b (i * 2) news := hdone
      have HS3 := Lib.hid hs3
      have x16 : xs 16 = .int .i64 (m1 : Int) := hI.val 16 (by decide) (hL 16 (by decide)) _ rfl
      have HT4 := Lib.hid ((TrN.of (F := fun k => k = b) hs3.below).cells rfl (i * 2) news)
      have HCL := Lib.hid (HCL0.out W3 hs3)
      have z1 := HC.out _ HT4.out
      obtain ⟨W4, hW4⟩ : ∃ z, W3.setCells b (i * 2) news = z := ⟨_, rfl⟩
      have HW4 := Lib.hid hW4
      rw [hW4] at z1 HT4 HCL ⊢
      have hcl := HCL.out
      clear hW4 hI hE hL hs3
      simp only [flowAct, List.zipWith_cons_cons, List.zipWith_nil_left]
      simp only [x16]
      clear x16
      go_upto_region 6 with (fail)
      have HT5 := Lib.hid (HT4.out.cells (g := b) rfl (m1 * 2) [Value.int .i64 0, Value.string ⟨#[]⟩])
      have hlist := HN8.out.list
      rw [HV.out] at hlist
      have hout := OwnL.out (i := i) (w := w8) (w1 := W4) (w2 := W4.setCells b (m1 * 2) [Value.int .i64 0, Value.string ⟨#[]⟩]) (by rw [HM.out]; exact hlist) (by rw [HM.out]; exact HPN.out.1) (by rw [← HW4.out, ← HNW.out]; exact setCells_heapN HS3.out.heap _ _) (by rw [HM.out, HPN.out.2])
      rw [HM.out, HPN.out.2] at hout
      have z1 := HC.out _ HT5.out
      have z2 := HCF.out _ HT5.out
      have hrl := HN8.out.relist (HT5.out.block g (HN8.out.lt (.inl rfl)) (fun h => HBG.out h.symm)) hout
      have HRL := Lib.hid hrl
      have HT5' := Lib.hid ((HT5.out.mono (F' := fun k => k = g ∨ k = b) (fun k hk => .inr hk)).set (p := ⟨g, 1, none⟩) (v := .slice (some ⟨b, 0, none⟩) m1 cap) (.inl (.inl rfl)))
      clear hlist hout hrl hcl
      generalize W4.setCells b (m1 * 2) [Value.int .i64 0, Value.string ⟨#[]⟩] = W5 at *
      go_upto_region 7 with (fail)
      clear z1 z2
      generalize W5.setCell ⟨g, 1, none⟩ (.slice (some ⟨b, 0, none⟩) m1 cap) = W6 at *
      go_upto_region 8 with (go_at_call 35; (with_reducible refine (naadd_c (t := q.c2) HRL.out.cs.2.2.2.2.1 (HRL.out.fz 4) HCB.out.1 HCB.out.2).mono ?_); rintro e6 w6 ⟨rfl, rfl⟩)
      have HW := Lib.hid (HRL.out.bump2 (q.c2 + 1))
      have HT6 := Lib.hid (HT5'.out.set (p := ⟨g, 4, none⟩) (v := .int .i64 (q.c2 + 1)) (.inl (.inl rfl)))
      generalize W6.setCell ⟨g, 4, none⟩ (.int .i64 (q.c2 + 1)) = W7 at *
      have HB1 := Lib.hid (show PkB W7 B1 p9 from HT6.out.heap HP1.out (fun h => h.elim HNE.out.1 HNE.out.2.1))
      have HB0 := Lib.hid (show PkB W7 B Pk.zero from HT6.out.heap HP0.out (fun h => h.elim HNE.out.2.2.1 HNE.out.2.2.2))
      have l0 := HB1.out.c0
      have l1 := HB1.out.c1
      rw [HTX.out.1] at l0
      rw [HTX.out.2] at l1
      have z0 := HB0.out.c0
      have z1 := HB0.out.c1
      have f0 := HB0.out.fz 0
      have f1 := HB0.out.fz 1
      simp only [Pk.zero] at z0 z1
      go_wp2
      refine bodyPost_ret (res_cell_tmp rfl _ _ B 43 _ (0, 0) _ _ rfl rfl (by have := HB0.out.set p9; simp only [HTX.out.1, HTX.out.2] at this; exact this) Try.underlying43 rfl (sizePk _)) rfl ⟨by rw [HPA.out]; rfl, _, ⟨_, (HW.out.keep (fun k hk => ?_)), rfl⟩, ?_, fun k hk => ?_⟩
      · rcases hk with rfl | hk
        · rw [heap_setCell_other _ _ _ _ (Ne.symm HNE.out.2.2.1), heap_setCell_other _ _ _ _ (Ne.symm HNE.out.2.2.1)]
        · have hkb : b = k := by injection hk
          subst hkb
          rw [heap_setCell_other _ _ _ _ (Ne.symm HNE.out.2.2.2), heap_setCell_other _ _ _ _ (Ne.symm HNE.out.2.2.2)]
      · refine (((TrN.of HB8.out).trans HT6.out (fun k hk => .inl ?_)).set (.inr (Nat.le_of_eq HSB.out))).set (.inr (Nat.le_of_eq HSB.out))
        rcases hk with rfl | rfl
        · exact .inl rfl
        · exact .inr (by rw [HV.out]; rfl)
      · rcases hk with rfl | hk
        · exact .inl (.inl rfl)
        · exact .inl (.inr (by rw [HV.out]; exact hk))
  · have he : q.look i9 = (Pk.zero, 211) := by unfold Nt.look; rw [if_neg hi]
    have he2 : q.drop i9 = q := by unfold Nt.drop; rw [if_neg hi]
    rw [he2]
    unfold LkPost at HLK
    rw [he] at HLK ⊢
    have hza : Pk.arr Pk.zero = #[.int .i64 0, .string ⟨#[]⟩] := rfl
    simp only [hza] at HLK ⊢
    clear h hi he he2 hza hml hm1
    go_enter Try.func32, Try.ntmps32
    go_upto_region 1 with (fail)
    try rw [hB]
    clear hB
    generalize w.alloc (.cells #[.int .i64 0, .string ⟨#[]⟩] 43) = W1 at *
    go_upto_region 2 with (go_at_call 20; (with_reducible refine HLK.out.mono ?_); rintro e1 w1 ⟨rfl, hb1⟩)
    have hb2 := hb1.trans ((alloc_below w1 (.cells #[.int .i64 0, .string ⟨#[]⟩] 43)).mono hb1.size)
    have HB8 := Lib.hid (HB.out.trans (hb2.mono HB.out.size))
    have HP0 := Lib.hid (HP.out.kept hb2)
    clear hb1 hb2
    generalize w1.alloc (.cells #[.int .i64 0, .string ⟨#[]⟩] 43) = w8 at *
    have z0 := HP0.out.c0
    have z1 := HP0.out.c1
    have f0 := HP0.out.fz 0
    have f1 := HP0.out.fz 1
    simp only [Pk.zero] at z0 z1
    go_wp2
    have HFB : Below w.heap.size w ((w8.setCell ⟨B, 0, none⟩ (.int .i64 0)).setCell ⟨B, 1, none⟩ (.string ⟨#[]⟩)) := (HB8.out.setCell (p := ⟨B, 0, none⟩) (Nat.le_of_eq HSB.out) _).setCell (p := ⟨B, 1, none⟩) (Nat.le_of_eq HSB.out) _
    exact bodyPost_ret (res_cell_tmp rfl _ _ B 43 _ (0, 0) _ _ rfl rfl (HP0.out.set Pk.zero) Try.underlying43 rfl (sizePk Pk.zero)) rfl ⟨by rfl, _, ⟨v, HO.out.below HFB, rfl⟩, TrN.of HFB, fun k hk => .inl hk⟩
end Go.Proofs.Ytngfohedddcboaa
