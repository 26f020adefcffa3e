/-
  Net: the program's add.
-/
import Derived.Test.YtngfohedddcboaaNT3
namespace Go.Proofs.Ytngfohedddcboaa
open Go.RowKit Go Go.Sort Go.Lib Go.Maps
set_option linter.unusedVariables false
set_option maxRecDepth 20000

set_option maxHeartbeats 1600000 in
theorem naadd_c {w : World} {g i : Nat} {t : Int} (hc : w.cell? ⟨g, i, none⟩ = some (.int .i64 t)) (hf : w.frozen? ⟨g, i, none⟩ = false) (h0 : 0 ≤ t) (h1 : t ≤ 4611686018427387904) :
    Calls Try.prog 35 #[.pointer (some ⟨g, i, none⟩), .int .i64 1] w (fun e w' => e = .returned (.int .i64 (t + 1)) ∧ w' = w.setCell ⟨g, i, none⟩ (.int .i64 (t + 1))) := by
  have hs : (Op.intArith .add .i64 t 1).run Try.prog w = .ok (.int .i64 (t + 1)) w := by
    have hw : IntKind.i64.wrap (t + 1) = t + 1 := by rw [IntKind.wrap_i64]; omega
    simp [go_sem, Op.intArith, hw]
  have hadd := run_call_add (P := Try.prog) Try.func36 (by kernel_rfl) (by kernel_rfl) (by kernel_rfl) .i64 (by kernel_rfl) hc hf hs
  go_enter Try.func35, Try.ntmps35
  go_wp2
  go_ret
  exact ⟨rfl, rfl⟩
theorem naload_c {w : World} {g i : Nat} {t : Int} (hc : w.cell? ⟨g, i, none⟩ = some (.int .i64 t)) :
    Calls Try.prog 30 #[.pointer (some ⟨g, i, none⟩)] w (fun e w' => e = .returned (.int .i64 t) ∧ w = w') := by
  have hl := run_call_load (P := Try.prog) Try.func34 (by kernel_rfl) (by kernel_rfl) (by kernel_rfl) .i64 (by kernel_rfl) hc
  go_enter Try.func30, Try.ntmps30
  go_wp2
  go_ret
  exact ⟨rfl, rfl⟩
/-- A list and one more, in a world behind w: the slice v' is told. -/
structure MoreN (w : World) (v : Value) (l' : List Pk) (W : World) (v' : Value) : Prop where
  own : OwnL 2 43 Pk.arr W 0 v' l'
  tr : TrN (fun k => v.ownBlock = some k) w W
  at9 : ∀ k, v'.ownBlock = some k → v.ownBlock = some k ∨ w.heap.size ≤ k
/-- The worlds while a packet is put behind a net's. -/
def AddR (w : World) (g : Nat) (v : Value) (l' : List Pk) (p : Pk) : Nat → World → Prop
  | 0, W => SameN w W
  | 1, W => ∃ W3, SameN w W3 ∧ W = W3.alloc (.cells p.arr 43)
  | 2, W => ∃ v', MoreN w v l' W v'
  | _, W => ∃ W3 v', MoreN w v l' W3 v' ∧ W = W3.setCell ⟨g, 1, none⟩ v'
/-- As long as the list is not stored: what of the old is not the list's stands. -/
theorem AddR.early {w W : World} {g : Nat} {v : Value} {l' : List Pk} {p : Pk} (h : ∃ k, k ≤ 2 ∧ AddR w g v l' p k W) : TrN (fun k => v.ownBlock = some k) w W := by
  obtain ⟨k, hk, hr⟩ := h
  rcases (by omega : k = 0 ∨ k = 1 ∨ k = 2) with rfl | rfl | rfl
  · exact TrN.of (SameN.below hr)
  · obtain ⟨W3, hs, rfl⟩ := hr
    exact TrN.of (hs.below.trans ((alloc_below W3 _).mono (by rw [hs.heap]; exact Nat.le_refl _)))
  · obtain ⟨v', hm⟩ := hr
    exact hm.tr
def Nt.add0 (q : Nt) (p : Pk) : Int × Nt := if q.most ≤ (q.l.length : Int) then (210, q) else (0, { q with l := q.l ++ [p], c0 := q.c0 + 1 })
set_option maxRecDepth 100000 in
set_option maxHeartbeats 6400000 in
theorem nadd0_c {w : World} {g n : Nat} {q : Nt} {F : Nat → Prop} (hk : Nk w 56 g q F) (ho : q.Ok n) (hn : n ≤ 100000) (p : Pk) : Calls Try.prog 31 #[.pointer (some ⟨g, 0, none⟩), .agg p.arr, .int .i64 0] w (NPost 56 g F (.int .i64 (q.add0 p).1) (q.add0 p).2 w) := by
  obtain ⟨v, h, rfl⟩ := hk
  have HO := Lib.hid h
  have HOK := Lib.hid ho
  have hm0 := ho.m0
  have hm1 := ho.m1
  have hml := ho.len
  have HCB := Lib.hid (show 0 ≤ q.c0 ∧ q.c0 ≤ 4611686018427387904 from by have := ho.b0; omega)
  obtain ⟨a, cap, hv, -⟩ := h.sl
  obtain ⟨pf, ps⟩ := p
  obtain ⟨tp, htp⟩ : ∃ z, text ps = z := ⟨_, rfl⟩
  have hpa : Pk.arr ⟨pf, ps⟩ = #[.int .i64 pf, .string tp] := by simp only [Pk.arr, htp]
  rw [hpa]
  obtain ⟨p, hp⟩ : ∃ z, (⟨pf, ps⟩ : Pk) = z := ⟨_, rfl⟩
  have HPA := Lib.hid (show p.arr = #[.int .i64 pf, .string tp] from hp ▸ hpa)
  have HTX := Lib.hid (show (Value.int .i64 p.frm = .int .i64 pf) ∧ (Value.string (text p.s) = .string tp) from by rw [← hp, ← htp]; exact ⟨rfl, rfl⟩)
  rw [hp]
  clear hpa hp htp
  have HB8 := Lib.hid (alloc_below w (.cells #[.int .i64 pf, .string tp] 43))
  have HN8 := Lib.hid (h.below HB8.out)
  have HGP := Lib.hid (show PkB (w.alloc (.cells #[.int .i64 pf, .string tp] 43)) w.heap.size p from by unfold PkB; rw [HPA.out]; exact heap_alloc_new w _)
  have y0 := HN8.out.cs.1
  have y1 := HN8.out.cs.2.1
  obtain ⟨gp, hgp⟩ : ∃ z, w.heap.size = z := ⟨_, rfl⟩
  have HGE := Lib.hid hgp
  rw [hgp] at HGP
  rw [hv] at y1
  obtain ⟨m, hm⟩ : ∃ z, q.l.length = z := ⟨_, rfl⟩
  have HLN := Lib.hid (show q.l.length ≤ 64 from by omega)
  rw [hm] at y1
  by_cases hfull : q.most ≤ (q.l.length : Int)
  · have e : q.add0 p = (210, q) := by unfold Nt.add0; rw [if_pos hfull]
    rw [e]
    have heq : ((m : Int) == q.most) = true := by simp; omega
    clear h ho hm0 hm1 hml e hfull hm hv
    go_enter Try.func31, Try.ntmps31
    go_upto_region 1 with (fail)
    try rw [hgp]
    clear hgp
    generalize w.alloc (.cells #[.int .i64 pf, .string tp] 43) = W1 at *
    go_quiet (fail)
    go_wp2
    go_ret
    have hs : SameN W1 (W1.drewN nq) := ⟨rfl, rfl, rfl, rfl⟩
    exact ⟨rfl, _, ⟨v, HO.out.below (HB8.out.trans (hs.below.mono HB8.out.size)), rfl⟩, TrN.of (HB8.out.trans (hs.below.mono HB8.out.size)), fun k hk => .inl hk⟩
  · have e : q.add0 p = (0, { q with l := q.l ++ [p], c0 := q.c0 + 1 }) := by unfold Nt.add0; rw [if_neg hfull]
    rw [e]
    have heq : ((m : Int) == q.most) = false := by simp; omega
    have HV := Lib.hid hv
    clear h ho hm0 hm1 hml e hfull hm hv
    go_enter Try.func31, Try.ntmps31
    go_upto_region 1 with (fail)
    try rw [hgp]
    clear hgp
    generalize w.alloc (.cells #[.int .i64 pf, .string tp] 43) = W1 at *
    go_quiet (fail)
    have hs : SameN W1 (W1.drewN nq) := ⟨rfl, rfl, rfl, rfl⟩
    have HN8 := Lib.hid (hs.nt HN8.out)
    have HGP := Lib.hid (HGP.out.kept hs.below)
    have HB8 := Lib.hid (HB8.out.trans (hs.below.mono HB8.out.size))
    clear y0 y1 heq hs
    generalize W1.drewN nq = w8 at *
    obtain ⟨B, hB⟩ : ∃ z, w8.heap.size = z := ⟨_, rfl⟩
    have HSB := Lib.hid hB
    have HC := Lib.hid (fun (W : World) (hW : TrN (fun k => v.ownBlock = some k) w8 W) => show W.cell? ⟨g, 1, none⟩ = some v ∧ W.frozen? ⟨g, 1, none⟩ = false from by
      have hh := hW.heap HN8.out.head (fun hk => HN8.out.off hk rfl)
      exact ⟨by rw [cell_of_row W g 1 _ _ (0, 0) hh]; rfl, frozen_of_row W g 1 _ _ hh⟩)
    have HPB := Lib.hid (fun (W : World) (hW : TrN (fun k => v.ownBlock = some k) w8 W) => show PkB W gp p from hW.heap HGP.out (fun hk => by have := (HO.out.list.lt gp hk).2; have := HGE.out; omega))
    clear hB
    go_upto_region 3 with (fail)
    refine wp_region_inv [none, none, none, none, none, none, none, none, none, none, none, none, none, none, none, none, none, some 0, some 1, some 2, some 3, some 4, some 5, some 6, some 7, some 8, some 9, none, none, none, none, none, none] (fun i => [undef, undef, undef, undef, undef, undef, undef, undef, undef, undef, undef].getD i undef) (fun L xs W => InvQ [6, 7, 10] 11 (RvN [some (.pointer (some ⟨g, 0, none⟩)), some (.pointer (some ⟨g, 0, none⟩)), some (.pointer (some ⟨g, 0, none⟩)), some (.pointer (some ⟨g, 1, none⟩)), some (v), some (.agg #[.int .i64 pf, .string tp]), some (.slice (some ⟨B, 0, none⟩) 1 1), none, some (.pointer (some ⟨g, 0, none⟩)), some (.pointer (some ⟨g, 1, none⟩)), none]) (AddR w8 g v (q.l ++ [p]) p) L xs W ∧ ((L 7 = true → L 10 = false → (MoreN w8 v (q.l ++ [p])) W (xs 7)) ∧ (L 7 = true → L 4 = true) ∧ (L 6 = true → L 5 = true))) (by kernel_rfl) (by kernel_rfl) rfl rfl (fun L hL => ⟨InvQ.start hL (by decide) (by decide) (SameN.drawn _ _), ⟨(fun h _ => by rw [hL 7 (by decide)] at h; cases h), (fun h => by rw [hL 7 (by decide)] at h; cases h), (fun h => by rw [hL 6 (by decide)] at h; cases h)⟩⟩) ?_ ?_
    · simp only [invOps, and_true]
      refine ⟨?_, ?_, ?_, ?_, ?_, ?_, ?_, ?_, ?_, ?_, ?_⟩
      · intro L xs W ⟨hI, hE⟩ hL hn
        obtain ⟨hE0, hE1, hE2⟩ := hE
        simp only [flowAct, List.zipWith_cons_cons, List.zipWith_nil_left]
        go_wp2_with (fail)
        exact ⟨rfl, _, rfl, hI.pure 0 (by decide) (fun _ h => h) (fun x hx => by first | (injection hx with hx) | cases hx), ⟨hE0, hE1, hE2⟩⟩
      · intro L xs W ⟨hI, hE⟩ hL hn
        obtain ⟨hE0, hE1, hE2⟩ := hE
        simp only [flowAct, List.zipWith_cons_cons, List.zipWith_nil_left]
        go_wp2_with (fail)
        exact ⟨rfl, _, rfl, hI.pure 1 (by decide) (fun _ h => h) (fun x hx => by first | (injection hx with hx) | cases hx), ⟨hE0, hE1, hE2⟩⟩
      · intro L xs W ⟨hI, hE⟩ hL hn
        simp [invNeeds, Region.binds] at hn
        have e1 : xs 1 = .pointer (some ⟨g, 0, none⟩) := hI.val 1 (by decide) (by simp only [hn]) _ rfl
        obtain ⟨hE0, hE1, hE2⟩ := hE
        simp only [flowAct, List.zipWith_cons_cons, List.zipWith_nil_left]
        simp only [e1]
        go_wp2_with (fail)
        exact ⟨rfl, _, rfl, hI.pure 2 (by decide) (fun _ h => h) (fun x hx => by first | (injection hx with hx) | cases hx), ⟨hE0, hE1, hE2⟩⟩
      · intro L xs W ⟨hI, hE⟩ hL hn
        simp [invNeeds, Region.binds] at hn
        have e2 : xs 2 = .pointer (some ⟨g, 0, none⟩) := hI.val 2 (by decide) (by simp only [hn]) _ rfl
        obtain ⟨hE0, hE1, hE2⟩ := hE
        simp only [flowAct, List.zipWith_cons_cons, List.zipWith_nil_left]
        simp only [e2]
        go_wp2_with (fail)
        exact ⟨rfl, _, rfl, hI.pure 3 (by decide) (fun _ h => h) (fun x hx => by first | (injection hx with hx) | cases hx), ⟨hE0, hE1, hE2⟩⟩
      · intro L xs W ⟨hI, hE⟩ hL hn
        simp [invNeeds, Region.binds] at hn
        have e3 : xs 3 = .pointer (some ⟨g, 1, none⟩) := hI.val 3 (by decide) (by simp only [hn]) _ rfl
        obtain ⟨hE0, hE1, hE2⟩ := hE
        have Lb1 : L 7 = false := by
          cases h : L 7 with
          | false => rfl
          | true => have := hE1 h; rw [hL] at this; cases this
        have L7 := Lb1
        have L10 := hI.laterN (j := 1) (j' := 2) rfl rfl (by decide) L7
        obtain ⟨k, hk1, hk2⟩ := hI.upto (j := 1) rfl L7
        have z1 := (HC.out W (AddR.early ⟨k, by omega, hk2⟩)).1
        clear hk2
        simp only [flowAct, List.zipWith_cons_cons, List.zipWith_nil_left]
        simp only [e3]
        go_wp2_with (fail)
        exact ⟨rfl, _, rfl, hI.pure 4 (by decide) (fun _ h => h) (fun x hx => by first | (injection hx with hx) | cases hx), ⟨hE0, (fun _ => by simp), hE2⟩⟩
      · intro L xs W ⟨hI, hE⟩ hL hn
        obtain ⟨hE0, hE1, hE2⟩ := hE
        have Lb2 : L 6 = false := by
          cases h : L 6 with
          | false => rfl
          | true => have := hE2 h; rw [hL] at this; cases this
        have L6 := Lb2
        obtain ⟨k, hk1, hk2⟩ := hI.upto (j := 0) rfl L6
        have z8 := HPB.out W (AddR.early ⟨k, by omega, hk2⟩)
        have z5 := z8.c0
        have z6 := z8.c1
        rw [HTX.out.1] at z5
        rw [HTX.out.2] at z6
        clear hk2 z8
        simp only [flowAct, List.zipWith_cons_cons, List.zipWith_nil_left]
        go_wp2_with (fail)
        exact ⟨rfl, _, rfl, hI.pure 5 (by decide) (fun _ h => h) (fun x hx => by first | (injection hx with hx) | cases hx), ⟨hE0, hE1, (fun _ => by simp)⟩⟩
      · intro L xs W ⟨hI, hE⟩ hL hn
        simp [invNeeds, Region.binds] at hn
        have e5 : xs 5 = .agg #[.int .i64 pf, .string tp] := hI.val 5 (by decide) (by simp only [hn]) _ rfl
        have hr := hI.at 0 rfl hL (fun p hp => absurd hp.1 (by omega))
        obtain ⟨hE0, hE1, hE2⟩ := hE
        have La0 := hI.laterN (j := 0) (j' := 1) rfl rfl (by decide) hL
        have Li2 : L 5 = true := by simp only [hn]
        have hsz : W.heap.size = B := by rw [SameN.heap hr, HSB.out]
        have HR := Lib.hid hr
        clear hr
        simp only [flowAct, List.zipWith_cons_cons, List.zipWith_nil_left]
        simp only [e5]
        go_wp2_with (fail)
        exact ⟨rfl, _, rfl, hI.step 0 rfl hL (fun p hp => absurd hp.1 (by omega)) (by decide) (⟨W, HR.out, by rw [HPA.out]⟩) (fun x hx => by first | (injection hx with hx) | cases hx), ⟨(fun h _ => by simp [La0] at h), hE1, (fun _ => by simpa using Li2)⟩⟩
      · intro L xs W ⟨hI, hE⟩ hL hn
        simp [invNeeds, Region.binds] at hn
        have e4 : xs 4 = v := hI.val 4 (by decide) (by simp only [hn]) _ rfl
        have e6 : xs 6 = .slice (some ⟨B, 0, none⟩) 1 1 := hI.val 6 (by decide) (by simp only [hn]) _ rfl
        have hr := hI.at 1 rfl hL (fun p hp => by obtain ⟨-, h⟩ := hp; injection h with h; subst h; simp only [hn])
        obtain ⟨hE0, hE1, hE2⟩ := hE
        have Li1 : L 4 = true := by simp only [hn]
        obtain ⟨W3, hs3, rfl⟩ := hr
        have hsz : W3.heap.size = B := by rw [hs3.heap, HSB.out]
        have HS3 := Lib.hid hs3
        have HOW := Lib.hid (show OwnL 2 43 Pk.arr (W3.alloc (.cells p.arr 43)) 0 v q.l from ((hs3.nt HN8.out).below (alloc_below W3 _)).list)
        have HPK := Lib.hid (show PkB (W3.alloc (.cells p.arr 43)) B p from by rw [← hsz]; exact heap_alloc_new W3 _)
        have HAL := Lib.hid (show TrN (fun k => v.ownBlock = some k) w8 (W3.alloc (.cells p.arr 43)) ∧ (W3.alloc (.cells p.arr 43)).heap.size = B + 1 from ⟨TrN.of (hs3.below.trans ((alloc_below W3 _).mono (by rw [hs3.heap]; exact Nat.le_refl _))), by simp [hsz]⟩)
        clear hs3 hsz
        generalize W3.alloc (.cells p.arr 43) = W4 at *
        simp only [flowAct, List.zipWith_cons_cons, List.zipWith_nil_left]
        simp only [e4, e6]
        go_wp2_with (refine wpList_append_pk rfl _ _ rfl (base := 0) (u := v) (l := q.l) rfl HOW.out p (b := B) rfl HPK.out (by have := HLN.out; omega) (Nat.zero_le _) ?_; intro v9 w9 ho9 hg9 ha9)
        have hm9 : MoreN w8 v (q.l ++ [p]) w9 v9 := ⟨ho9, HAL.out.1.then (TrN.grown hg9 (fun k hk => hk)), fun k hk => by
          rcases ha9 with h | h
          · exact .inl (by rw [← h]; exact hk)
          · rw [h, HAL.out.2] at hk
            injection hk with hk
            exact .inr (by have := HSB.out; omega)⟩
        exact ⟨rfl, _, rfl, hI.step 1 rfl hL (fun p hp => by obtain ⟨-, h⟩ := hp; injection h with h; subst h; simp only [hn]) (by decide) (⟨v9, hm9⟩) (fun x hx => by first | (injection hx with hx) | cases hx), ⟨(fun _ _ => hm9), (fun _ => by simpa using Li1), hE2⟩⟩
      · intro L xs W ⟨hI, hE⟩ hL hn
        simp [invNeeds, Region.binds] at hn
        have e0 : xs 0 = .pointer (some ⟨g, 0, none⟩) := hI.val 0 (by decide) (by simp only [hn]) _ rfl
        obtain ⟨hE0, hE1, hE2⟩ := hE
        simp only [flowAct, List.zipWith_cons_cons, List.zipWith_nil_left]
        simp only [e0]
        go_wp2_with (fail)
        exact ⟨rfl, _, rfl, hI.pure 8 (by decide) (fun _ h => h) (fun x hx => by first | (injection hx with hx) | cases hx), ⟨hE0, hE1, hE2⟩⟩
      · intro L xs W ⟨hI, hE⟩ hL hn
        simp [invNeeds, Region.binds] at hn
        have e8 : xs 8 = .pointer (some ⟨g, 0, none⟩) := hI.val 8 (by decide) (by simp only [hn]) _ rfl
        obtain ⟨hE0, hE1, hE2⟩ := hE
        simp only [flowAct, List.zipWith_cons_cons, List.zipWith_nil_left]
        simp only [e8]
        go_wp2_with (fail)
        exact ⟨rfl, _, rfl, hI.pure 9 (by decide) (fun _ h => h) (fun x hx => by first | (injection hx with hx) | cases hx), ⟨hE0, hE1, hE2⟩⟩
      · intro L xs W ⟨hI, hE⟩ hL hn
        simp [invNeeds, Region.binds] at hn
        have e9 : xs 9 = .pointer (some ⟨g, 1, none⟩) := hI.val 9 (by decide) (by simp only [hn]) _ rfl
        have hr := hI.at 2 rfl hL (fun p hp => by obtain ⟨-, h⟩ := hp; injection h with h; subst h; simp only [hn])
        obtain ⟨hE0, hE1, hE2⟩ := hE
        have L7 : L 7 = true := by simp only [hn]
        have hm7 := hE0 L7 hL
        obtain ⟨va, vc, e7, -⟩ := OwnL.ls (z := Pk.zero) pk_size hm7.own
        obtain ⟨z1, z2⟩ := HC.out W hm7.tr
        obtain ⟨vm, hvm⟩ : ∃ z, (q.l ++ [p]).length = z := ⟨_, rfl⟩
        rw [hvm] at e7
        rw [e7] at hm7
        have HM7 := Lib.hid hm7
        clear hr hm7 hvm
        simp only [flowAct, List.zipWith_cons_cons, List.zipWith_nil_left]
        simp only [e9, e7]
        go_wp2_with (fail)
        exact ⟨rfl, undef, rfl, hI.step 2 rfl hL (fun p hp => by obtain ⟨-, h⟩ := hp; injection h with h; subst h; simp only [hn]) (by decide) (⟨W, _, HM7.out, rfl⟩) (fun x hx => by first | (injection hx with hx) | cases hx), ⟨(fun _ h => by simp at h), hE1, hE2⟩⟩
    · intro L xs W ⟨hI, hE⟩ hL
      have hdone := (hI.done hL (by decide) (by decide)).1
      obtain ⟨W3, v9, hm9, rfl⟩ : ∃ W3 v', MoreN w8 v (q.l ++ [p]) W3 v' ∧ W = W3.setCell ⟨g, 1, none⟩ v' := hdone
      have HM9 := Lib.hid hm9
      have hnew := HN8.out.relist (HM9.out.tr.block g (HN8.out.lt (.inl rfl)) (fun hk => HN8.out.off hk rfl)) hm9.own
      have htr : TrN (nfoot g v) w8 (W3.setCell ⟨g, 1, none⟩ v9) := (hm9.tr.mono (fun k hk => .inr hk)).set (.inl (.inl rfl))
      have HW := Lib.hid hnew
      have HTR := Lib.hid htr
      clear hnew htr hm9 hI hE hL
      simp only [flowAct, List.zipWith_cons_cons, List.zipWith_nil_left]
      generalize W3.setCell ⟨g, 1, none⟩ v9 = W5 at *
      go_wp2_with (go_at_call 35; (with_reducible refine (naadd_c (t := q.c0) HW.out.cs.2.2.1 (HW.out.fz 2) HCB.out.1 HCB.out.2).mono ?_); rintro e6 w6 ⟨rfl, rfl⟩)
      go_ret
      refine ⟨rfl, _, ⟨v9, HW.out.bump0 (q.c0 + 1), rfl⟩, ?_, fun k hk => ?_⟩
      · exact ((TrN.of HB8.out).trans HTR.out (fun k hk => hk.imp id id |> .inl)).set (.inl (.inl rfl))
      · rcases hk with hk | hk
        · exact .inl (.inl hk)
        · rcases HM9.out.at9 k hk with h | h
          · exact .inl (.inr h)
          · exact .inr (Nat.le_trans HB8.out.size h)
def Nt.add3 (q : Nt) (p : Pk) : Int × Nt := if q.most ≤ (q.l.length : Int) then (210, q) else (0, { q with l := q.l ++ [p], c3 := q.c3 + 1 })
set_option maxRecDepth 100000 in
set_option maxHeartbeats 6400000 in
theorem nadd3_c {w : World} {g n : Nat} {q : Nt} {F : Nat → Prop} (hk : Nk w 56 g q F) (ho : q.Ok n) (hn : n ≤ 100000) (p : Pk) : Calls Try.prog 31 #[.pointer (some ⟨g, 0, none⟩), .agg p.arr, .int .i64 3] w (NPost 56 g F (.int .i64 (q.add3 p).1) (q.add3 p).2 w) := by
  obtain ⟨v, h, rfl⟩ := hk
  have HO := Lib.hid h
  have HOK := Lib.hid ho
  have hm0 := ho.m0
  have hm1 := ho.m1
  have hml := ho.len
  have HCB := Lib.hid (show 0 ≤ q.c3 ∧ q.c3 ≤ 4611686018427387904 from by have := ho.b3; omega)
  obtain ⟨a, cap, hv, -⟩ := h.sl
  obtain ⟨pf, ps⟩ := p
  obtain ⟨tp, htp⟩ : ∃ z, text ps = z := ⟨_, rfl⟩
  have hpa : Pk.arr ⟨pf, ps⟩ = #[.int .i64 pf, .string tp] := by simp only [Pk.arr, htp]
  rw [hpa]
  obtain ⟨p, hp⟩ : ∃ z, (⟨pf, ps⟩ : Pk) = z := ⟨_, rfl⟩
  have HPA := Lib.hid (show p.arr = #[.int .i64 pf, .string tp] from hp ▸ hpa)
  have HTX := Lib.hid (show (Value.int .i64 p.frm = .int .i64 pf) ∧ (Value.string (text p.s) = .string tp) from by rw [← hp, ← htp]; exact ⟨rfl, rfl⟩)
  rw [hp]
  clear hpa hp htp
  have HB8 := Lib.hid (alloc_below w (.cells #[.int .i64 pf, .string tp] 43))
  have HN8 := Lib.hid (h.below HB8.out)
  have HGP := Lib.hid (show PkB (w.alloc (.cells #[.int .i64 pf, .string tp] 43)) w.heap.size p from by unfold PkB; rw [HPA.out]; exact heap_alloc_new w _)
  have y0 := HN8.out.cs.1
  have y1 := HN8.out.cs.2.1
  obtain ⟨gp, hgp⟩ : ∃ z, w.heap.size = z := ⟨_, rfl⟩
  have HGE := Lib.hid hgp
  rw [hgp] at HGP
  rw [hv] at y1
  obtain ⟨m, hm⟩ : ∃ z, q.l.length = z := ⟨_, rfl⟩
  have HLN := Lib.hid (show q.l.length ≤ 64 from by omega)
  rw [hm] at y1
  by_cases hfull : q.most ≤ (q.l.length : Int)
  · have e : q.add3 p = (210, q) := by unfold Nt.add3; rw [if_pos hfull]
    rw [e]
    have heq : ((m : Int) == q.most) = true := by simp; omega
    clear h ho hm0 hm1 hml e hfull hm hv
    go_enter Try.func31, Try.ntmps31
    go_upto_region 1 with (fail)
    try rw [hgp]
    clear hgp
    generalize w.alloc (.cells #[.int .i64 pf, .string tp] 43) = W1 at *
    go_quiet (fail)
    go_wp2
    go_ret
    have hs : SameN W1 (W1.drewN nq) := ⟨rfl, rfl, rfl, rfl⟩
    exact ⟨rfl, _, ⟨v, HO.out.below (HB8.out.trans (hs.below.mono HB8.out.size)), rfl⟩, TrN.of (HB8.out.trans (hs.below.mono HB8.out.size)), fun k hk => .inl hk⟩
  · have e : q.add3 p = (0, { q with l := q.l ++ [p], c3 := q.c3 + 1 }) := by unfold Nt.add3; rw [if_neg hfull]
    rw [e]
    have heq : ((m : Int) == q.most) = false := by simp; omega
    have HV := Lib.hid hv
    clear h ho hm0 hm1 hml e hfull hm hv
    go_enter Try.func31, Try.ntmps31
    go_upto_region 1 with (fail)
    try rw [hgp]
    clear hgp
    generalize w.alloc (.cells #[.int .i64 pf, .string tp] 43) = W1 at *
    go_quiet (fail)
    have hs : SameN W1 (W1.drewN nq) := ⟨rfl, rfl, rfl, rfl⟩
    have HN8 := Lib.hid (hs.nt HN8.out)
    have HGP := Lib.hid (HGP.out.kept hs.below)
    have HB8 := Lib.hid (HB8.out.trans (hs.below.mono HB8.out.size))
    clear y0 y1 heq hs
    generalize W1.drewN nq = w8 at *
    obtain ⟨B, hB⟩ : ∃ z, w8.heap.size = z := ⟨_, rfl⟩
    have HSB := Lib.hid hB
    have HC := Lib.hid (fun (W : World) (hW : TrN (fun k => v.ownBlock = some k) w8 W) => show W.cell? ⟨g, 1, none⟩ = some v ∧ W.frozen? ⟨g, 1, none⟩ = false from by
      have hh := hW.heap HN8.out.head (fun hk => HN8.out.off hk rfl)
      exact ⟨by rw [cell_of_row W g 1 _ _ (0, 0) hh]; rfl, frozen_of_row W g 1 _ _ hh⟩)
    have HPB := Lib.hid (fun (W : World) (hW : TrN (fun k => v.ownBlock = some k) w8 W) => show PkB W gp p from hW.heap HGP.out (fun hk => by have := (HO.out.list.lt gp hk).2; have := HGE.out; omega))
    clear hB
    go_upto_region 3 with (fail)
    refine wp_region_inv [none, none, none, none, none, none, none, none, none, none, none, none, none, none, none, none, none, some 0, some 1, some 2, some 3, some 4, some 5, some 6, some 7, some 8, some 9, none, none, none, none, none, none] (fun i => [undef, undef, undef, undef, undef, undef, undef, undef, undef, undef, undef].getD i undef) (fun L xs W => InvQ [6, 7, 10] 11 (RvN [some (.pointer (some ⟨g, 0, none⟩)), some (.pointer (some ⟨g, 0, none⟩)), some (.pointer (some ⟨g, 0, none⟩)), some (.pointer (some ⟨g, 1, none⟩)), some (v), some (.agg #[.int .i64 pf, .string tp]), some (.slice (some ⟨B, 0, none⟩) 1 1), none, some (.pointer (some ⟨g, 0, none⟩)), some (.pointer (some ⟨g, 1, none⟩)), none]) (AddR w8 g v (q.l ++ [p]) p) L xs W ∧ ((L 7 = true → L 10 = false → (MoreN w8 v (q.l ++ [p])) W (xs 7)) ∧ (L 7 = true → L 4 = true) ∧ (L 6 = true → L 5 = true))) (by kernel_rfl) (by kernel_rfl) rfl rfl (fun L hL => ⟨InvQ.start hL (by decide) (by decide) (SameN.drawn _ _), ⟨(fun h _ => by rw [hL 7 (by decide)] at h; cases h), (fun h => by rw [hL 7 (by decide)] at h; cases h), (fun h => by rw [hL 6 (by decide)] at h; cases h)⟩⟩) ?_ ?_
    · simp only [invOps, and_true]
      refine ⟨?_, ?_, ?_, ?_, ?_, ?_, ?_, ?_, ?_, ?_, ?_⟩
      · intro L xs W ⟨hI, hE⟩ hL hn
        obtain ⟨hE0, hE1, hE2⟩ := hE
        simp only [flowAct, List.zipWith_cons_cons, List.zipWith_nil_left]
        go_wp2_with (fail)
        exact ⟨rfl, _, rfl, hI.pure 0 (by decide) (fun _ h => h) (fun x hx => by first | (injection hx with hx) | cases hx), ⟨hE0, hE1, hE2⟩⟩
      · intro L xs W ⟨hI, hE⟩ hL hn
        obtain ⟨hE0, hE1, hE2⟩ := hE
        simp only [flowAct, List.zipWith_cons_cons, List.zipWith_nil_left]
        go_wp2_with (fail)
        exact ⟨rfl, _, rfl, hI.pure 1 (by decide) (fun _ h => h) (fun x hx => by first | (injection hx with hx) | cases hx), ⟨hE0, hE1, hE2⟩⟩
      · intro L xs W ⟨hI, hE⟩ hL hn
        simp [invNeeds, Region.binds] at hn
        have e1 : xs 1 = .pointer (some ⟨g, 0, none⟩) := hI.val 1 (by decide) (by simp only [hn]) _ rfl
        obtain ⟨hE0, hE1, hE2⟩ := hE
        simp only [flowAct, List.zipWith_cons_cons, List.zipWith_nil_left]
        simp only [e1]
        go_wp2_with (fail)
        exact ⟨rfl, _, rfl, hI.pure 2 (by decide) (fun _ h => h) (fun x hx => by first | (injection hx with hx) | cases hx), ⟨hE0, hE1, hE2⟩⟩
      · intro L xs W ⟨hI, hE⟩ hL hn
        simp [invNeeds, Region.binds] at hn
        have e2 : xs 2 = .pointer (some ⟨g, 0, none⟩) := hI.val 2 (by decide) (by simp only [hn]) _ rfl
        obtain ⟨hE0, hE1, hE2⟩ := hE
        simp only [flowAct, List.zipWith_cons_cons, List.zipWith_nil_left]
        simp only [e2]
        go_wp2_with (fail)
        exact ⟨rfl, _, rfl, hI.pure 3 (by decide) (fun _ h => h) (fun x hx => by first | (injection hx with hx) | cases hx), ⟨hE0, hE1, hE2⟩⟩
      · intro L xs W ⟨hI, hE⟩ hL hn
        simp [invNeeds, Region.binds] at hn
        have e3 : xs 3 = .pointer (some ⟨g, 1, none⟩) := hI.val 3 (by decide) (by simp only [hn]) _ rfl
        obtain ⟨hE0, hE1, hE2⟩ := hE
        have Lb1 : L 7 = false := by
          cases h : L 7 with
          | false => rfl
          | true => have := hE1 h; rw [hL] at this; cases this
        have L7 := Lb1
        have L10 := hI.laterN (j := 1) (j' := 2) rfl rfl (by decide) L7
        obtain ⟨k, hk1, hk2⟩ := hI.upto (j := 1) rfl L7
        have z1 := (HC.out W (AddR.early ⟨k, by omega, hk2⟩)).1
        clear hk2
        simp only [flowAct, List.zipWith_cons_cons, List.zipWith_nil_left]
        simp only [e3]
        go_wp2_with (fail)
        exact ⟨rfl, _, rfl, hI.pure 4 (by decide) (fun _ h => h) (fun x hx => by first | (injection hx with hx) | cases hx), ⟨hE0, (fun _ => by simp), hE2⟩⟩
      · intro L xs W ⟨hI, hE⟩ hL hn
        obtain ⟨hE0, hE1, hE2⟩ := hE
        have Lb2 : L 6 = false := by
          cases h : L 6 with
          | false => rfl
          | true => have := hE2 h; rw [hL] at this; cases this
        have L6 := Lb2
        obtain ⟨k, hk1, hk2⟩ := hI.upto (j := 0) rfl L6
        have z8 := HPB.out W (AddR.early ⟨k, by omega, hk2⟩)
        have z5 := z8.c0
        have z6 := z8.c1
        rw [HTX.out.1] at z5
        rw [HTX.out.2] at z6
        clear hk2 z8
        simp only [flowAct, List.zipWith_cons_cons, List.zipWith_nil_left]
        go_wp2_with (fail)
        exact ⟨rfl, _, rfl, hI.pure 5 (by decide) (fun _ h => h) (fun x hx => by first | (injection hx with hx) | cases hx), ⟨hE0, hE1, (fun _ => by simp)⟩⟩
      · intro L xs W ⟨hI, hE⟩ hL hn
        simp [invNeeds, Region.binds] at hn
        have e5 : xs 5 = .agg #[.int .i64 pf, .string tp] := hI.val 5 (by decide) (by simp only [hn]) _ rfl
        have hr := hI.at 0 rfl hL (fun p hp => absurd hp.1 (by omega))
        obtain ⟨hE0, hE1, hE2⟩ := hE
        have La0 := hI.laterN (j := 0) (j' := 1) rfl rfl (by decide) hL
        have Li2 : L 5 = true := by simp only [hn]
        have hsz : W.heap.size = B := by rw [SameN.heap hr, HSB.out]
        have HR := Lib.hid hr
        clear hr
        simp only [flowAct, List.zipWith_cons_cons, List.zipWith_nil_left]
        simp only [e5]
        go_wp2_with (fail)
        exact ⟨rfl, _, rfl, hI.step 0 rfl hL (fun p hp => absurd hp.1 (by omega)) (by decide) (⟨W, HR.out, by rw [HPA.out]⟩) (fun x hx => by first | (injection hx with hx) | cases hx), ⟨(fun h _ => by simp [La0] at h), hE1, (fun _ => by simpa using Li2)⟩⟩
      · intro L xs W ⟨hI, hE⟩ hL hn
        simp [invNeeds, Region.binds] at hn
        have e4 : xs 4 = v := hI.val 4 (by decide) (by simp only [hn]) _ rfl
        have e6 : xs 6 = .slice (some ⟨B, 0, none⟩) 1 1 := hI.val 6 (by decide) (by simp only [hn]) _ rfl
        have hr := hI.at 1 rfl hL (fun p hp => by obtain ⟨-, h⟩ := hp; injection h with h; subst h; simp only [hn])
        obtain ⟨hE0, hE1, hE2⟩ := hE
        have Li1 : L 4 = true := by simp only [hn]
        obtain ⟨W3, hs3, rfl⟩ := hr
        have hsz : W3.heap.size = B := by rw [hs3.heap, HSB.out]
        have HS3 := Lib.hid hs3
        have HOW := Lib.hid (show OwnL 2 43 Pk.arr (W3.alloc (.cells p.arr 43)) 0 v q.l from ((hs3.nt HN8.out).below (alloc_below W3 _)).list)
        have HPK := Lib.hid (show PkB (W3.alloc (.cells p.arr 43)) B p from by rw [← hsz]; exact heap_alloc_new W3 _)
        have HAL := Lib.hid (show TrN (fun k => v.ownBlock = some k) w8 (W3.alloc (.cells p.arr 43)) ∧ (W3.alloc (.cells p.arr 43)).heap.size = B + 1 from ⟨TrN.of (hs3.below.trans ((alloc_below W3 _).mono (by rw [hs3.heap]; exact Nat.le_refl _))), by simp [hsz]⟩)
        clear hs3 hsz
        generalize W3.alloc (.cells p.arr 43) = W4 at *
        simp only [flowAct, List.zipWith_cons_cons, List.zipWith_nil_left]
        simp only [e4, e6]
        go_wp2_with (refine wpList_append_pk rfl _ _ rfl (base := 0) (u := v) (l := q.l) rfl HOW.out p (b := B) rfl HPK.out (by have := HLN.out; omega) (Nat.zero_le _) ?_; intro v9 w9 ho9 hg9 ha9)
        have hm9 : MoreN w8 v (q.l ++ [p]) w9 v9 := ⟨ho9, HAL.out.1.then (TrN.grown hg9 (fun k hk => hk)), fun k hk => by
          rcases ha9 with h | h
          · exact .inl (by rw [← h]; exact hk)
          · rw [h, HAL.out.2] at hk
            injection hk with hk
            exact .inr (by have := HSB.out; omega)⟩
        exact ⟨rfl, _, rfl, hI.step 1 rfl hL (fun p hp => by obtain ⟨-, h⟩ := hp; injection h with h; subst h; simp only [hn]) (by decide) (⟨v9, hm9⟩) (fun x hx => by first | (injection hx with hx) | cases hx), ⟨(fun _ _ => hm9), (fun _ => by simpa using Li1), hE2⟩⟩
      · intro L xs W ⟨hI, hE⟩ hL hn
        simp [invNeeds, Region.binds] at hn
        have e0 : xs 0 = .pointer (some ⟨g, 0, none⟩) := hI.val 0 (by decide) (by simp only [hn]) _ rfl
        obtain ⟨hE0, hE1, hE2⟩ := hE
        simp only [flowAct, List.zipWith_cons_cons, List.zipWith_nil_left]
        simp only [e0]
        go_wp2_with (fail)
        exact ⟨rfl, _, rfl, hI.pure 8 (by decide) (fun _ h => h) (fun x hx => by first | (injection hx with hx) | cases hx), ⟨hE0, hE1, hE2⟩⟩
      · intro L xs W ⟨hI, hE⟩ hL hn
        simp [invNeeds, Region.binds] at hn
        have e8 : xs 8 = .pointer (some ⟨g, 0, none⟩) := hI.val 8 (by decide) (by simp only [hn]) _ rfl
        obtain ⟨hE0, hE1, hE2⟩ := hE
        simp only [flowAct, List.zipWith_cons_cons, List.zipWith_nil_left]
        simp only [e8]
        go_wp2_with (fail)
        exact ⟨rfl, _, rfl, hI.pure 9 (by decide) (fun _ h => h) (fun x hx => by first | (injection hx with hx) | cases hx), ⟨hE0, hE1, hE2⟩⟩
      · intro L xs W ⟨hI, hE⟩ hL hn
        simp [invNeeds, Region.binds] at hn
        have e9 : xs 9 = .pointer (some ⟨g, 1, none⟩) := hI.val 9 (by decide) (by simp only [hn]) _ rfl
        have hr := hI.at 2 rfl hL (fun p hp => by obtain ⟨-, h⟩ := hp; injection h with h; subst h; simp only [hn])
        obtain ⟨hE0, hE1, hE2⟩ := hE
        have L7 : L 7 = true := by simp only [hn]
        have hm7 := hE0 L7 hL
        obtain ⟨va, vc, e7, -⟩ := OwnL.ls (z := Pk.zero) pk_size hm7.own
        obtain ⟨z1, z2⟩ := HC.out W hm7.tr
        obtain ⟨vm, hvm⟩ : ∃ z, (q.l ++ [p]).length = z := ⟨_, rfl⟩
        rw [hvm] at e7
        rw [e7] at hm7
        have HM7 := Lib.hid hm7
        clear hr hm7 hvm
        simp only [flowAct, List.zipWith_cons_cons, List.zipWith_nil_left]
        simp only [e9, e7]
        go_wp2_with (fail)
        exact ⟨rfl, undef, rfl, hI.step 2 rfl hL (fun p hp => by obtain ⟨-, h⟩ := hp; injection h with h; subst h; simp only [hn]) (by decide) (⟨W, _, HM7.out, rfl⟩) (fun x hx => by first | (injection hx with hx) | cases hx), ⟨(fun _ h => by simp at h), hE1, hE2⟩⟩
    · intro L xs W ⟨hI, hE⟩ hL
      have hdone := (hI.done hL (by decide) (by decide)).1
      obtain ⟨W3, v9, hm9, rfl⟩ : ∃ W3 v', MoreN w8 v (q.l ++ [p]) W3 v' ∧ W = W3.setCell ⟨g, 1, none⟩ v' := hdone
      have HM9 := Lib.hid hm9
      have hnew := HN8.out.relist (HM9.out.tr.block g (HN8.out.lt (.inl rfl)) (fun hk => HN8.out.off hk rfl)) hm9.own
      have htr : TrN (nfoot g v) w8 (W3.setCell ⟨g, 1, none⟩ v9) := (hm9.tr.mono (fun k hk => .inr hk)).set (.inl (.inl rfl))
      have HW := Lib.hid hnew
      have HTR := Lib.hid htr
      clear hnew htr hm9 hI hE hL
      simp only [flowAct, List.zipWith_cons_cons, List.zipWith_nil_left]
      generalize W3.setCell ⟨g, 1, none⟩ v9 = W5 at *
      go_wp2_with (go_at_call 35; (with_reducible refine (naadd_c (t := q.c3) HW.out.cs.2.2.2.2.2 (HW.out.fz 5) HCB.out.1 HCB.out.2).mono ?_); rintro e6 w6 ⟨rfl, rfl⟩)
      go_ret
      refine ⟨rfl, _, ⟨v9, HW.out.bump3 (q.c3 + 1), rfl⟩, ?_, fun k hk => ?_⟩
      · exact ((TrN.of HB8.out).trans HTR.out (fun k hk => hk.imp id id |> .inl)).set (.inl (.inl rfl))
      · rcases hk with hk | hk
        · exact .inl (.inl hk)
        · rcases HM9.out.at9 k hk with h | h
          · exact .inl (.inr h)
          · exact .inr (Nat.le_trans HB8.out.size h)
end Go.Proofs.Ytngfohedddcboaa
