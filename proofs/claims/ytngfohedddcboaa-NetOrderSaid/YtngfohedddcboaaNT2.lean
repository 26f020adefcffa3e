/-
  Net: a packet in a cell of its own; New of both, isMade, Look of both.
-/
import Derived.Test.YtngfohedddcboaaNT1
import Derived.Shelf.Abstract
namespace Go.Proofs.Ytngfohedddcboaa
open Go.RowKit Go Go.Sort
set_option linter.unusedVariables false
set_option maxRecDepth 20000

theorem sizePk (x : Pk) : (Try.prog.info? 43).map (·.size) = some x.arr.size := by kernel_rfl
/-- A packet in a block of its own. -/
def PkB (W : World) (g : Nat) (x : Pk) : Prop := W.heap[g]? = some (.cells x.arr 43 (0, 0))
section
variable {W W' : World} {g : Nat} {x : Pk}
theorem PkB.lt (h : PkB W g x) : g < W.heap.size := (Array.getElem?_eq_some_iff.1 h).1
theorem PkB.kept (h : PkB W g x) (hb : Below W.heap.size W W') : PkB W' g x := (hb.block g h.lt).trans h
theorem PkB.c0 (h : PkB W g x) : W.cell? ⟨g, 0, none⟩ = some (.int .i64 x.frm) := by rw [cell_of_row W g 0 _ 43 (0, 0) h]; rfl
theorem PkB.c1 (h : PkB W g x) : W.cell? ⟨g, 1, none⟩ = some (.string (text x.s)) := by rw [cell_of_row W g 1 _ 43 (0, 0) h]; rfl
theorem PkB.fz (h : PkB W g x) (i : Nat) : W.frozen? ⟨g, i, none⟩ = false := frozen_of_row W g i _ 43 h
theorem PkB.other (h : PkB W g x) (p : Addr) (v : Value) (hne : g ≠ p.block) : PkB (W.setCell p v) g x := (heap_setCell_other W p g v hne).trans h
theorem PkB.set (h : PkB W g x) (y : Pk) : PkB ((W.setCell ⟨g, 0, none⟩ (.int .i64 y.frm)).setCell ⟨g, 1, none⟩ (.string (text y.s))) g y := by
  unfold PkB
  rw [heap_setCell_same _ g 1 _ 43 _ (heap_setCell_same W g 0 _ 43 _ h)]
  rfl
end
/-- A packet of a list that lies in memory. -/
theorem NtIn.pk {W : World} {ty : TypeId} {g : Nat} {v : Value} {q : Nt} (h : NtIn W ty g v q) {i : Int} (hi : q.has i) : ∃ b cap, v = .slice (some ⟨b, 0, none⟩) q.l.length cap ∧ q.l.length ≤ cap ∧ cap ≤ 9223372036854775807 ∧ b ≠ g ∧ (∃ cur : Array Value, W.heap[b]? = some (.cells cur 43 (0, 0))) ∧ ∀ W', Below W.heap.size W W' → W'.cell? ⟨b, i.toNat * 2, none⟩ = some (.int .i64 (q.get i).frm) ∧ W'.cell? ⟨b, i.toNat * 2 + 1, none⟩ = some (.string (text (q.get i).s)) := by
  obtain ⟨h0, h1⟩ := hi
  rcases h.list.2 with ⟨rfl, hn⟩ | ⟨b, cap, cur, rfl, hB, hg, hnc, hcm, hcs, htake⟩
  · omega
  · refine ⟨b, cap, rfl, hnc, by unfold maxLen at hcm; omega, h.off rfl, ⟨cur, hg⟩, fun W' hb => ?_⟩
    have key : ∀ j u, (Pk.arr (q.get i))[j]? = some u → j < 2 → W'.cell? ⟨b, i.toNat * 2 + j, none⟩ = some u := fun j u hj hjs => by
      have c1 := lCells_get (z := Pk.zero) pk_size q.l i.toNat j (by omega) hjs
      rw [← htake, List.getElem?_take, if_pos (by omega)] at c1
      rw [cell_of_row W' b _ cur _ (0, 0) ((hb.block b (Array.getElem?_eq_some_iff.1 hg).1).trans hg), ← hj]
      unfold Nt.get
      rw [← c1]
      simp
    exact ⟨key 0 _ rfl (by decide), key 1 _ rfl (by decide)⟩
/-- What Look tells. -/
def LkPost (q : Nt) (i : Int) (w : World) (e : Ending) (w' : World) : Prop := e = .returned (.tuple #[.agg (q.look i).1.arr, .int .i64 (q.look i).2]) ∧ Below w.heap.size w w'

theorem nnew_bad (k : Int) (w : World) (h : k < 1 ∨ 64 < k) : Calls Try.prog 8 #[.int .i64 k] w (fun e w' => e = .returned (.pointer none) ∧ w = w') := by
  by_cases h0 : k < 1
  · clear h
    go_enter Try.func8, Try.ntmps8
    go_wp2
    go_ret
    exact ⟨rfl, rfl⟩
  · have h1 : (64 : Int) < k := by omega
    clear h
    go_enter Try.func8, Try.ntmps8
    go_wp2
    go_ret
    exact ⟨rfl, rfl⟩
theorem nnew_c (k : Int) (w : World) (h0 : 1 ≤ k) (h1 : k ≤ 64) : Calls Try.prog 8 #[.int .i64 k] w (fun e w' => ∃ g, e = .returned (.pointer (some ⟨g, 0, none⟩)) ∧ ∃ F, Nk w' 56 g (Nt.new k) F ∧ (∀ k, F k → w.heap.size ≤ k) ∧ Below w.heap.size w w') := by
  have n0 : ¬ k < 1 := by omega
  have n1 : ¬ 64 < k := by omega
  go_enter Try.func8, Try.ntmps8
  go_wp2
  go_ret
  refine ⟨_, rfl, _, ⟨.slice none 0 0, ⟨by decide, heap_alloc_new w _, OwnL.nil _ _ _⟩, rfl⟩, ?_, alloc_below _ _⟩
  rintro k (rfl | hk)
  · exact Nat.le_refl _
  · cases hk
theorem rnnew_bad (k : Int) (w : World) (h : k < 1 ∨ 64 < k) : Calls Try.prog 9 #[.int .i64 k] w (fun e w' => e = .returned (.pointer none) ∧ w = w') := by
  by_cases h0 : k < 1
  · clear h
    go_enter Try.func9, Try.ntmps9
    go_wp2
    go_ret
    exact ⟨rfl, rfl⟩
  · have h1 : (64 : Int) < k := by omega
    clear h
    go_enter Try.func9, Try.ntmps9
    go_wp2
    go_ret
    exact ⟨rfl, rfl⟩
theorem rnnew_c (k : Int) (w : World) (h0 : 1 ≤ k) (h1 : k ≤ 64) : Calls Try.prog 9 #[.int .i64 k] w (fun e w' => ∃ g, e = .returned (.pointer (some ⟨g, 0, none⟩)) ∧ ∃ F, Nk w' 60 g (Nt.new k) F ∧ (∀ k, F k → w.heap.size ≤ k) ∧ Below w.heap.size w w') := by
  have n0 : ¬ k < 1 := by omega
  have n1 : ¬ 64 < k := by omega
  go_enter Try.func9, Try.ntmps9
  go_wp2
  go_ret
  refine ⟨_, rfl, _, ⟨.slice none 0 0, ⟨by decide, heap_alloc_new w _, OwnL.nil _ _ _⟩, rfl⟩, ?_, alloc_below _ _⟩
  rintro k (rfl | hk)
  · exact Nat.le_refl _
  · cases hk
theorem nmade_nil (w : World) : Calls Try.prog 29 #[.pointer none] w (fun e w' => e = .returned (.bool false) ∧ w = w') := by
  go_enter Try.func29, Try.ntmps29
  go_wp2
  go_ret
  exact ⟨rfl, rfl⟩
theorem nmade_un {w : World} {g : Nat} (h : w.cell? ⟨g, 0, none⟩ = some (.int .i64 0)) : Calls Try.prog 29 #[.pointer (some ⟨g, 0, none⟩)] w (fun e w' => e = .returned (.bool false) ∧ w = w') := by
  go_enter Try.func29, Try.ntmps29
  go_wp2
  go_ret
  exact ⟨rfl, rfl⟩
theorem nmade_c {w : World} {g : Nat} {k : Int} (h : w.cell? ⟨g, 0, none⟩ = some (.int .i64 k)) (hk : 1 ≤ k) : Calls Try.prog 29 #[.pointer (some ⟨g, 0, none⟩)] w (fun e w' => e = .returned (.bool true) ∧ w = w') := by
  have hb : (k != 0) = true := by simp; omega
  clear hk
  go_enter Try.func29, Try.ntmps29
  go_wp2
  go_ret
  exact ⟨rfl, rfl⟩
set_option maxRecDepth 100000 in
set_option maxHeartbeats 3200000 in
theorem nlook_c {w : World} {g : Nat} {q : Nt} {F : Nat → Prop} (hk : Nk w 56 g q F) (hm : 1 ≤ q.most) (i : Int) : Calls Try.prog 20 #[.pointer (some ⟨g, 0, none⟩), .int .i64 i] w (LkPost q i w) := by
  obtain ⟨v, h, rfl⟩ := hk
  have HB := Lib.hid (alloc_below w (.cells #[.int .i64 0, .string ⟨#[]⟩] 43))
  have HP := Lib.hid (show PkB (w.alloc (.cells #[.int .i64 0, .string ⟨#[]⟩] 43)) w.heap.size Pk.zero from heap_alloc_new w _)
  have HN := Lib.hid (h.below HB.out)
  have HO := Lib.hid h
  obtain ⟨B, hB⟩ : ∃ z, w.heap.size = z := ⟨_, rfl⟩
  have HSB := Lib.hid hB
  unfold LkPost
  have hmax : (q.l.length : Int) ≤ 9223372036854775807 := by
    rcases h.list.2 with ⟨-, hn⟩ | ⟨_, _, _, -, -, -, h1, h2, -⟩
    · omega
    · unfold maxLen at h2; omega
  obtain ⟨a, cap, hv, -⟩ := h.sl
  have z0 := HP.out.c0
  have z1 := HP.out.c1
  have f0 := HP.out.fz 0
  have f1 := HP.out.fz 1
  have y0 := HN.out.cs.1
  have y1 := HN.out.cs.2.1
  rw [hv] at y1
  simp only [Pk.zero] at z0 z1
  have HMD := Lib.hid (And.intro y0 hm)
  clear hm y0
  rw [hB] at HB HP z0 z1 f0 f1
  by_cases hi : q.has i
  · obtain ⟨b, cap', hv2, hle, hcm, hbg, hbt, hat⟩ := HN.out.pk hi
    have he : q.look i = (q.get i, 0) := by unfold Nt.look; rw [if_pos hi]
    rw [he]
    rw [hv] at hv2
    injection hv2 with e1 e2 e3
    subst e1 e3
    have hi0 : ¬ i < 0 := by have := hi.1; omega
    obtain ⟨k, rfl⟩ := Int.eq_ofNat_of_zero_le hi.1
    have hlt : (k : Int) < (q.l.length : Int) := hi.2
    obtain ⟨p, hp⟩ : ∃ z, q.get (k : Int) = z := ⟨_, rfl⟩
    rw [hp] at hat ⊢
    simp only [Int.toNat_natCast] at hat
    have HAT := Lib.hid hat
    obtain ⟨n, hn⟩ : ∃ z, q.l.length = z := ⟨_, rfl⟩
    rw [hn] at hlt hle hmax y1
    have hge : ¬ (n : Int) ≤ (k : Int) := by omega
    have hkc : (k : Int) < (cap : Int) := by omega
    obtain ⟨a0, a1⟩ := hat _ (Below.refl _ _)
    obtain ⟨pf, ps⟩ := p
    obtain ⟨tp, htp⟩ : ∃ z, text ps = z := ⟨_, rfl⟩
    have HTP := Lib.hid htp
    simp only [htp] at a0 a1
    clear h hat hi he hp hv hn htp
    go_enter Try.func20, Try.ntmps20
    go_upto_region 1 with (fail)
    try rw [hB]
    generalize w.alloc (.cells #[.int .i64 0, .string ⟨#[]⟩] 43) = W1 at *
    go_wp2_with (go_at_call 29; (with_reducible refine (nmade_c HMD.out.1 HMD.out.2).mono ?_); rintro e1 w1 ⟨rfl, rfl⟩)
    refine bodyPost_ret (res_cell_tmp rfl _ _ B 43 _ (0, 0) _ _ rfl rfl (by have := HP.out.set ⟨pf, ps⟩; simp only [HTP.out] at this; exact this) Try.underlying43 rfl (sizePk ⟨_, _⟩)) rfl ⟨by simp only [Pk.arr]; rfl, ?_⟩
    try rw [HSB.out]
    exact (HB.out.setCell (p := ⟨B, 0, none⟩) (Nat.le_refl _) _).setCell (p := ⟨B, 1, none⟩) (Nat.le_refl _) _
  · have he : q.look i = (Pk.zero, 211) := by unfold Nt.look; rw [if_neg hi]
    rw [he]
    obtain ⟨n, hn⟩ : ∃ z, q.l.length = z := ⟨_, rfl⟩
    unfold Nt.has at hi
    rw [hn] at hi hmax y1
    by_cases h0 : i < 0
    · clear h hi he hv hn
      go_enter Try.func20, Try.ntmps20
      go_upto_region 1 with (fail)
      try rw [hB]
      generalize w.alloc (.cells #[.int .i64 0, .string ⟨#[]⟩] 43) = W1 at *
      go_wp2_with (go_at_call 29; (with_reducible refine (nmade_c HMD.out.1 HMD.out.2).mono ?_); rintro e1 w1 ⟨rfl, rfl⟩)
      refine bodyPost_ret (res_cell_tmp rfl _ _ B 43 _ (0, 0) _ _ rfl rfl (HP.out.set Pk.zero) Try.underlying43 rfl (sizePk ⟨_, _⟩)) rfl ⟨by rfl, ?_⟩
      try rw [HSB.out]
      exact (HB.out.setCell (p := ⟨B, 0, none⟩) (Nat.le_refl _) _).setCell (p := ⟨B, 1, none⟩) (Nat.le_refl _) _
    · have hge : (n : Int) ≤ i := by omega
      clear h hi he hv hn
      go_enter Try.func20, Try.ntmps20
      go_upto_region 1 with (fail)
      try rw [hB]
      generalize w.alloc (.cells #[.int .i64 0, .string ⟨#[]⟩] 43) = W1 at *
      go_wp2_with (go_at_call 29; (with_reducible refine (nmade_c HMD.out.1 HMD.out.2).mono ?_); rintro e1 w1 ⟨rfl, rfl⟩)
      refine bodyPost_ret (res_cell_tmp rfl _ _ B 43 _ (0, 0) _ _ rfl rfl (HP.out.set Pk.zero) Try.underlying43 rfl (sizePk ⟨_, _⟩)) rfl ⟨by rfl, ?_⟩
      try rw [HSB.out]
      exact (HB.out.setCell (p := ⟨B, 0, none⟩) (Nat.le_refl _) _).setCell (p := ⟨B, 1, none⟩) (Nat.le_refl _) _
set_option maxRecDepth 100000 in
set_option maxHeartbeats 3200000 in
theorem rnlook_c {w : World} {g : Nat} {q : Nt} {F : Nat → Prop} (hk : Nk w 60 g q F) (i : Int) : Calls Try.prog 28 #[.pointer (some ⟨g, 0, none⟩), .int .i64 i] w (LkPost q i w) := by
  obtain ⟨v, h, rfl⟩ := hk
  have HB := Lib.hid (alloc_below w (.cells #[.int .i64 0, .string ⟨#[]⟩] 43))
  have HP := Lib.hid (show PkB (w.alloc (.cells #[.int .i64 0, .string ⟨#[]⟩] 43)) w.heap.size Pk.zero from heap_alloc_new w _)
  have HN := Lib.hid (h.below HB.out)
  have HO := Lib.hid h
  obtain ⟨B, hB⟩ : ∃ z, w.heap.size = z := ⟨_, rfl⟩
  have HSB := Lib.hid hB
  unfold LkPost
  have hmax : (q.l.length : Int) ≤ 9223372036854775807 := by
    rcases h.list.2 with ⟨-, hn⟩ | ⟨_, _, _, -, -, -, h1, h2, -⟩
    · omega
    · unfold maxLen at h2; omega
  obtain ⟨a, cap, hv, -⟩ := h.sl
  have z0 := HP.out.c0
  have z1 := HP.out.c1
  have f0 := HP.out.fz 0
  have f1 := HP.out.fz 1
  have y0 := HN.out.cs.1
  have y1 := HN.out.cs.2.1
  rw [hv] at y1
  simp only [Pk.zero] at z0 z1
  rw [hB] at HB HP z0 z1 f0 f1
  by_cases hi : q.has i
  · obtain ⟨b, cap', hv2, hle, hcm, hbg, hbt, hat⟩ := HN.out.pk hi
    have he : q.look i = (q.get i, 0) := by unfold Nt.look; rw [if_pos hi]
    rw [he]
    rw [hv] at hv2
    injection hv2 with e1 e2 e3
    subst e1 e3
    have hi0 : ¬ i < 0 := by have := hi.1; omega
    obtain ⟨k, rfl⟩ := Int.eq_ofNat_of_zero_le hi.1
    have hlt : (k : Int) < (q.l.length : Int) := hi.2
    obtain ⟨p, hp⟩ : ∃ z, q.get (k : Int) = z := ⟨_, rfl⟩
    rw [hp] at hat ⊢
    simp only [Int.toNat_natCast] at hat
    have HAT := Lib.hid hat
    obtain ⟨n, hn⟩ : ∃ z, q.l.length = z := ⟨_, rfl⟩
    rw [hn] at hlt hle hmax y1
    have hge : ¬ (n : Int) ≤ (k : Int) := by omega
    have hkc : (k : Int) < (cap : Int) := by omega
    obtain ⟨a0, a1⟩ := hat _ (Below.refl _ _)
    obtain ⟨pf, ps⟩ := p
    obtain ⟨tp, htp⟩ : ∃ z, text ps = z := ⟨_, rfl⟩
    have HTP := Lib.hid htp
    simp only [htp] at a0 a1
    clear h hat hi he hp hv hn htp
    go_enter Try.func28, Try.ntmps28
    go_upto_region 1 with (fail)
    try rw [hB]
    generalize w.alloc (.cells #[.int .i64 0, .string ⟨#[]⟩] 43) = W1 at *
    go_wp2_with (fail)
    refine bodyPost_ret (res_cell_tmp rfl _ _ B 43 _ (0, 0) _ _ rfl rfl (by have := HP.out.set ⟨pf, ps⟩; simp only [HTP.out] at this; exact this) Try.underlying43 rfl (sizePk ⟨_, _⟩)) rfl ⟨by simp only [Pk.arr]; rfl, ?_⟩
    try rw [HSB.out]
    exact (HB.out.setCell (p := ⟨B, 0, none⟩) (Nat.le_refl _) _).setCell (p := ⟨B, 1, none⟩) (Nat.le_refl _) _
  · have he : q.look i = (Pk.zero, 211) := by unfold Nt.look; rw [if_neg hi]
    rw [he]
    obtain ⟨n, hn⟩ : ∃ z, q.l.length = z := ⟨_, rfl⟩
    unfold Nt.has at hi
    rw [hn] at hi hmax y1
    by_cases h0 : i < 0
    · clear h hi he hv hn
      go_enter Try.func28, Try.ntmps28
      go_upto_region 1 with (fail)
      try rw [hB]
      generalize w.alloc (.cells #[.int .i64 0, .string ⟨#[]⟩] 43) = W1 at *
      go_wp2_with (fail)
      refine bodyPost_ret (res_cell_tmp rfl _ _ B 43 _ (0, 0) _ _ rfl rfl (HP.out.set Pk.zero) Try.underlying43 rfl (sizePk ⟨_, _⟩)) rfl ⟨by rfl, ?_⟩
      try rw [HSB.out]
      exact (HB.out.setCell (p := ⟨B, 0, none⟩) (Nat.le_refl _) _).setCell (p := ⟨B, 1, none⟩) (Nat.le_refl _) _
    · have hge : (n : Int) ≤ i := by omega
      clear h hi he hv hn
      go_enter Try.func28, Try.ntmps28
      go_upto_region 1 with (fail)
      try rw [hB]
      generalize w.alloc (.cells #[.int .i64 0, .string ⟨#[]⟩] 43) = W1 at *
      go_wp2_with (fail)
      refine bodyPost_ret (res_cell_tmp rfl _ _ B 43 _ (0, 0) _ _ rfl rfl (HP.out.set Pk.zero) Try.underlying43 rfl (sizePk ⟨_, _⟩)) rfl ⟨by rfl, ?_⟩
      try rw [HSB.out]
      exact (HB.out.setCell (p := ⟨B, 0, none⟩) (Nat.le_refl _) _).setCell (p := ⟨B, 1, none⟩) (Nat.le_refl _) _
end Go.Proofs.Ytngfohedddcboaa
