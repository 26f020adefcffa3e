/-
  The reference's Sum: the digest of bytes.
-/
import Derived.Test.YticcmhgahbnboaaDoorSJ
import Derived.Test.YticcmhgahbnboaaDoorSV
namespace Go.Proofs.YticcmhgahbnboaaDoor
open Go.RowKit Go Go.Sort
set_option linter.unusedVariables false

theorem Bys.of_block {w w' : World} {g off n c : Nat} {l : List UInt8} (h : Bys w (some ⟨g, off, none⟩) n c l) (e : w'.heap[g]? = w.heap[g]?) : Bys w' (some ⟨g, off, none⟩) n c l := by
  refine ⟨h.len, h.le, h.max, ?_⟩
  rcases h.adr with h0 | ⟨b, o, hb, hc⟩
  · exact .inl h0
  · obtain ⟨rfl, rfl⟩ : g = b ∧ off = o := by simpa using hb
    exact .inr ⟨g, off, rfl, fun i hi => by rw [World.cell?_of_block (w := w) e]; exact hc i hi⟩
theorem slice_win (b k cap o p : Nat) (h1 : o + 64 = p) (h2 : p ≤ k) (h3 : k ≤ cap) (W : World) :
    (Instr.slice 22 (.slice (some ⟨b, 0, none⟩) k cap) (some (.int .i64 (o : Int))) (some (.int .i64 (p : Int))) none).run Tryd.prog W = .ok (.slice (some ⟨b, o, none⟩) 64 (cap - o)) W := by
  obtain ⟨i0, hi, hz0, hz1, hz2⟩ := info_parts Tryd.info5
  have he : Tryd.prog.elem 22 = 5 := by kernel_rfl
  rw [run_slice_lh W 22 (some ⟨b, 0, none⟩) k cap (by kernel_rfl) .i64 .i64 (o : Int) (p : Int) (by omega) (by omega) (by omega), he]
  have hsz : (sizeOf 5).run Tryd.prog W = .ok 1 W := by simp [sizeOf, typeInfo, hi, hz1, go_sem]
  rw [hsz]
  simp only [Result.andThen_ok, sliced, Int.toNat_natCast, Nat.mul_one, Option.map_some, addr_add, Nat.zero_add]
  rw [if_neg (by omega), show p - o = 64 by omega]
theorem slice_win' (b k cap o p : Nat) (h1 : o + 64 = p) (h2 : p ≤ k) (h3 : k ≤ cap) (W : World) :
    (Instr.sliceAt 22 (.slice (some ⟨b, 0, none⟩) k cap) (some (.int .i64 (o : Int))) (some (.int .i64 (p : Int))) none).run Tryd.prog W = .ok (.slice (some ⟨b, o, none⟩) 64 (cap - o)) W := by
  rw [run_sliceAt_slice _ _ _ _ _ _ (by kernel_rfl)]
  exact slice_win b k cap o p h1 h2 h3 W

/-- What is known while the blocks come. -/
structure HashInv (w w2 : World) (gm : Nat) (r : Rd) (wr : World) : Prop where
  s : RowW wr (w.heap.size + 1) 61 r.list
  o : RowB wr w.heap.size 46 (List.replicate 32 0)
  own : wr.heap[gm]? = w2.heap[gm]?
  lt : gm < wr.heap.size
  below : Below w.heap.size w wr
theorem HashInv.kept {w w2 wr wr' : World} {gm : Nat} {r : Rd} (h : HashInv w w2 gm r wr) (hb : Below wr.heap.size wr wr') : HashInv w w2 gm r wr' :=
  ⟨h.s.kept hb, h.o.kept hb, (hb.block gm h.lt).trans h.own, Nat.lt_of_lt_of_le h.lt hb.size, h.below.trans (hb.mono h.below.size)⟩
theorem HashInv.stored {w w2 wr : World} {gm : Nat} {r : Rd} (h : HashInv w w2 gm r wr) (r' : Rd) (hg : w.heap.size + 2 ≤ gm) : HashInv w w2 gm r' (st8 wr (w.heap.size + 1) r') :=
  ⟨st8_row h.s r', (st8_other wr _ r' _ (by omega)).trans h.o, (st8_other wr _ r' _ (by omega)).trans h.own,
    by have := st8_below (Below.refl 0 wr) (Nat.zero_le (w.heap.size + 1)) r'; exact Nat.lt_of_lt_of_le h.lt this.size, st8_below h.below (by omega) r'⟩

set_option maxRecDepth 100000 in
set_option maxHeartbeats 3200000 in
theorem rhash_c {w : World} {a : Option Addr} {n cap : Nat} {l : List UInt8} (hb : Bys w a n cap l) (hlim : n ≤ 900000) : Calls Tryd.prog 25 #[.slice a n cap] w (ValPost (.agg (u8v (digS (lastS l))).toArray) w) := by
  have hln := hb.len
  have hO1 : RowB ((w.alloc (.cells #[.int .u8 0, .int .u8 0, .int .u8 0, .int .u8 0, .int .u8 0, .int .u8 0, .int .u8 0, .int .u8 0, .int .u8 0, .int .u8 0, .int .u8 0, .int .u8 0, .int .u8 0, .int .u8 0, .int .u8 0, .int .u8 0, .int .u8 0, .int .u8 0, .int .u8 0, .int .u8 0, .int .u8 0, .int .u8 0, .int .u8 0, .int .u8 0, .int .u8 0, .int .u8 0, .int .u8 0, .int .u8 0, .int .u8 0, .int .u8 0, .int .u8 0, .int .u8 0] 46)).alloc (.cells #[.int .u32 1779033703, .int .u32 3144134277, .int .u32 1013904242, .int .u32 2773480762, .int .u32 1359893119, .int .u32 2600822924, .int .u32 528734635, .int .u32 1541459225] 61)) w.heap.size 46 (List.replicate 32 0) := by
    have h : RowB (w.alloc (.cells #[.int .u8 0, .int .u8 0, .int .u8 0, .int .u8 0, .int .u8 0, .int .u8 0, .int .u8 0, .int .u8 0, .int .u8 0, .int .u8 0, .int .u8 0, .int .u8 0, .int .u8 0, .int .u8 0, .int .u8 0, .int .u8 0, .int .u8 0, .int .u8 0, .int .u8 0, .int .u8 0, .int .u8 0, .int .u8 0, .int .u8 0, .int .u8 0, .int .u8 0, .int .u8 0, .int .u8 0, .int .u8 0, .int .u8 0, .int .u8 0, .int .u8 0, .int .u8 0] 46)) w.heap.size 46 (List.replicate 32 0) := heap_alloc_new w _
    exact h.alloc _
  have hS1 : RowW ((w.alloc (.cells #[.int .u8 0, .int .u8 0, .int .u8 0, .int .u8 0, .int .u8 0, .int .u8 0, .int .u8 0, .int .u8 0, .int .u8 0, .int .u8 0, .int .u8 0, .int .u8 0, .int .u8 0, .int .u8 0, .int .u8 0, .int .u8 0, .int .u8 0, .int .u8 0, .int .u8 0, .int .u8 0, .int .u8 0, .int .u8 0, .int .u8 0, .int .u8 0, .int .u8 0, .int .u8 0, .int .u8 0, .int .u8 0, .int .u8 0, .int .u8 0, .int .u8 0, .int .u8 0] 46)).alloc (.cells #[.int .u32 1779033703, .int .u32 3144134277, .int .u32 1013904242, .int .u32 2773480762, .int .u32 1359893119, .int .u32 2600822924, .int .u32 528734635, .int .u32 1541459225] 61)) (w.heap.size + 1) 61 startS.list := by
    have := heap_alloc_new (w.alloc (.cells #[.int .u8 0, .int .u8 0, .int .u8 0, .int .u8 0, .int .u8 0, .int .u8 0, .int .u8 0, .int .u8 0, .int .u8 0, .int .u8 0, .int .u8 0, .int .u8 0, .int .u8 0, .int .u8 0, .int .u8 0, .int .u8 0, .int .u8 0, .int .u8 0, .int .u8 0, .int .u8 0, .int .u8 0, .int .u8 0, .int .u8 0, .int .u8 0, .int .u8 0, .int .u8 0, .int .u8 0, .int .u8 0, .int .u8 0, .int .u8 0, .int .u8 0, .int .u8 0] 46)) (.cells #[.int .u32 1779033703, .int .u32 3144134277, .int .u32 1013904242, .int .u32 2773480762, .int .u32 1359893119, .int .u32 2600822924, .int .u32 528734635, .int .u32 1541459225] 61)
    rw [World.size_alloc] at this
    exact this
  have hb1 : Below w.heap.size w ((w.alloc (.cells #[.int .u8 0, .int .u8 0, .int .u8 0, .int .u8 0, .int .u8 0, .int .u8 0, .int .u8 0, .int .u8 0, .int .u8 0, .int .u8 0, .int .u8 0, .int .u8 0, .int .u8 0, .int .u8 0, .int .u8 0, .int .u8 0, .int .u8 0, .int .u8 0, .int .u8 0, .int .u8 0, .int .u8 0, .int .u8 0, .int .u8 0, .int .u8 0, .int .u8 0, .int .u8 0, .int .u8 0, .int .u8 0, .int .u8 0, .int .u8 0, .int .u8 0, .int .u8 0] 46)).alloc (.cells #[.int .u32 1779033703, .int .u32 3144134277, .int .u32 1013904242, .int .u32 2773480762, .int .u32 1359893119, .int .u32 2600822924, .int .u32 528734635, .int .u32 1541459225] 61)) := ((Below.refl _ w).alloc (Nat.le_refl _) _).alloc (by simp) _
  have hE1 : w.heap.size + 2 ≤ ((w.alloc (.cells #[.int .u8 0, .int .u8 0, .int .u8 0, .int .u8 0, .int .u8 0, .int .u8 0, .int .u8 0, .int .u8 0, .int .u8 0, .int .u8 0, .int .u8 0, .int .u8 0, .int .u8 0, .int .u8 0, .int .u8 0, .int .u8 0, .int .u8 0, .int .u8 0, .int .u8 0, .int .u8 0, .int .u8 0, .int .u8 0, .int .u8 0, .int .u8 0, .int .u8 0, .int .u8 0, .int .u8 0, .int .u8 0, .int .u8 0, .int .u8 0, .int .u8 0, .int .u8 0] 46)).alloc (.cells #[.int .u32 1779033703, .int .u32 3144134277, .int .u32 1013904242, .int .u32 2773480762, .int .u32 1359893119, .int .u32 2600822924, .int .u32 528734635, .int .u32 1541459225] 61)).heap.size := by rw [World.size_alloc, World.size_alloc]; omega
  go_enter Tryd.func25, Tryd.ntmps25
  go_upto_region 2 with (fail)
  generalize ((w.alloc (.cells #[.int .u8 0, .int .u8 0, .int .u8 0, .int .u8 0, .int .u8 0, .int .u8 0, .int .u8 0, .int .u8 0, .int .u8 0, .int .u8 0, .int .u8 0, .int .u8 0, .int .u8 0, .int .u8 0, .int .u8 0, .int .u8 0, .int .u8 0, .int .u8 0, .int .u8 0, .int .u8 0, .int .u8 0, .int .u8 0, .int .u8 0, .int .u8 0, .int .u8 0, .int .u8 0, .int .u8 0, .int .u8 0, .int .u8 0, .int .u8 0, .int .u8 0, .int .u8 0] 46)).alloc (.cells #[.int .u32 1779033703, .int .u32 3144134277, .int .u32 1013904242, .int .u32 2773480762, .int .u32 1359893119, .int .u32 2600822924, .int .u32 528734635, .int .u32 1541459225] 61)) = W1 at *
  have hbb := hb.below hb1
  have hmc := rmessage_c hbb (by omega)
  have HMC := Lib.hid hmc
  clear hmc hbb hb
  go_upto_region 3 with (go_at_call 42; (with_reducible refine (HMC.out).mono ?_); rintro e w2 ⟨v, rfl, ho, hb2⟩)
  obtain ⟨L, hL⟩ : ∃ L, l ++ tailS n = L := ⟨_, rfl⟩
  have hLM : L.length % 64 = 0 := by rw [← hL, List.length_append, hln]; exact tail_whole n
  have hL1 : 64 ≤ L.length := by
    have : 9 ≤ L.length := by rw [← hL, List.length_append, tailS_length]; omega
    omega
  have hLmx : L.length ≤ 1000000 := by
    have := nil_le n
    rw [← hL, List.length_append, tailS_length, hln]; omega
  have HLAST := Lib.hid (show blocksS L (L.length / 64) = lastS l by unfold lastS; rw [hln, hL])
  rw [hL] at ho
  obtain ⟨gm, cm, rfl, hoR⟩ := ho.row (by omega)
  obtain ⟨a', c', he, hbm⟩ := hoR.bys
  obtain ⟨rfl, rfl⟩ : a' = some ⟨gm, 0, none⟩ ∧ c' = cm := by simpa using he.symm
  have hgm := hoR.lt gm rfl
  have hgm2 : w.heap.size + 2 ≤ gm := by omega
  obtain ⟨M, hM⟩ : ∃ M, L.length = M := ⟨_, rfl⟩
  rw [hM] at hbm HLAST hLM hL1 hLmx ⊢
  have hcm := hbm.le
  have hcmx := hbm.max
  have HWIN := Lib.hid (show ∀ (wr : World) (o : Nat), o + 64 ≤ M → wr.heap[gm]? = w2.heap[gm]? → Bys wr (some ⟨gm, o, none⟩) 64 (c' - o) ((L.drop o).take 64) by
    intro wr o ho he
    have h1 := (hbm.drop (q := o) (by omega)).take (q := 64) (by omega)
    rw [Option.map_some, addr_add, Nat.zero_add] at h1
    exact h1.of_block he)
  have HI := Lib.hid (show HashInv w w2 gm (blocksS L 0) w2 from ⟨hS1.kept hb2, hO1.kept hb2, rfl, hgm.2, hb1.trans (hb2.mono hb1.size)⟩)
  have hsg : IntKind.u32.signed = false := rfl
  clear hS1 hO1 hb1 hE1 HMC ho hoR he hbm hgm hL hln
  go_wp2
  go_loopw [5] (fun i wr => ∃ k o : Nat, 64 * k = o ∧ o ≤ M ∧ i = .int .i64 (o : Int) ∧ HashInv w w2 gm (blocksS L k) wr) (fun i _ => M - (intOf i).toNat)
  case atStart => exact ⟨0, 0, rfl, by omega, rfl, HI.out⟩
  case round =>
    clear HI
    obtain ⟨k, o, hko, hoM, rfl, hI⟩ := hrel
    by_cases hlt : o < M
    · have hki : (o : Int) < (M : Int) := by omega
      have hblk : ((L.drop o).take 64).length = 64 := by simp; omega
      have hbw := HWIN.out wr o (by omega) hI.own
      have HR := Lib.hid (show blocksS L (k + 1) = blockS (blocksS L k) ((L.drop o).take 64) by rw [← hko]; rfl)
      obtain ⟨r, hr⟩ : ∃ r, blocksS L k = r := ⟨_, rfl⟩
      rw [hr] at hI HR
      obtain ⟨B, hB⟩ : ∃ B, (L.drop o).take 64 = B := ⟨_, rfl⟩
      rw [hB] at hblk hbw HR
      obtain ⟨R, hRR⟩ : ∃ R, blockS r B = R := ⟨_, rfl⟩
      have CB : ∀ d os, Calls Tryd.prog 43 #[.agg #[.int .u32 (I r.a), .int .u32 (I r.b), .int .u32 (I r.c), .int .u32 (I r.d), .int .u32 (I r.e), .int .u32 (I r.f), .int .u32 (I r.g), .int .u32 (I r.h)], .slice (some ⟨gm, o, none⟩) 64 (c' - o)] (grow (redrawn wr d) os) fun e w'' => e = .returned (.agg #[.int .u32 (I R.a), .int .u32 (I R.b), .int .u32 (I R.c), .int .u32 (I R.d), .int .u32 (I R.e), .int .u32 (I R.f), .int .u32 (I R.g), .int .u32 (I R.h)]) ∧ ∃ p : Regrown, w'' = grow (redrawn wr p.d) p.os := fun d os => by
        have h := Calls.regrown_of (v := aggW (blockS r B).list) (rblock_c r B hblk (hbw.below (below_regrown wr d os)))
        rw [hRR] at h
        exact h
      rw [hRR] at HR
      obtain ⟨p, hp⟩ : ∃ p, o + 64 = p := ⟨_, rfl⟩
      have hpi : (o : Int) + 64 = (p : Int) := by omega
      have hsl := slice_win gm M c' o p hp (by omega) hcm
      have hsl' := slice_win' gm M c' o p hp (by omega) hcm
      obtain ⟨cc, hcc⟩ : ∃ c, c' - o = c := ⟨_, rfl⟩
      rw [hcc] at hsl hsl' CB
      have c0 := hI.s.cell 0 (by show 0 < 8; decide)
      have c1 := hI.s.cell 1 (by show 1 < 8; decide)
      have c2 := hI.s.cell 2 (by show 2 < 8; decide)
      have c3 := hI.s.cell 3 (by show 3 < 8; decide)
      have c4 := hI.s.cell 4 (by show 4 < 8; decide)
      have c5 := hI.s.cell 5 (by show 5 < 8; decide)
      have c6 := hI.s.cell 6 (by show 6 < 8; decide)
      have c7 := hI.s.cell 7 (by show 7 < 8; decide)
      rw [show wAt r.list 0 = r.a from rfl] at c0
      rw [show wAt r.list 1 = r.b from rfl] at c1
      rw [show wAt r.list 2 = r.c from rfl] at c2
      rw [show wAt r.list 3 = r.d from rfl] at c3
      rw [show wAt r.list 4 = r.e from rfl] at c4
      rw [show wAt r.list 5 = r.f from rfl] at c5
      rw [show wAt r.list 6 = r.g from rfl] at c6
      rw [show wAt r.list 7 = r.h from rfl] at c7
      have k0 := cell_regrown c0
      have k1 := cell_regrown c1
      have k2 := cell_regrown c2
      have k3 := cell_regrown c3
      have k4 := cell_regrown c4
      have k5 := cell_regrown c5
      have k6 := cell_regrown c6
      have k7 := cell_regrown c7
      have CB2 := Lib.hid CB
      have HIV := Lib.hid hI
      have HPI := Lib.hid hpi
      have HPP := Lib.hid hp
      clear hI CB c0 c1 c2 c3 c4 c5 c6 c7 hB hr hRR hbw hcc hp
      go_wp2
      refine wp_region_any (by kernel_rfl) ?_
      refine any_head_tail (C := fun w' => ∃ p : Regrown, w' = grow (redrawn wr p.d) p.os) 0 7 (by decide) (by rfl) (by kernel_rfl) ⟨⟨wr.drawn + 1, #[]⟩, by rw [grow_empty]; rfl⟩ ?_
      simp only [List.drop_succ_cons, List.drop_zero, List.take_succ_cons, List.take_zero]
      repeat (go_big_quiet_step (with_reducible exact CB2.out _ _))
      refine wpQuiet_nil ?_
      intro _ hw'
      obtain ⟨⟨dq, osq⟩, hw''⟩ := hw'
      subst hw''
      have hI6 := HIV.out.kept (below_regrown wr dq osq)
      clear k0 k1 k2 k3 k4 k5 k6 k7 CB2 hsl hsl'
      generalize grow (redrawn wr dq) osq = W6 at *
      have c0 := hI6.s.cell 0 (by show 0 < 8; decide)
      have c1 := hI6.s.cell 1 (by show 1 < 8; decide)
      have c2 := hI6.s.cell 2 (by show 2 < 8; decide)
      have c3 := hI6.s.cell 3 (by show 3 < 8; decide)
      have c4 := hI6.s.cell 4 (by show 4 < 8; decide)
      have c5 := hI6.s.cell 5 (by show 5 < 8; decide)
      have c6 := hI6.s.cell 6 (by show 6 < 8; decide)
      have c7 := hI6.s.cell 7 (by show 7 < 8; decide)
      have z0 := hI6.s.frozen 0
      have z1 := hI6.s.frozen 1
      have z2 := hI6.s.frozen 2
      have z3 := hI6.s.frozen 3
      have z4 := hI6.s.frozen 4
      have z5 := hI6.s.frozen 5
      have z6 := hI6.s.frozen 6
      have z7 := hI6.s.frozen 7
      have HI6 := Lib.hid hI6
      clear hI6
      go_wp2
      go_roundw
      case rel =>
        refine ⟨k + 1, p, by have := HPP.out; omega, by have := HPP.out; omega, rfl, ?_⟩
        rw [HR.out]
        exact HI6.out.stored R hgm2
      case measure => have := HPP.out; simp [intOf]; omega
    · obtain rfl : o = M := by omega
      have HRR := Lib.hid (show blocksS L k = lastS l by rw [← HLAST.out, ← hko]; congr 1; omega)
      obtain ⟨r', hr'⟩ : ∃ r, blocksS L k = r := ⟨_, rfl⟩
      rw [hr'] at hI HRR
      have hd : RowB (wr.alloc (.cells #[.int .u8 0, .int .u8 0, .int .u8 0, .int .u8 0, .int .u8 0, .int .u8 0, .int .u8 0, .int .u8 0, .int .u8 0, .int .u8 0, .int .u8 0, .int .u8 0, .int .u8 0, .int .u8 0, .int .u8 0, .int .u8 0, .int .u8 0, .int .u8 0, .int .u8 0, .int .u8 0, .int .u8 0, .int .u8 0, .int .u8 0, .int .u8 0, .int .u8 0, .int .u8 0, .int .u8 0, .int .u8 0, .int .u8 0, .int .u8 0, .int .u8 0, .int .u8 0] 46)) wr.heap.size 46 (digK r' 0) := heap_alloc_new wr _
      have hbn := (Below.refl wr.heap.size wr).alloc (Nat.le_refl _) (.cells #[.int .u8 0, .int .u8 0, .int .u8 0, .int .u8 0, .int .u8 0, .int .u8 0, .int .u8 0, .int .u8 0, .int .u8 0, .int .u8 0, .int .u8 0, .int .u8 0, .int .u8 0, .int .u8 0, .int .u8 0, .int .u8 0, .int .u8 0, .int .u8 0, .int .u8 0, .int .u8 0, .int .u8 0, .int .u8 0, .int .u8 0, .int .u8 0, .int .u8 0, .int .u8 0, .int .u8 0, .int .u8 0, .int .u8 0, .int .u8 0, .int .u8 0, .int .u8 0] 46)
      have hO5 := hI.o.kept hbn
      have hS5 := hI.s.kept hbn
      have hB5 := hI.below.trans (hbn.mono hI.below.size)
      have hne : w.heap.size + 1 < wr.heap.size := by have := hI.lt; omega
      clear hI hr' hbn HWIN hko hLM hL1 hLmx hcm hcmx hgm2 hoM hlt hlim
      go_upto_region 8 with (fail)
      generalize wr.alloc (.cells #[.int .u8 0, .int .u8 0, .int .u8 0, .int .u8 0, .int .u8 0, .int .u8 0, .int .u8 0, .int .u8 0, .int .u8 0, .int .u8 0, .int .u8 0, .int .u8 0, .int .u8 0, .int .u8 0, .int .u8 0, .int .u8 0, .int .u8 0, .int .u8 0, .int .u8 0, .int .u8 0, .int .u8 0, .int .u8 0, .int .u8 0, .int .u8 0, .int .u8 0, .int .u8 0, .int .u8 0, .int .u8 0, .int .u8 0, .int .u8 0, .int .u8 0, .int .u8 0] 46) = W5 at *
      obtain ⟨gd, hgd⟩ : ∃ x, wr.heap.size = x := ⟨_, rfl⟩
      rw [hgd] at hd hne ⊢
      go_wp2
      go_loopw [7] (fun i wx => ∃ k : Nat, k ≤ 32 ∧ i = .int .i64 k ∧ RowB wx gd 46 (digK r' k) ∧ RowB wx w.heap.size 46 (List.replicate 32 0) ∧ RowW wx (w.heap.size + 1) 61 r'.list ∧ Below w.heap.size w wx) (fun i _ => 32 - (intOf i).toNat)
      case atStart => exact ⟨0, by omega, rfl, hd, hO5, hS5, hB5⟩
      case round =>
        clear hd hO5 hS5 hB5
        obtain ⟨k, hk, rfl, hD, hO, hW, hB⟩ := hrel
        by_cases hlt : k < 32
        · have hki : (k : Int) < 32 := by omega
          obtain ⟨j, hj⟩ : ∃ j, k / 4 = j := ⟨_, rfl⟩
          have hj8 : j < 8 := by omega
          have hdv : Int.tdiv (k : Int) 4 = (j : Int) := by rw [Int.tdiv_eq_ediv_of_nonneg (by omega)]; omega
          obtain ⟨x, hx⟩ : ∃ x, wAt r'.list j = x := ⟨_, rfl⟩
          have hxb := I_bd x
          have hcw := hW.cell j (by show j < 8; exact hj8)
          rw [hx] at hcw
          have hc := hD.cell k (by rw [digK_length _ _ hk]; omega)
          have hf := hD.frozen k
          have hs := hD.set k ((digS r').getD k 0)
          rw [digK_set r' k hlt] at hs
          have HO := Lib.hid hO
          have HW := Lib.hid hW
          have HB := Lib.hid hB
          obtain ⟨c, hkc⟩ : ∃ c, k = 4 * j + c := ⟨k - 4 * j, by omega⟩
          clear hD hO hW hB
          rcases (by omega : c = 0 ∨ c = 1 ∨ c = 2 ∨ c = 3) with rfl | rfl | rfl | rfl
          · have hmd : Int.tmod (k : Int) 4 = 0 := by rw [Int.tmod_eq_emod_of_nonneg (by omega)]; omega
            have hv : I x / 16777216 = (((digS r').getD k 0).toNat : Int) := by
              have h1 := digS_at r' j 0 hj8 (by omega)
              rw [← hkc, hx, four_val _ _ (by omega)] at h1
              unfold by8 at h1
              rw [h1]
              try simp
              try omega
            rw [← hv] at hs
            have HS := Lib.hid hs
            clear hs hv hkc hj
            go_wp2
            go_roundw
            case rel => exact ⟨k + 1, by omega, rfl, HS.out, HO.out.other _ _ (by simp; omega), HW.out.other _ _ (by simp; omega), HB.out.setCell (by simp; omega) _⟩
            case measure => simp [intOf]; omega
          · have hmd : Int.tmod (k : Int) 4 = 1 := by rw [Int.tmod_eq_emod_of_nonneg (by omega)]; omega
            have hv : I x / 65536 % 256 = (((digS r').getD k 0).toNat : Int) := by
              have h1 := digS_at r' j 1 hj8 (by omega)
              rw [← hkc, hx, four_val _ _ (by omega)] at h1
              unfold by8 at h1
              rw [h1]
              try simp
              try omega
            rw [← hv] at hs
            have HS := Lib.hid hs
            clear hs hv hkc hj
            go_wp2
            go_roundw
            case rel => exact ⟨k + 1, by omega, rfl, HS.out, HO.out.other _ _ (by simp; omega), HW.out.other _ _ (by simp; omega), HB.out.setCell (by simp; omega) _⟩
            case measure => simp [intOf]; omega
          · have hmd : Int.tmod (k : Int) 4 = 2 := by rw [Int.tmod_eq_emod_of_nonneg (by omega)]; omega
            have hv : I x / 256 % 256 = (((digS r').getD k 0).toNat : Int) := by
              have h1 := digS_at r' j 2 hj8 (by omega)
              rw [← hkc, hx, four_val _ _ (by omega)] at h1
              unfold by8 at h1
              rw [h1]
              try simp
              try omega
            rw [← hv] at hs
            have HS := Lib.hid hs
            clear hs hv hkc hj
            go_wp2
            go_roundw
            case rel => exact ⟨k + 1, by omega, rfl, HS.out, HO.out.other _ _ (by simp; omega), HW.out.other _ _ (by simp; omega), HB.out.setCell (by simp; omega) _⟩
            case measure => simp [intOf]; omega
          · have hmd : Int.tmod (k : Int) 4 = 3 := by rw [Int.tmod_eq_emod_of_nonneg (by omega)]; omega
            have hv : I x % 256 = (((digS r').getD k 0).toNat : Int) := by
              have h1 := digS_at r' j 3 hj8 (by omega)
              rw [← hkc, hx, four_val _ _ (by omega)] at h1
              unfold by8 at h1
              rw [h1]
              try simp
              try omega
            rw [← hv] at hs
            have HS := Lib.hid hs
            clear hs hv hkc hj
            go_wp2
            go_roundw
            case rel => exact ⟨k + 1, by omega, rfl, HS.out, HO.out.other _ _ (by simp; omega), HW.out.other _ _ (by simp; omega), HB.out.setCell (by simp; omega) _⟩
            case measure => simp [intOf]; omega
        · obtain rfl : k = 32 := by omega
          rw [digK_all] at hD
          have hlen := digS_length r'
          have HRL := Lib.hid (show digS r' = digS (lastS l) by rw [HRR.out])
          obtain ⟨L, hL⟩ : ∃ L, digS r' = L := ⟨_, rfl⟩
          rw [hL] at hD hlen HRL
          clear hL
          have hm := size_dig L hlen
          have hsz : (u8v L).length = 32 := by rw [u8v_length]; exact hlen
          have hst := hO.store L (by rw [hlen]; simp)
          have HCL := Lib.hid (show RowB _ w.heap.size 46 L from hO.setRow L)
          have HBN := Lib.hid (show Below w.heap.size w (wr.setRow w.heap.size (u8v L).toArray) from below_setRow hB (Nat.le_refl _) _)
          have HA := Lib.hid hD
          clear hD hO hW hB
          go_wp2_with (first
            | (refine wpList_load_row rfl 46 (.tmp 6) rfl gd rfl 46 (u8v L).toArray (0, 0) _ HA.out Tryd.underlying46 rfl hm ?_))
          refine bodyPost_ret (results_cell_row rfl _ _ w.heap.size 46 (u8v L).toArray (0, 0) _ rfl HCL.out Tryd.underlying46 rfl hm) rfl ⟨?_, HBN.out⟩
          rw [← HRL.out]
end Go.Proofs.YticcmhgahbnboaaDoor
