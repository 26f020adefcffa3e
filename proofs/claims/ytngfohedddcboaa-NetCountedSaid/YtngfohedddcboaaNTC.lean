/-
  Net: the program's Counts; nets that no call made.
-/
import Derived.Test.YtngfohedddcboaaNTB
namespace Go.Proofs.Ytngfohedddcboaa
open Go.RowKit Go Go.Sort Go.Lib Go.Maps
set_option linter.unusedVariables false
set_option maxRecDepth 20000

theorem run_results_cell {P : Program} {fn : Func} {p : Tmp} {ty : TypeId} (h : fn.results = #[.cell p ty]) (tmps : Array Value) (w : World) (g : Nat) (t : TypeId) (cs : Array Value) (fr : Nat × Nat) (d : TypeDesc)
    (hp : tmps.getD p undef = .pointer (some ⟨g, 0, none⟩)) (hg : w.heap[g]? = some (.cells cs t fr))
    (hu : P.underlying ty = some d) (hd : (match d with | .struct _ | .array _ _ => true | _ => false) = true) (hi : (P.info? ty).map (·.size) = some cs.size) :
    (results fn tmps).run P w = .ok (.agg cs) w := by
  have hp' : tmps[p]?.getD undef = .pointer (some ⟨g, 0, none⟩) := by simpa using hp
  simp [results, h, hp', asAddr, run_loadVar_row w g t ty cs fr d hg hu hd hi]

theorem sizeC4 (a b c d : Int) : (Try.prog.info? 36).map (·.size) = some (#[Value.int .i64 a, Value.int .i64 b, Value.int .i64 c, Value.int .i64 d] : Array Value).size := by kernel_rfl
/-- The first j of four, the others 0. -/
def cntJ (q : Nt) (j : Nat) : Array Value := #[.int .i64 (if 0 < j then q.c0 else 0), .int .i64 (if 1 < j then q.c1 else 0), .int .i64 (if 2 < j then q.c2 else 0), .int .i64 (if 3 < j then q.c3 else 0)]
def cntAt (q : Nt) (j : Nat) : Int := if j = 0 then q.c0 else if j = 1 then q.c1 else if j = 2 then q.c2 else q.c3
theorem cntJ_set (q : Nt) (j : Nat) (hj : j < 4) : (cntJ q j).setIfInBounds j (.int .i64 (cntAt q j)) = cntJ q (j + 1) := by
  rcases (by omega : j = 0 ∨ j = 1 ∨ j = 2 ∨ j = 3) with rfl | rfl | rfl | rfl <;> rfl
theorem cntJ_cell (q : Nt) (j : Nat) (hj : j < 4) : (cntJ q j)[j]? = some (.int .i64 0) := by
  rcases (by omega : j = 0 ∨ j = 1 ∨ j = 2 ∨ j = 3) with rfl | rfl | rfl | rfl <;> rfl
theorem NtIn.cnt {W : World} {ty : TypeId} {g : Nat} {v : Value} {q : Nt} (h : NtIn W ty g v q) (j : Nat) (hj : j < 4) : W.cell? ⟨g, 2 + j, none⟩ = some (.int .i64 (cntAt q j)) := by
  obtain ⟨-, -, h0, h1, h2, h3⟩ := h.cs
  rcases (by omega : j = 0 ∨ j = 1 ∨ j = 2 ∨ j = 3) with rfl | rfl | rfl | rfl
  · exact h0
  · exact h1
  · exact h2
  · exact h3
/-- Four cells stored, one by one. -/
theorem four_set (w : World) (R : Nat) (a b c d : Value) (cs : Array Value) (hcs : cs.size = 4) (h : w.heap[R]? = some (.cells cs 36 (0, 0))) : ((((w.setCell ⟨R, 0, none⟩ a).setCell ⟨R, 1, none⟩ b).setCell ⟨R, 2, none⟩ c).setCell ⟨R, 3, none⟩ d).heap[R]? = some (.cells #[a, b, c, d] 36 (0, 0)) := by
  rw [heap_setCell_same _ R 3 _ 36 _ (heap_setCell_same _ R 2 _ 36 _ (heap_setCell_same _ R 1 _ 36 _ (heap_setCell_same w R 0 _ 36 _ h)))]
  obtain ⟨l⟩ := cs
  match l, hcs with
  | [x0, x1, x2, x3], _ => rfl
set_option maxRecDepth 100000 in
set_option maxHeartbeats 6400000 in
theorem ncounts_c {w : World} {g : Nat} {q : Nt} {F : Nat → Prop} (hk : Nk w 56 g q F) (hm : 1 ≤ q.most) : Calls Try.prog 14 #[.pointer (some ⟨g, 0, none⟩)] w (Tells (cntV q) w) := by
  obtain ⟨v, h, -⟩ := hk
  have HH := Lib.hid h
  have hm9 := hm
  have hb0 := alloc_below w (.cells #[.int .i64 0, .int .i64 0, .int .i64 0, .int .i64 0] 36)
  have HB0 := Lib.hid hb0
  have HR0 := Lib.hid (heap_alloc_new w (.cells #[.int .i64 0, .int .i64 0, .int .i64 0, .int .i64 0] 36))
  obtain ⟨R, hR⟩ : ∃ z, w.heap.size = z := ⟨_, rfl⟩
  have HRE := Lib.hid hR
  rw [hR] at HR0
  clear h hb0
  go_enter Try.func14, Try.ntmps14
  go_upto_region 1 with (fail)
  try rw [hR]
  clear hR
  generalize w.alloc (.cells #[.int .i64 0, .int .i64 0, .int .i64 0, .int .i64 0] 36) = w1 at *
  go_upto_region 2 with (fail)
  have hb1 := alloc_below w1 (.cells #[.int .i64 0, .int .i64 0, .int .i64 0, .int .i64 0] 36)
  have HR1 := Lib.hid ((hb1.block R (Array.getElem?_eq_some_iff.1 HR0.out).1).trans HR0.out)
  have HO1 := Lib.hid (show (w1.alloc (.cells #[.int .i64 0, .int .i64 0, .int .i64 0, .int .i64 0] 36)).heap[w1.heap.size]? = some (.cells (cntJ ⟨0, [], q.c0, q.c1, q.c2, q.c3⟩ 0) 36 (0, 0)) from heap_alloc_new w1 _)
  have HB1 := Lib.hid (HB0.out.trans (hb1.mono HB0.out.size))
  have HLT := Lib.hid (show R < w1.heap.size ∧ g < R from ⟨(Array.getElem?_eq_some_iff.1 HR0.out).1, by have := HRE.out; have := HH.out.lt (.inl rfl); omega⟩)
  obtain ⟨O, hO⟩ : ∃ z, w1.heap.size = z := ⟨_, rfl⟩
  rw [hO] at HO1 HLT ⊢
  have HN1 := Lib.hid (HH.out.below HB1.out)
  clear hb1 hO HR0 HB0
  generalize w1.alloc (.cells #[.int .i64 0, .int .i64 0, .int .i64 0, .int .i64 0] 36) = w2 at *
  have HMD := Lib.hid (And.intro HN1.out.cs.1 hm9)
  clear hm9 hm
  go_upto_region 4 with (go_at_call 29; (with_reducible refine (nmade_c HMD.out.1 HMD.out.2).mono ?_); rintro e1 w1 ⟨rfl, rfl⟩)
  go_loopw [7] (fun i wr => ∃ j : Nat, j ≤ 4 ∧ i = .int .i64 (j : Int) ∧ wr.heap[O]? = some (.cells (cntJ ⟨0, [], q.c0, q.c1, q.c2, q.c3⟩ j) 36 (0, 0)) ∧ TrN (fun k => k = O) w2 wr) (fun i _ => 4 - (RowKit.intOf i).toNat)
  case atStart => exact ⟨0, by omega, rfl, HO1.out, TrN.refl⟩
  case round =>
    obtain ⟨j, hj, rfl, ho, ht⟩ := hrel
    have HO := Lib.hid ho
    have HT := Lib.hid ht
    clear ho ht
    have HNR := Lib.hid (show NtIn wr 56 g v q ∨ True from .inr trivial)
    have hbx : wr.heap[g]? = w2.heap[g]? := HT.out.block g (HN1.out.lt (.inl rfl)) (fun e => by have := HLT.out; omega)
    by_cases hlt : j < 4
    · have hjj : (j : Int) < 4 := by omega
      have hcl : wr.cell? ⟨g, 2 + j, none⟩ = some (.int .i64 (cntAt q j)) := by
        have := HN1.out.cnt j hlt
        simpa only [World.cell?, hbx] using this
      have HLD := Lib.hid (naload_c hcl)
      obtain ⟨x, hx⟩ : ∃ z, cntAt q j = z := ⟨_, rfl⟩
      have HX := Lib.hid hx
      rw [hx] at HLD
      have c1 : wr.cell? ⟨O, j, none⟩ = some (.int .i64 0) := by rw [cell_of_row wr O j _ _ (0, 0) HO.out]; exact cntJ_cell _ j hlt
      have f1 : wr.frozen? ⟨O, j, none⟩ = false := frozen_of_row wr O j _ _ HO.out
      clear hbx hcl hx HNR
      go_wp2_with (go_at_call 30; (with_reducible refine HLD.out.mono ?_); rintro e1 w1 ⟨rfl, rfl⟩)
      go_roundw
      case rel =>
        refine ⟨j + 1, by omega, by go_num, ?_, HT.out.set (.inl rfl)⟩
        rw [heap_setCell_same wr O j _ _ _ HO.out, ← HX.out]
        congr 2
        exact cntJ_set ⟨0, [], q.c0, q.c1, q.c2, q.c3⟩ j hlt
      case measure => simp [RowKit.intOf]; omega
    · obtain rfl : j = 4 := by omega
      have hoo : wr.heap[O]? = some (.cells #[.int .i64 q.c0, .int .i64 q.c1, .int .i64 q.c2, .int .i64 q.c3] 36 (0, 0)) := HO.out
      have d0 : wr.cell? ⟨O, 0, none⟩ = some (.int .i64 q.c0) := by rw [cell_of_row wr O 0 _ _ (0, 0) hoo]; rfl
      have d1 : wr.cell? ⟨O, 1, none⟩ = some (.int .i64 q.c1) := by rw [cell_of_row wr O 1 _ _ (0, 0) hoo]; rfl
      have d2 : wr.cell? ⟨O, 2, none⟩ = some (.int .i64 q.c2) := by rw [cell_of_row wr O 2 _ _ (0, 0) hoo]; rfl
      have d3 : wr.cell? ⟨O, 3, none⟩ = some (.int .i64 q.c3) := by rw [cell_of_row wr O 3 _ _ (0, 0) hoo]; rfl
      have hrr := HT.out.heap HR1.out (fun e => by have := HLT.out; omega)
      have HRR := Lib.hid hrr
      have r0 : wr.cell? ⟨R, 0, none⟩ = some (.int .i64 0) := by rw [cell_of_row wr R 0 _ _ (0, 0) hrr]; rfl
      have r1 : wr.cell? ⟨R, 1, none⟩ = some (.int .i64 0) := by rw [cell_of_row wr R 1 _ _ (0, 0) hrr]; rfl
      have r2 : wr.cell? ⟨R, 2, none⟩ = some (.int .i64 0) := by rw [cell_of_row wr R 2 _ _ (0, 0) hrr]; rfl
      have r3 : wr.cell? ⟨R, 3, none⟩ = some (.int .i64 0) := by rw [cell_of_row wr R 3 _ _ (0, 0) hrr]; rfl
      have f0 := frozen_of_row wr R 0 _ _ hrr
      have f1 := frozen_of_row wr R 1 _ _ hrr
      have f2 := frozen_of_row wr R 2 _ _ hrr
      have f3 := frozen_of_row wr R 3 _ _ hrr
      clear hoo hrr hbx HNR
      go_wp2
      refine bodyPost_ret (run_results_cell rfl _ _ R 36 _ (0, 0) _ rfl (four_set wr R _ _ _ _ _ rfl HRR.out) Try.underlying36 rfl (sizeC4 _ _ _ _)) rfl ⟨by rfl, ?_⟩
      have h1 := HB1.out.trans (HT.out.base (B := w.heap.size) HB1.out.size (fun k hk => by have := HLT.out; have := HRE.out; omega))
      exact (((h1.setCell (p := ⟨R, 0, none⟩) (Nat.le_of_eq HRE.out) _).setCell (p := ⟨R, 1, none⟩) (Nat.le_of_eq HRE.out) _).setCell (p := ⟨R, 2, none⟩) (Nat.le_of_eq HRE.out) _).setCell (p := ⟨R, 3, none⟩) (Nat.le_of_eq HRE.out) _

/-- A net that no call made: nil, or the zero net. -/
def UnN (w : World) (p : Value) : Prop := p = .pointer none ∨ ∃ g, p = .pointer (some ⟨g, 0, none⟩) ∧ g < w.heap.size ∧ w.cell? ⟨g, 0, none⟩ = some (.int .i64 0)
theorem UnN.below {w W : World} {p : Value} (h : UnN w p) (hb : Below w.heap.size w W) : UnN W p := by
  rcases h with h | ⟨g, h1, h2, h3⟩
  · exact .inl h
  · exact .inr ⟨g, h1, Nat.lt_of_lt_of_le h2 hb.size, (hb.cell h2).trans h3⟩
theorem un_made {w : World} {p : Value} (h : UnN w p) : Calls Try.prog 29 #[p] w (fun e w' => e = .returned (.bool false) ∧ w = w') := by
  rcases h with rfl | ⟨g, rfl, h2, h3⟩
  · exact nmade_nil w
  · exact nmade_un h3
set_option maxHeartbeats 1600000 in
theorem un_send {w : World} {p : Value} (h : UnN w p) (frm : Int) (a : Option Addr) (n cap : Nat) : Calls Try.prog 16 #[p, .int .i64 frm, .slice a n cap] w (Tells (.int .i64 1) w) := by
  have HU := Lib.hid h
  clear h
  go_enter Try.func16, Try.ntmps16
  go_wp2_with (go_at_call 29; (with_reducible refine (un_made HU.out).mono ?_); rintro e1 w1 ⟨rfl, rfl⟩)
  go_ret
  exact ⟨rfl, Below.refl _ _⟩
set_option maxHeartbeats 1600000 in
theorem un_len {w : World} {p : Value} (h : UnN w p) : Calls Try.prog 15 #[p] w (Tells (.int .i64 0) w) := by
  have HU := Lib.hid h
  clear h
  go_enter Try.func15, Try.ntmps15
  go_wp2_with (go_at_call 29; (with_reducible refine (un_made HU.out).mono ?_); rintro e1 w1 ⟨rfl, rfl⟩)
  go_ret
  exact ⟨rfl, Below.refl _ _⟩
set_option maxHeartbeats 1600000 in
theorem un_look {w : World} {p : Value} (h : UnN w p) (i : Int) : Calls Try.prog 20 #[p, .int .i64 i] w (Tells (.tuple #[.agg #[.int .i64 0, .string ⟨#[]⟩], .int .i64 1]) w) := by
  have HB := Lib.hid (alloc_below w (.cells #[.int .i64 0, .string ⟨#[]⟩] 43))
  have HP := Lib.hid (show PkB (w.alloc (.cells #[.int .i64 0, .string ⟨#[]⟩] 43)) w.heap.size Pk.zero from heap_alloc_new w _)
  have HU := Lib.hid (h.below HB.out)
  obtain ⟨B, hB⟩ : ∃ z, w.heap.size = z := ⟨_, rfl⟩
  have HSB := Lib.hid hB
  rw [hB] at HP
  clear h
  go_enter Try.func20, Try.ntmps20
  go_upto_region 1 with (fail)
  try rw [hB]
  clear hB
  generalize w.alloc (.cells #[.int .i64 0, .string ⟨#[]⟩] 43) = W1 at *
  have z0 := HP.out.c0
  have z1 := HP.out.c1
  have f0 := HP.out.fz 0
  have f1 := HP.out.fz 1
  simp only [Pk.zero] at z0 z1
  go_wp2_with (go_at_call 29; (with_reducible refine (un_made HU.out).mono ?_); rintro e1 w1 ⟨rfl, rfl⟩)
  refine bodyPost_ret (res_cell_tmp rfl _ _ B 43 _ (0, 0) _ _ rfl rfl (HP.out.set Pk.zero) Try.underlying43 rfl (sizePk Pk.zero)) rfl ⟨by rfl, ?_⟩
  exact (HB.out.setCell (p := ⟨B, 0, none⟩) (Nat.le_of_eq HSB.out) _).setCell (p := ⟨B, 1, none⟩) (Nat.le_of_eq HSB.out) _
set_option maxHeartbeats 1600000 in
theorem un_rem {w : World} {p : Value} (h : UnN w p) (i kd : Int) : Calls Try.prog 32 #[p, .int .i64 i, .int .i64 kd] w (Tells (.tuple #[.agg #[.int .i64 0, .string ⟨#[]⟩], .int .i64 1]) w) := by
  have HB := Lib.hid (alloc_below w (.cells #[.int .i64 0, .string ⟨#[]⟩] 43))
  have HP := Lib.hid (show PkB (w.alloc (.cells #[.int .i64 0, .string ⟨#[]⟩] 43)) w.heap.size Pk.zero from heap_alloc_new w _)
  have HU := Lib.hid (un_look (h.below HB.out) i)
  obtain ⟨B, hB⟩ : ∃ z, w.heap.size = z := ⟨_, rfl⟩
  have HSB := Lib.hid hB
  rw [hB] at HP
  clear h
  go_enter Try.func32, Try.ntmps32
  go_upto_region 1 with (fail)
  try rw [hB]
  clear hB
  generalize w.alloc (.cells #[.int .i64 0, .string ⟨#[]⟩] 43) = W1 at *
  go_upto_region 2 with (go_at_call 20; (with_reducible refine HU.out.mono ?_); rintro e1 w1 ⟨rfl, hb1⟩)
  have hb2 := hb1.trans ((alloc_below w1 (.cells #[.int .i64 0, .string ⟨#[]⟩] 43)).mono hb1.size)
  have HB8 := Lib.hid (HB.out.trans (hb2.mono HB.out.size))
  have HP0 := Lib.hid (HP.out.kept hb2)
  clear hb1 hb2
  generalize w1.alloc (.cells #[.int .i64 0, .string ⟨#[]⟩] 43) = w8 at *
  have z0 := HP0.out.c0
  have z1 := HP0.out.c1
  have f0 := HP0.out.fz 0
  have f1 := HP0.out.fz 1
  simp only [Pk.zero] at z0 z1
  go_wp2
  have HFB : Below w.heap.size w ((w8.setCell ⟨B, 0, none⟩ (.int .i64 0)).setCell ⟨B, 1, none⟩ (.string ⟨#[]⟩)) := (HB8.out.setCell (p := ⟨B, 0, none⟩) (Nat.le_of_eq HSB.out) _).setCell (p := ⟨B, 1, none⟩) (Nat.le_of_eq HSB.out) _
  exact bodyPost_ret (res_cell_tmp rfl _ _ B 43 _ (0, 0) _ _ rfl rfl (HP0.out.set Pk.zero) Try.underlying43 rfl (sizePk Pk.zero)) rfl ⟨by rfl, HFB⟩
set_option maxHeartbeats 1600000 in
theorem un_take {w : World} {p : Value} (h : UnN w p) (i : Int) : Calls Try.prog 17 #[p, .int .i64 i] w (Tells (.tuple #[.agg #[.int .i64 0, .string ⟨#[]⟩], .int .i64 1]) w) := by
  have HB := Lib.hid (alloc_below w (.cells #[.int .i64 0, .string ⟨#[]⟩] 43))
  have HP := Lib.hid (show PkB (w.alloc (.cells #[.int .i64 0, .string ⟨#[]⟩] 43)) w.heap.size Pk.zero from heap_alloc_new w _)
  have HU := Lib.hid (un_rem (h.below HB.out) i 1)
  obtain ⟨B, hB⟩ : ∃ z, w.heap.size = z := ⟨_, rfl⟩
  have HSB := Lib.hid hB
  rw [hB] at HP
  clear h
  go_enter Try.func17, Try.ntmps17
  go_upto_region 1 with (fail)
  try rw [hB]
  clear hB
  generalize w.alloc (.cells #[.int .i64 0, .string ⟨#[]⟩] 43) = W1 at *
  go_wp2_with (go_at_call 32; (with_reducible refine HU.out.mono ?_); rintro e1 w8 ⟨rfl, hb1⟩; have HB8 := Lib.hid (HB.out.trans (hb1.mono HB.out.size)); have HP0 := Lib.hid (HP.out.kept hb1); clear hb1; have z0 := HP0.out.c0; have z1 := HP0.out.c1; have f0 := HP0.out.fz 0; have f1 := HP0.out.fz 1; simp only [Pk.zero] at z0 z1)
  have HFB : Below w.heap.size w ((w8.setCell ⟨B, 0, none⟩ (.int .i64 0)).setCell ⟨B, 1, none⟩ (.string ⟨#[]⟩)) := (HB8.out.setCell (p := ⟨B, 0, none⟩) (Nat.le_of_eq HSB.out) _).setCell (p := ⟨B, 1, none⟩) (Nat.le_of_eq HSB.out) _
  exact bodyPost_ret (res_cell_tmp rfl _ _ B 43 _ (0, 0) _ _ rfl rfl (HP0.out.set Pk.zero) Try.underlying43 rfl (sizePk Pk.zero)) rfl ⟨by rfl, HFB⟩
set_option maxHeartbeats 1600000 in
theorem un_drop {w : World} {p : Value} (h : UnN w p) (i : Int) : Calls Try.prog 21 #[p, .int .i64 i] w (Tells (.int .i64 1) w) := by
  have HU := Lib.hid (un_rem h i 2)
  clear h
  go_enter Try.func21, Try.ntmps21
  go_wp2_with (go_at_call 32; (with_reducible refine HU.out.mono ?_); rintro e1 w1 ⟨rfl, hb1⟩; have HB1 := Lib.hid hb1; clear hb1)
  go_ret
  exact ⟨rfl, HB1.out.trans ((alloc_below w1 _).mono HB1.out.size)⟩
set_option maxHeartbeats 1600000 in
theorem un_twice {w : World} {p : Value} (h : UnN w p) (i : Int) : Calls Try.prog 18 #[p, .int .i64 i] w (Tells (.int .i64 1) w) := by
  have HU := Lib.hid (un_look h i)
  clear h
  go_enter Try.func18, Try.ntmps18
  go_wp2_with (go_at_call 20; (with_reducible refine HU.out.mono ?_); rintro e1 w1 ⟨rfl, hb1⟩; have HB1 := Lib.hid hb1; clear hb1)
  go_ret
  exact ⟨rfl, HB1.out.trans ((alloc_below w1 _).mono HB1.out.size)⟩
set_option maxHeartbeats 1600000 in
theorem un_turn {w : World} {p : Value} (h : UnN w p) (i at9 z : Int) : Calls Try.prog 19 #[p, .int .i64 i, .int .i64 at9, .int .u8 z] w (Tells (.int .i64 1) w) := by
  have HU := Lib.hid (un_look h i)
  clear h
  go_enter Try.func19, Try.ntmps19
  go_wp2_with (go_at_call 20; (with_reducible refine HU.out.mono ?_); rintro e1 w1 ⟨rfl, hb1⟩; have HB1 := Lib.hid hb1; clear hb1)
  go_ret
  exact ⟨rfl, HB1.out.trans ((alloc_below w1 _).mono HB1.out.size)⟩
set_option maxHeartbeats 3200000 in
theorem un_counts {w : World} {p : Value} (h : UnN w p) : Calls Try.prog 14 #[p] w (Tells (.agg #[.int .i64 0, .int .i64 0, .int .i64 0, .int .i64 0]) w) := by
  have HB0 := Lib.hid (alloc_below w (.cells #[.int .i64 0, .int .i64 0, .int .i64 0, .int .i64 0] 36))
  have HR0 := Lib.hid (heap_alloc_new w (.cells #[.int .i64 0, .int .i64 0, .int .i64 0, .int .i64 0] 36))
  have HU0 := Lib.hid (h.below HB0.out)
  obtain ⟨R, hR⟩ : ∃ z, w.heap.size = z := ⟨_, rfl⟩
  have HRE := Lib.hid hR
  rw [hR] at HR0
  clear h
  go_enter Try.func14, Try.ntmps14
  go_upto_region 1 with (fail)
  try rw [hR]
  clear hR
  generalize w.alloc (.cells #[.int .i64 0, .int .i64 0, .int .i64 0, .int .i64 0] 36) = w1 at *
  go_upto_region 2 with (fail)
  have hb1 := alloc_below w1 (.cells #[.int .i64 0, .int .i64 0, .int .i64 0, .int .i64 0] 36)
  have HRR := Lib.hid ((hb1.block R (Array.getElem?_eq_some_iff.1 HR0.out).1).trans HR0.out)
  have HO1 := Lib.hid (heap_alloc_new w1 (.cells #[.int .i64 0, .int .i64 0, .int .i64 0, .int .i64 0] 36))
  have HB1 := Lib.hid (HB0.out.trans (hb1.mono HB0.out.size))
  have HU := Lib.hid (HU0.out.below hb1)
  obtain ⟨O, hO⟩ : ∃ z, w1.heap.size = z := ⟨_, rfl⟩
  rw [hO] at HO1 ⊢
  clear hb1 hO HR0 HB0 HU0
  generalize w1.alloc (.cells #[.int .i64 0, .int .i64 0, .int .i64 0, .int .i64 0] 36) = wr at *
  have d0 : wr.cell? ⟨O, 0, none⟩ = some (.int .i64 0) := by rw [cell_of_row wr O 0 _ _ (0, 0) HO1.out]; rfl
  have d1 : wr.cell? ⟨O, 1, none⟩ = some (.int .i64 0) := by rw [cell_of_row wr O 1 _ _ (0, 0) HO1.out]; rfl
  have d2 : wr.cell? ⟨O, 2, none⟩ = some (.int .i64 0) := by rw [cell_of_row wr O 2 _ _ (0, 0) HO1.out]; rfl
  have d3 : wr.cell? ⟨O, 3, none⟩ = some (.int .i64 0) := by rw [cell_of_row wr O 3 _ _ (0, 0) HO1.out]; rfl
  have r0 : wr.cell? ⟨R, 0, none⟩ = some (.int .i64 0) := by rw [cell_of_row wr R 0 _ _ (0, 0) HRR.out]; rfl
  have r1 : wr.cell? ⟨R, 1, none⟩ = some (.int .i64 0) := by rw [cell_of_row wr R 1 _ _ (0, 0) HRR.out]; rfl
  have r2 : wr.cell? ⟨R, 2, none⟩ = some (.int .i64 0) := by rw [cell_of_row wr R 2 _ _ (0, 0) HRR.out]; rfl
  have r3 : wr.cell? ⟨R, 3, none⟩ = some (.int .i64 0) := by rw [cell_of_row wr R 3 _ _ (0, 0) HRR.out]; rfl
  have f0 := frozen_of_row wr R 0 _ _ HRR.out
  have f1 := frozen_of_row wr R 1 _ _ HRR.out
  have f2 := frozen_of_row wr R 2 _ _ HRR.out
  have f3 := frozen_of_row wr R 3 _ _ HRR.out
  go_wp2_with (go_at_call 29; (with_reducible refine (un_made HU.out).mono ?_); rintro e1 w1 ⟨rfl, rfl⟩)
  refine bodyPost_ret (run_results_cell rfl _ _ R 36 _ (0, 0) _ rfl (four_set wr R _ _ _ _ _ rfl HRR.out) Try.underlying36 rfl (sizeC4 _ _ _ _)) rfl ⟨by rfl, ?_⟩
  exact (((HB1.out.setCell (p := ⟨R, 0, none⟩) (Nat.le_of_eq HRE.out) _).setCell (p := ⟨R, 1, none⟩) (Nat.le_of_eq HRE.out) _).setCell (p := ⟨R, 2, none⟩) (Nat.le_of_eq HRE.out) _).setCell (p := ⟨R, 3, none⟩) (Nat.le_of_eq HRE.out) _
end Go.Proofs.Ytngfohedddcboaa
