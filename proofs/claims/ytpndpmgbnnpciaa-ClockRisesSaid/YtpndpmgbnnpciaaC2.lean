/-
  Clock: Tick, Meet, Last, Told of the program; Tick and Meet of the reference.
-/
import Derived.Test.YtpndpmgbnnpciaaC1
namespace Go.Proofs.Ytpndpmgbnnpciaa
open Go.RowKit Go Go.Sort
set_option linter.unusedVariables false
set_option maxRecDepth 20000

/-- Of what was there nothing but one block has turned. -/
def But (g : Nat) (w w' : World) : Prop := w.grownBy w' (some g)
section
variable {g : Nat} {w w' w'' : World}
theorem But.of (h : Below w.heap.size w w') : But g w w' := ⟨h.os, h.tape, h.output, h.size, fun k hk _ => h.block k hk⟩
theorem But.trans (h : But g w w') (h' : But g w' w'') : But g w w'' :=
  ⟨h'.os.trans h.os, h'.tape.trans h.tape, h'.output.trans h.output, Nat.le_trans h.size h'.size, fun k hk hne => (h'.block k (Nat.lt_of_lt_of_le hk h.size) hne).trans (h.block k hk hne)⟩
theorem But.set (h : But g w w') (i : Nat) (v : Value) : But g w (w'.setCell ⟨g, i, none⟩ v) :=
  ⟨h.os, h.tape, h.output, by rw [World.size_setCell]; exact h.size, fun k hk hne => (heap_setCell_other w' ⟨g, i, none⟩ k v (by simpa using hne)).trans (h.block k hk hne)⟩
theorem But.new (h : But g w w') {p : Addr} (hp : w.heap.size ≤ p.block) (v : Value) : But g w (w'.setCell p v) :=
  ⟨h.os, h.tape, h.output, by rw [World.size_setCell]; exact h.size, fun k hk hne => (heap_setCell_other w' p k v (by omega)).trans (h.block k hk hne)⟩
theorem But.alloc (h : But g w w') (o : Obj) : But g w (w'.alloc o) := h.trans (But.of (alloc_below w' o))
theorem But.base {B : Nat} (h : But g w w') (hg : B ≤ g) (hB : B ≤ w.heap.size) : Below B w w' :=
  ⟨h.os, h.tape, h.output, h.size, fun k hk => h.block k (by omega) (by simp; omega)⟩
theorem Clk.but {k : Nat} {ty : TypeId} {a b c d : Int} (h : Clk w k ty a b c d) (hb : But g w w') (hne : k ≠ g) : Clk w' k ty a b c d := (hb.block k h.lt (by simpa using hne)).trans h
end
def tickN (n s t now a : Int) : Int × Int × Int := if (snext n s now a).2 = 0 then ((snext n s now a).1.1, (snext n s now a).1.2, t + 1) else (n, s, t)
def meetN (n s x y : Int) : Int × Int := if sgood x y = true then laterS [(n, s), (x, y)] else (n, s)
def TickPost (ty : TypeId) (g : Nat) (a n s t now : Int) (w : World) (e : Ending) (w' : World) : Prop :=
  e = .returned (.tuple #[.agg #[.int .i64 (snext n s now a).1.1, .int .i64 (snext n s now a).1.2], .int .i64 (snext n s now a).2]) ∧ Clk w' g ty a (tickN n s t now a).1 (tickN n s t now a).2.1 (tickN n s t now a).2.2 ∧ But g w w'
def MeetPost (ty : TypeId) (g : Nat) (a n s t x y : Int) (w : World) (e : Ending) (w' : World) : Prop :=
  e = .returned (.int .i64 (if sgood x y = true then 0 else 2)) ∧ Clk w' g ty a (meetN n s x y).1 (meetN n s x y).2 t ∧ But g w w'

set_option maxHeartbeats 1600000 in
theorem aadd_c {w : World} {g i : Nat} {t : Int} (hc : w.cell? ⟨g, i, none⟩ = some (.int .i64 t)) (hf : w.frozen? ⟨g, i, none⟩ = false) (h0 : 0 ≤ t) (h1 : t ≤ 4611686018427387904) :
    Calls Try.prog 79 #[.pointer (some ⟨g, i, none⟩), .int .i64 1] w (fun e w' => e = .returned (.int .i64 (t + 1)) ∧ w' = w.setCell ⟨g, i, none⟩ (.int .i64 (t + 1))) := by
  have hs : (Op.intArith .add .i64 t 1).run Try.prog w = .ok (.int .i64 (t + 1)) w := by
    have hw : IntKind.i64.wrap (t + 1) = t + 1 := by rw [IntKind.wrap_i64]; omega
    simp [go_sem, Op.intArith, hw]
  have hadd := run_call_add (P := Try.prog) Try.func91 (by kernel_rfl) (by kernel_rfl) (by kernel_rfl) .i64 (by kernel_rfl) hc hf hs
  go_enter Try.func79, Try.ntmps79
  go_wp2
  go_ret
  exact ⟨rfl, rfl⟩
theorem aload_c {w : World} {g i : Nat} {t : Int} (hc : w.cell? ⟨g, i, none⟩ = some (.int .i64 t)) :
    Calls Try.prog 85 #[.pointer (some ⟨g, i, none⟩)] w (fun e w' => e = .returned (.int .i64 t) ∧ w' = w) := by
  have hl := run_call_load (P := Try.prog) Try.func93 (by kernel_rfl) (by kernel_rfl) (by kernel_rfl) .i64 (by kernel_rfl) hc
  go_enter Try.func85, Try.ntmps85
  go_wp2
  go_ret
  exact ⟨rfl, rfl⟩

-- Told, Last
theorem cktold_nil (w : World) : Calls Try.prog 50 #[.pointer none] w (Tells (.int .i64 0) w) := by
  go_enter Try.func50, Try.ntmps50
  go_wp2_with (go_at_call 80; (with_reducible refine (ckmade_nil _).mono ?_); rintro e1 w1 ⟨rfl, rfl⟩)
  go_ret
  exact ⟨rfl, Below.refl _ _⟩
theorem cktold_un {w : World} {g : Nat} {n s t : Int} (h : Clk w g 96 0 n s t) : Calls Try.prog 50 #[.pointer (some ⟨g, 0, none⟩)] w (Tells (.int .i64 0) w) := by
  have HK := Lib.hid h
  clear h
  go_enter Try.func50, Try.ntmps50
  go_wp2_with (go_at_call 80; (with_reducible refine (ckmade_c HK.out false rfl).mono ?_); rintro e1 w1 ⟨rfl, rfl⟩)
  go_ret
  exact ⟨rfl, Below.refl _ _⟩
theorem cktold_c {w : World} {g : Nat} {a n s t : Int} (h : Clk w g 96 a n s t) (ha : (a != 0) = true) : Calls Try.prog 50 #[.pointer (some ⟨g, 0, none⟩)] w (Tells (.int .i64 t) w) := by
  obtain ⟨c0, c1, c2, c3⟩ := h.cs
  have HK := Lib.hid h
  have HA := Lib.hid ha
  have HL := Lib.hid (aload_c c3)
  clear h ha c3
  go_enter Try.func50, Try.ntmps50
  go_wp2_with (first
    | (go_at_call 80; (with_reducible refine (ckmade_c HK.out true HA.out).mono ?_); rintro e1 w1 ⟨rfl, rfl⟩)
    | (go_at_call 85; (with_reducible refine HL.out.mono ?_); rintro e2 w2 ⟨rfl, rfl⟩))
  go_ret
  exact ⟨rfl, Below.refl _ _⟩
theorem run_results_cell {P : Program} {fn : Func} {p : Tmp} {ty : TypeId} (h : fn.results = #[.cell p ty]) (tmps : Array Value) (w : World) (g : Nat) (t : TypeId) (cs : Array Value) (fr : Nat × Nat) (d : TypeDesc)
    (hp : tmps.getD p undef = .pointer (some ⟨g, 0, none⟩)) (hg : w.heap[g]? = some (.cells cs t fr))
    (hu : P.underlying ty = some d) (hd : (match d with | .struct _ | .array _ _ => true | _ => false) = true) (hi : (P.info? ty).map (·.size) = some cs.size) :
    (results fn tmps).run P w = .ok (.agg cs) w := by
  have hp' : tmps[p]?.getD undef = .pointer (some ⟨g, 0, none⟩) := by simpa using hp
  simp [results, h, hp', asAddr, run_loadVar_row w g t ty cs fr d hg hu hd hi]
set_option maxHeartbeats 1600000 in
theorem cklast_nil (w : World) : Calls Try.prog 49 #[.pointer none] w (Tells (.agg #[.int .i64 0, .int .i64 0]) w) := by
  have HO := Lib.hid (Pair.new w 66 0 0)
  have HB := Lib.hid (alloc_below w (.cells #[.int .i64 0, .int .i64 0] 66))
  have z0 := HO.out.c0
  have z1 := HO.out.c1
  have f0 := HO.out.fz 0
  have f1 := HO.out.fz 1
  go_enter Try.func49, Try.ntmps49
  go_wp2_with (go_at_call 80; (with_reducible refine (ckmade_nil _).mono ?_); rintro e1 w1 ⟨rfl, rfl⟩)
  refine bodyPost_ret (run_results_cell rfl _ _ w.heap.size 66 _ (0, 0) _ rfl HO.out Try.underlying66 rfl (size2s _ _)) rfl ⟨by rfl, HB.out⟩
set_option maxHeartbeats 1600000 in
theorem cklast_un {w : World} {g : Nat} {n s t : Int} (h : Clk w g 96 0 n s t) : Calls Try.prog 49 #[.pointer (some ⟨g, 0, none⟩)] w (Tells (.agg #[.int .i64 0, .int .i64 0]) w) := by
  have HO := Lib.hid (Pair.new w 66 0 0)
  have HB := Lib.hid (alloc_below w (.cells #[.int .i64 0, .int .i64 0] 66))
  have HK := Lib.hid (h.kept HB.out)
  clear h
  have z0 := HO.out.c0
  have z1 := HO.out.c1
  have f0 := HO.out.fz 0
  have f1 := HO.out.fz 1
  go_enter Try.func49, Try.ntmps49
  go_wp2_with (go_at_call 80; (with_reducible refine (ckmade_c HK.out false rfl).mono ?_); rintro e1 w1 ⟨rfl, rfl⟩)
  refine bodyPost_ret (run_results_cell rfl _ _ w.heap.size 66 _ (0, 0) _ rfl HO.out Try.underlying66 rfl (size2s _ _)) rfl ⟨by rfl, HB.out⟩
set_option maxHeartbeats 1600000 in
theorem cklast_c {w : World} {g : Nat} {a n s t : Int} (h : Clk w g 96 a n s t) (ha : (a != 0) = true) : Calls Try.prog 49 #[.pointer (some ⟨g, 0, none⟩)] w (Tells (.agg #[.int .i64 n, .int .i64 s]) w) := by
  have HO := Lib.hid (Pair.new w 66 0 0)
  have HB := Lib.hid (alloc_below w (.cells #[.int .i64 0, .int .i64 0] 66))
  have HK := Lib.hid (h.kept HB.out)
  have HA := Lib.hid ha
  clear h ha
  go_enter Try.func49, Try.ntmps49
  go_upto_region 3 with (go_at_call 80; (with_reducible refine (ckmade_c HK.out true HA.out).mono ?_); rintro e1 w1 ⟨rfl, rfl⟩)
  obtain ⟨B, hB⟩ : ∃ q, w.heap.size = q := ⟨_, rfl⟩
  have HSB := Lib.hid hB
  rw [hB] at HO ⊢
  clear hB
  generalize w.alloc (.cells #[.int .i64 0, .int .i64 0] 66) = W1 at *
  obtain ⟨c0, c1, c2, c3⟩ := HK.out.cs
  have z0 := HO.out.c0
  have z1 := HO.out.c1
  have f0 := HO.out.fz 0
  have f1 := HO.out.fz 1
  go_wp2
  refine bodyPost_ret (run_results_cell rfl _ _ B 66 _ (0, 0) _ rfl ((HO.out.set0 n).set1 s) Try.underlying66 rfl (size2s _ _)) rfl ⟨by rfl, (HB.out.setCell (Nat.le_of_eq HSB.out) _).setCell (Nat.le_of_eq HSB.out) _⟩

set_option maxRecDepth 100000 in
set_option maxHeartbeats 3200000 in
theorem cktick_c {w : World} {g : Nat} {a n s t : Int} (h : Clk w g 96 a n s t) (now : Int) (h0 : 0 ≤ t) (h1 : t ≤ 4611686018427387904) (ha : (a != 0) = true) : Calls Try.prog 43 #[.pointer (some ⟨g, 0, none⟩), .int .i64 now] w (TickPost 96 g a n s t now w) := by
  have hb := alloc_below w (.cells #[.int .i64 0, .int .i64 0] 66)
  have ho := Pair.new w 66 0 0
  have hk := h.kept hb
  have hn := fun W (hc : Clk W g 96 a n s t) => ckpeek_c hc now ha
  have htk : tickN n s t now a = if (snext n s now a).2 = 0 then ((snext n s now a).1.1, (snext n s now a).1.2, t + 1) else (n, s, t) := rfl
  have hlt := h.lt
  unfold TickPost
  obtain ⟨⟨⟨p, q⟩, f⟩, hx⟩ : ∃ r, snext n s now a = r := ⟨_, rfl⟩
  simp only [hx] at hn htk ⊢
  rw [htk]
  have HN := Lib.hid hn
  have HO := Lib.hid ho
  have HB := Lib.hid hb
  have HK := Lib.hid hk
  have H0 := Lib.hid h0
  have H1 := Lib.hid h1
  have HLT := Lib.hid hlt
  clear hn ho hb hk h hx h0 h1 ha htk hlt
  by_cases hf : f = 0
  · subst hf
    rw [if_pos rfl]
    go_enter Try.func43, Try.ntmps43
    go_upto_region 1 with (fail)
    obtain ⟨B, hB⟩ : ∃ q, w.heap.size = q := ⟨_, rfl⟩
    have HSB := Lib.hid hB
    rw [hB] at HO HLT ⊢
    clear hB
    generalize w.alloc (.cells #[.int .i64 0, .int .i64 0] 66) = W1 at *
    go_upto_region 2 with (go_at_call 47; (with_reducible refine (HN.out _ HK.out).mono ?_); rintro e1 w1 ⟨rfl, hb1⟩)
    have hb2 := hb1.trans ((alloc_below w1 (.cells #[.int .i64 p, .int .i64 q] 66)).mono hb1.size)
    have HB2 := Lib.hid (HB.out.trans (hb2.mono HB.out.size))
    have HO2 := Lib.hid (HO.out.kept hb2)
    have HK2 := Lib.hid (HK.out.kept hb2)
    have hl := Pair.new w1 66 p q
    obtain ⟨gl, hgl⟩ : ∃ q, w1.heap.size = q := ⟨_, rfl⟩
    have HGL := Lib.hid (show B < gl ∧ w.heap.size ≤ gl ∧ g ≠ gl from by
      have h1 := HO.out.lt
      have h2 := hb1.size
      have h3 := HLT.out
      have h4 := HSB.out
      refine ⟨by omega, by omega, by omega⟩)
    rw [hgl] at hl ⊢
    have HL := Lib.hid hl
    clear hgl hl hb1 hb2
    generalize w1.alloc (.cells #[.int .i64 p, .int .i64 q] 66) = W2 at *
    obtain ⟨c0, c1, c2, c3⟩ := HK2.out.cs
    have z1 := HK2.out.fz 1
    have z2 := HK2.out.fz 2
    have l0 := HL.out.c0
    have l1 := HL.out.c1
    go_upto_region 4 with (fail)
    have hk3 := (HK2.out.set1 p).set2 q
    have ho3 := (HO2.out.other ⟨g, 1, none⟩ (.int .i64 p) (by have := HLT.out; simp; omega)).other ⟨g, 2, none⟩ (.int .i64 q) (by have := HLT.out; simp; omega)
    have hl3 := (HL.out.other ⟨g, 1, none⟩ (.int .i64 p) (by have := HGL.out.2.2; simp; omega)).other ⟨g, 2, none⟩ (.int .i64 q) (by have := HGL.out.2.2; simp; omega)
    have HBT := Lib.hid (((But.of (g := g) HB2.out).set 1 (.int .i64 p)).set 2 (.int .i64 q))
    clear c0 c1 c2 c3 z1 z2 l0 l1
    generalize (W2.setCell ⟨g, 1, none⟩ (.int .i64 p)).setCell ⟨g, 2, none⟩ (.int .i64 q) = W3 at *
    have HK3 := Lib.hid hk3
    have HO3 := Lib.hid ho3
    have HL3 := Lib.hid hl3
    clear hk3 ho3 hl3
    go_upto_region 5 with (go_at_call 79; (with_reducible refine (aadd_c HK3.out.cs.2.2.2 (HK3.out.fz 3) H0.out H1.out).mono ?_); rintro e2 w2 ⟨rfl, rfl⟩)
    have hk4 := HK3.out.set3 (t + 1)
    have ho4 := HO3.out.other ⟨g, 3, none⟩ (.int .i64 (t + 1)) (by have := HLT.out; simp; omega)
    have hl4 := HL3.out.other ⟨g, 3, none⟩ (.int .i64 (t + 1)) (by have := HGL.out.2.2; simp; omega)
    have HBT4 := Lib.hid (HBT.out.set 3 (.int .i64 (t + 1)))
    clear HBT
    generalize W3.setCell ⟨g, 3, none⟩ (.int .i64 (t + 1)) = W4 at *
    have HK4 := Lib.hid hk4
    have HO4 := Lib.hid ho4
    have l0 := hl4.c0
    have l1 := hl4.c1
    have z0 := HO4.out.c0
    have z1 := HO4.out.c1
    have f0 := HO4.out.fz 0
    have f1 := HO4.out.fz 1
    clear hk4 ho4 hl4
    go_wp2
    refine bodyPost_ret (res_cell_tmp rfl _ _ B 66 _ (0, 0) _ _ rfl rfl ((HO4.out.set0 p).set1 q) Try.underlying66 rfl (size2s _ _)) rfl ⟨by rfl, (HK4.out.other _ _ (by have := HLT.out; simp; omega)).other _ _ (by have := HLT.out; simp; omega), (HBT4.out.new (Nat.le_of_eq HSB.out) _).new (Nat.le_of_eq HSB.out) _⟩
  · have e0 : (f == 0) = false := by simpa using hf
    rw [if_neg hf]
    clear hf
    go_enter Try.func43, Try.ntmps43
    go_upto_region 1 with (fail)
    obtain ⟨B, hB⟩ : ∃ q, w.heap.size = q := ⟨_, rfl⟩
    have HSB := Lib.hid hB
    rw [hB] at HO HLT ⊢
    clear hB
    generalize w.alloc (.cells #[.int .i64 0, .int .i64 0] 66) = W1 at *
    go_upto_region 2 with (go_at_call 47; (with_reducible refine (HN.out _ HK.out).mono ?_); rintro e1 w1 ⟨rfl, hb1⟩)
    have hb2 := hb1.trans ((alloc_below w1 (.cells #[.int .i64 p, .int .i64 q] 66)).mono hb1.size)
    have HB2 := Lib.hid (HB.out.trans (hb2.mono HB.out.size))
    have HO2 := Lib.hid (HO.out.kept hb2)
    have HK2 := Lib.hid (HK.out.kept hb2)
    have hl := Pair.new w1 66 p q
    obtain ⟨gl, hgl⟩ : ∃ q, w1.heap.size = q := ⟨_, rfl⟩
    rw [hgl] at hl ⊢
    have HL := Lib.hid hl
    clear hgl hl hb1 hb2
    generalize w1.alloc (.cells #[.int .i64 p, .int .i64 q] 66) = W2 at *
    have l0 := HL.out.c0
    have l1 := HL.out.c1
    have z0 := HO2.out.c0
    have z1 := HO2.out.c1
    have f0 := HO2.out.fz 0
    have f1 := HO2.out.fz 1
    go_wp2
    refine bodyPost_ret (res_cell_tmp rfl _ _ B 66 _ (0, 0) _ _ rfl rfl ((HO2.out.set0 p).set1 q) Try.underlying66 rfl (size2s _ _)) rfl ⟨by rfl, (HK2.out.other _ _ (by have := HLT.out; simp; omega)).other _ _ (by have := HLT.out; simp; omega), ((But.of HB2.out).new (Nat.le_of_eq HSB.out) _).new (Nat.le_of_eq HSB.out) _⟩

set_option maxRecDepth 100000 in
set_option maxHeartbeats 3200000 in
theorem rcktick_c {w : World} {g : Nat} {a n s t : Int} (h : Clk w g 84 a n s t) (now : Int) (h0 : 0 ≤ t) (h1 : t ≤ 4611686018427387904) : Calls Try.prog 44 #[.pointer (some ⟨g, 0, none⟩), .int .i64 now] w (TickPost 84 g a n s t now w) := by
  have hb := alloc_below w (.cells #[.int .i64 0, .int .i64 0] 66)
  have ho := Pair.new w 66 0 0
  have hk := h.kept hb
  have hn := fun W (hc : Clk W g 84 a n s t) => rckpeek_c hc now
  have htk : tickN n s t now a = if (snext n s now a).2 = 0 then ((snext n s now a).1.1, (snext n s now a).1.2, t + 1) else (n, s, t) := rfl
  have hlt := h.lt
  unfold TickPost
  obtain ⟨⟨⟨p, q⟩, f⟩, hx⟩ : ∃ r, snext n s now a = r := ⟨_, rfl⟩
  simp only [hx] at hn htk ⊢
  rw [htk]
  have HN := Lib.hid hn
  have HO := Lib.hid ho
  have HB := Lib.hid hb
  have HK := Lib.hid hk
  have H0 := Lib.hid h0
  have H1 := Lib.hid h1
  have HLT := Lib.hid hlt
  clear hn ho hb hk h hx h0 h1 htk hlt
  by_cases hf : f = 0
  · subst hf
    rw [if_pos rfl]
    go_enter Try.func44, Try.ntmps44
    go_upto_region 1 with (fail)
    obtain ⟨B, hB⟩ : ∃ q, w.heap.size = q := ⟨_, rfl⟩
    have HSB := Lib.hid hB
    rw [hB] at HO HLT ⊢
    clear hB
    generalize w.alloc (.cells #[.int .i64 0, .int .i64 0] 66) = W1 at *
    go_upto_region 2 with (go_at_call 48; (with_reducible refine (HN.out _ HK.out).mono ?_); rintro e1 w1 ⟨rfl, hb1⟩)
    have hb2 := hb1.trans ((alloc_below w1 (.cells #[.int .i64 p, .int .i64 q] 66)).mono hb1.size)
    have HB2 := Lib.hid (HB.out.trans (hb2.mono HB.out.size))
    have HO2 := Lib.hid (HO.out.kept hb2)
    have HK2 := Lib.hid (HK.out.kept hb2)
    have hl := Pair.new w1 66 p q
    obtain ⟨gl, hgl⟩ : ∃ q, w1.heap.size = q := ⟨_, rfl⟩
    have HGL := Lib.hid (show B < gl ∧ w.heap.size ≤ gl ∧ g ≠ gl from by
      have h1 := HO.out.lt
      have h2 := hb1.size
      have h3 := HLT.out
      have h4 := HSB.out
      refine ⟨by omega, by omega, by omega⟩)
    rw [hgl] at hl ⊢
    have HL := Lib.hid hl
    clear hgl hl hb1 hb2
    generalize w1.alloc (.cells #[.int .i64 p, .int .i64 q] 66) = W2 at *
    obtain ⟨c0, c1, c2, c3⟩ := HK2.out.cs
    have z1 := HK2.out.fz 1
    have z2 := HK2.out.fz 2
    have l0 := HL.out.c0
    have l1 := HL.out.c1
    go_upto_region 4 with (fail)
    have hk3 := (HK2.out.set1 p).set2 q
    have ho3 := (HO2.out.other ⟨g, 1, none⟩ (.int .i64 p) (by have := HLT.out; simp; omega)).other ⟨g, 2, none⟩ (.int .i64 q) (by have := HLT.out; simp; omega)
    have hl3 := (HL.out.other ⟨g, 1, none⟩ (.int .i64 p) (by have := HGL.out.2.2; simp; omega)).other ⟨g, 2, none⟩ (.int .i64 q) (by have := HGL.out.2.2; simp; omega)
    have HBT := Lib.hid (((But.of (g := g) HB2.out).set 1 (.int .i64 p)).set 2 (.int .i64 q))
    clear c0 c1 c2 c3 z1 z2 l0 l1
    generalize (W2.setCell ⟨g, 1, none⟩ (.int .i64 p)).setCell ⟨g, 2, none⟩ (.int .i64 q) = W3 at *
    have HK3 := Lib.hid hk3
    have HO3 := Lib.hid ho3
    have HL3 := Lib.hid hl3
    clear hk3 ho3 hl3
    obtain ⟨c0, c1, c2, c3⟩ := HK3.out.cs
    have z3 := HK3.out.fz 3
    have hw : IntKind.i64.wrap (t + 1) = t + 1 := by
      have h1 := H0.out
      have h2 := H1.out
      rw [IntKind.wrap_i64]; omega
    go_upto_region 5 with (fail)
    have hk4 := HK3.out.set3 (t + 1)
    have ho4 := HO3.out.other ⟨g, 3, none⟩ (.int .i64 (t + 1)) (by have := HLT.out; simp; omega)
    have hl4 := HL3.out.other ⟨g, 3, none⟩ (.int .i64 (t + 1)) (by have := HGL.out.2.2; simp; omega)
    have HBT4 := Lib.hid (HBT.out.set 3 (.int .i64 (t + 1)))
    clear HBT
    generalize W3.setCell ⟨g, 3, none⟩ (.int .i64 (t + 1)) = W4 at *
    have HK4 := Lib.hid hk4
    have HO4 := Lib.hid ho4
    have l0 := hl4.c0
    have l1 := hl4.c1
    have z0 := HO4.out.c0
    have z1 := HO4.out.c1
    have f0 := HO4.out.fz 0
    have f1 := HO4.out.fz 1
    clear hk4 ho4 hl4
    go_wp2
    refine bodyPost_ret (res_cell_tmp rfl _ _ B 66 _ (0, 0) _ _ rfl rfl ((HO4.out.set0 p).set1 q) Try.underlying66 rfl (size2s _ _)) rfl ⟨by rfl, (HK4.out.other _ _ (by have := HLT.out; simp; omega)).other _ _ (by have := HLT.out; simp; omega), (HBT4.out.new (Nat.le_of_eq HSB.out) _).new (Nat.le_of_eq HSB.out) _⟩
  · have e0 : (f == 0) = false := by simpa using hf
    rw [if_neg hf]
    clear hf
    go_enter Try.func44, Try.ntmps44
    go_upto_region 1 with (fail)
    obtain ⟨B, hB⟩ : ∃ q, w.heap.size = q := ⟨_, rfl⟩
    have HSB := Lib.hid hB
    rw [hB] at HO HLT ⊢
    clear hB
    generalize w.alloc (.cells #[.int .i64 0, .int .i64 0] 66) = W1 at *
    go_upto_region 2 with (go_at_call 48; (with_reducible refine (HN.out _ HK.out).mono ?_); rintro e1 w1 ⟨rfl, hb1⟩)
    have hb2 := hb1.trans ((alloc_below w1 (.cells #[.int .i64 p, .int .i64 q] 66)).mono hb1.size)
    have HB2 := Lib.hid (HB.out.trans (hb2.mono HB.out.size))
    have HO2 := Lib.hid (HO.out.kept hb2)
    have HK2 := Lib.hid (HK.out.kept hb2)
    have hl := Pair.new w1 66 p q
    obtain ⟨gl, hgl⟩ : ∃ q, w1.heap.size = q := ⟨_, rfl⟩
    rw [hgl] at hl ⊢
    have HL := Lib.hid hl
    clear hgl hl hb1 hb2
    generalize w1.alloc (.cells #[.int .i64 p, .int .i64 q] 66) = W2 at *
    have l0 := HL.out.c0
    have l1 := HL.out.c1
    have z0 := HO2.out.c0
    have z1 := HO2.out.c1
    have f0 := HO2.out.fz 0
    have f1 := HO2.out.fz 1
    go_wp2
    refine bodyPost_ret (res_cell_tmp rfl _ _ B 66 _ (0, 0) _ _ rfl rfl ((HO2.out.set0 p).set1 q) Try.underlying66 rfl (size2s _ _)) rfl ⟨by rfl, (HK2.out.other _ _ (by have := HLT.out; simp; omega)).other _ _ (by have := HLT.out; simp; omega), ((But.of HB2.out).new (Nat.le_of_eq HSB.out) _).new (Nat.le_of_eq HSB.out) _⟩
end Go.Proofs.Ytpndpmgbnnpciaa
