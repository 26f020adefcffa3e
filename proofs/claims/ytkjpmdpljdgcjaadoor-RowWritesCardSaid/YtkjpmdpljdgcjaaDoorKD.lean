/-
  Cell, the program: slices.Concat of two, Put.
-/
import Derived.Test.YtkjpmdpljdgcjaaDoorKC
import Derived.Lib.AppendZerosOnto
import Derived.Lib.SliceRun
import Derived.Lib.Walk
namespace Go.Proofs.YtkjpmdpljdgcjaaDoor
open Go.RowKit Go Go.Sort Go.Lib
set_option linter.unusedVariables false
set_option maxRecDepth 20000

set_option maxHeartbeats 3200000 in
theorem grow_c (n : Nat) (hn : n ≤ 1000000) (w : World) : Calls Tryd.prog 86 #[.slice none 0 0, .int .i64 (n : Int)] w (BytesPost [] w) := by
  by_cases h0 : n = 0
  · subst h0
    go_enter Tryd.func86, Tryd.ntmps86
    go_wp2
    go_ret
    exact ⟨_, rfl, World.ownsRow_nil _ _ _ _, Below.refl _ _⟩
  · obtain ⟨i0, hi, hz0, hz1, hz2⟩ := info_parts Tryd.info5
    have hneg : ¬ ((n : Int) < 0) := by omega
    have hpos : (0 : Int) < (n : Int) := by omega
    have hold : (Builtin.firstCells i0.size 0 (.slice none 0 0)).run Tryd.prog w.drew = .ok #[] w.drew := run_firstCells_none w.drew i0.size 0 0 0
    have hrz : ∀ ty, (Builtin.append_ #[59, 3] ty #[.slice none 0 0, .int .i64 (n : Int)]).run Tryd.prog w = .ok (.slice (some ⟨w.heap.size, 0, none⟩) n (grownCap w n 0 5)) (w.drew.alloc (.cells (#[] ++ Builtin.zeroCells #[Value.int .u8 0] n ++ Builtin.zeroCells #[Value.int .u8 0] (grownCap w n 0 5 - n)) 5)) := fun ty => by
      have h := Lib.run_append_grow_zeros w 59 3 ty 5 i0 (.int .u8 0) .i64 .i64 Tryd.underlying59 Tryd.underlying3 hi hz0 none 0 0 [] hold n (by omega) (by omega) (by omega) (by omega) (by rw [hz2]; omega) (growslice_fits (by omega) (by rw [hz2]; omega))
      rw [Nat.zero_add] at h
      exact h
    have hG1 : n ≤ grownCap w n 0 5 := grownCap_ge w _ _ _
    have hG2 : grownCap w n 0 5 ≤ maxLen := grownCap_le_maxLen w n 0 5 (by unfold maxLen; omega)
    obtain ⟨G, hG⟩ : ∃ G, grownCap w n 0 5 = G := ⟨_, rfl⟩
    rw [hG] at hrz hG1 hG2
    have hcs : (#[] ++ Builtin.zeroCells #[Value.int .u8 0] n ++ Builtin.zeroCells #[Value.int .u8 0] (G - n)).size = G := by
      simp [Builtin.zeroCells]; omega
    obtain ⟨C, hC⟩ : ∃ C : Array Value, #[] ++ Builtin.zeroCells #[Value.int .u8 0] n ++ Builtin.zeroCells #[Value.int .u8 0] (G - n) = C := ⟨_, rfl⟩
    rw [hC] at hrz hcs
    have HCS := Lib.hid hcs
    have hGm : G ≤ 9223372036854775807 := by unfold maxLen at hG2; exact hG2
    clear hold hG hC hcs h0
    go_enter Tryd.func86, Tryd.ntmps86
    go_wp2_with (at_builtin; refine Lib.wpList_append_run _ rfl _ _ _ _ rfl _ _ rfl rfl _ _ (hrz _) ?_)
    go_ret
    refine ⟨_, rfl, ⟨rfl, .inr ⟨w.heap.size, G, C, rfl, Nat.le_refl _, ?_, Nat.zero_le _, hG2, by rw [HCS.out, Nat.mul_one], by simp [u8v]⟩⟩, ?_⟩
    · exact heap_alloc_new w.drew _
    · have h := (Below.refl w.heap.size w).alloc (Nat.le_refl _) (.cells C 5)
      exact ⟨h.os, h.tape, h.output, h.size, h.block⟩

set_option maxHeartbeats 3200000 in
theorem concat_c {w : World} {q : Nat} {ad ad' : Option Addr} {m m' cap cap' : Nat} {l l' : List UInt8} (h0 : w.cell? ⟨q, 0, none⟩ = some (.slice ad m cap)) (h1 : w.cell? ⟨q, 1, none⟩ = some (.slice ad' m' cap'))
    (hl : Bys w ad m cap l) (hl' : Bys w ad' m' cap' l') (hm : m ≤ 100000) (hm' : m' ≤ 100000) :
    Calls Tryd.prog 56 #[.slice (some ⟨q, 0, none⟩) 2 2] w (BytesPost (l ++ l') w) := by
  obtain ⟨i0, hi, hz0, hz1, hz2⟩ := info_parts Tryd.info5
  have hln := hl.len
  have HC := Lib.hid (fun W (h : Below w.heap.size w W) => And.intro ((h.cell (World.block_lt_of_cell? w _ h0)).trans h0) ((h.cell (World.block_lt_of_cell? w _ h1)).trans h1))
  have HL := Lib.hid (fun W (h : Below w.heap.size w W) => hl.below h)
  have HL' := Lib.hid (fun W (h : Below w.heap.size w W) => hl'.below h)
  have hmi : (m : Int) ≤ 100000 := by omega
  have hmi' : (m' : Int) ≤ 100000 := by omega
  have hsum : (m : Int) + (m' : Int) = ((m + m' : Nat) : Int) := by omega
  have HG := Lib.hid (fun W => by have := grow_c (m + m') (by omega) W; rwa [← hsum] at this)
  have hnn : ¬ ((m : Int) + (m' : Int) < 0) := by omega
  have hnn0 : ¬ ((m : Int) < 0) := by omega
  clear hl hl' hsum
  go_enter Tryd.func56, Tryd.ntmps56
  go_wp2
  refine wp_loop_rounds 3 ?_
  rw [rounds_succ]
  go_wp2
  rw [rounds_succ]
  go_wp2
  rw [rounds_succ]
  go_upto_region 9 with (fail)
  go_upto_region 11 with (go_at_call 86; (with_reducible refine (HG.out _).mono ?_); rintro e1 w1 ⟨v1, rfl, ho1, hb1⟩)
  obtain ⟨c0, c1⟩ := HC.out w1 hb1
  have hy0 := HL.out w1 hb1
  have HO1 := Lib.hid ho1
  have HB1 := Lib.hid hb1
  clear ho1 hb1
  refine wp_loop_rounds 3 ?_
  rw [rounds_succ]
  go_wp2_with (at_builtin; refine wpList_append_bys rfl (.tmp 31) (.tmp 32) 59 rfl Tryd.underlying59 hi hz0 hz1 hz2 rfl rfl HO1.out rfl hy0 (by simp; omega) HB1.out.size ?_; intro v2 w2 ho2 hg2)
  have hb2 := HB1.out.grown hg2 HB1.out.size (fun k hk => (HO1.out.lt k hk).1)
  obtain ⟨d0, d1⟩ := HC.out w2 hb2
  have hy1 := HL'.out w2 hb2
  rw [List.nil_append] at ho2
  have HO2 := Lib.hid ho2
  have HB2 := Lib.hid hb2
  clear ho2 hb2 hg2 hy0 c0 c1
  rw [rounds_succ]
  go_wp2_with (at_builtin; refine wpList_append_bys rfl (.tmp 31) (.tmp 32) 59 rfl Tryd.underlying59 hi hz0 hz1 hz2 rfl rfl HO2.out rfl hy1 (by omega) HB2.out.size ?_; intro v3 w3 ho3 hg3)
  have hb3 := HB2.out.grown hg3 HB2.out.size (fun k hk => (HO2.out.lt k hk).1)
  have HO3 := Lib.hid ho3
  have HB3 := Lib.hid hb3
  clear ho3 hb3 hg3 hy1 d0 d1
  rw [rounds_succ]
  go_wp2
  go_ret
  exact ⟨_, rfl, HO3.out, HB3.out⟩

theorem lay_le (l : List UInt8) (c : Cl) : (layS l c).length ≤ l.length + 56 + c.t.length := by
  unfold layS
  have h1 : (l ++ numB c.sum).length ≤ l.length + 8 := by have := numB_length c.sum; simp; omega
  have h2 := sput_le (l ++ numB c.sum) c.n c.s
  have h3 := vput_le (sputS (l ++ numB c.sum) c.n c.s) c.a c.b
  have h4 := putText_le (vputS (sputS (l ++ numB c.sum) c.n c.s) c.a c.b) c.t
  have h5 := vput_le (putTextS (vputS (sputS (l ++ numB c.sum) c.n c.s) c.a c.b) c.t) c.d c.e
  have h6 := vput_le (vputS (sputS (l ++ numB c.sum) c.n c.s) c.a c.b) c.d c.e
  have h7 := vput_le (l ++ numB c.sum) c.d c.e
  cases c.wrote <;> cases c.g <;> cases zeroS c.d c.e <;> simp only [if_true, if_false, Bool.false_eq_true] <;> omega

set_option maxHeartbeats 3200000 in
theorem cput_c {w : World} {ad : Option Addr} {m cap : Nat} {l : List UInt8} (hl : Bys w ad m cap l) (hn : m ≤ 6000) (hT : TabW w) (p n s a b : Int) (g : Bool) (t : List UInt8) (d e : Int) (ht : t.length ≤ 6000) :
    Calls Tryd.prog 85 #[.slice ad m cap, .int .i64 p, .agg #[.int .i64 n, .int .i64 s, .int .i64 a, .int .i64 b, .bool g, .string (text t), .int .i64 d, .int .i64 e]] w (BytesPost (cputS l p ⟨n, s, a, b, g, t, d, e⟩) w) := by
  have hp := Cel.new w n s a b g t d e
  have hb := alloc_below w (.cells #[.int .i64 n, .int .i64 s, .int .i64 a, .int .i64 b, .bool g, .string (text t), .int .i64 d, .int .i64 e] 50)
  have HB := Lib.hid hb
  have HL := Lib.hid (hl.below hb)
  have HTb := Lib.hid (hT.below hb)
  have HC := Lib.hid (fun W (h : Below (w.alloc (.cells #[.int .i64 n, .int .i64 s, .int .i64 a, .int .i64 b, .bool g, .string (text t), .int .i64 d, .int .i64 e] 50)).heap.size (w.alloc (.cells #[.int .i64 n, .int .i64 s, .int .i64 a, .int .i64 b, .bool g, .string (text t), .int .i64 d, .int .i64 e] 50)) W) => (hp.kept h).cs)
  have hG := fun W => cgood_c p n s a b g t d e (by omega) W
  have HV := Lib.hid (show cputS l p ⟨n, s, a, b, g, t, d, e⟩ = if cgoodS p n s a b g t d e = true then layS l ⟨n, s, a, b, g, t, d, e⟩ else l from rfl)
  have hlp := Lib.hid (lay_app l ⟨n, s, a, b, g, t, d, e⟩)
  have hle := lay_le [] ⟨n, s, a, b, g, t, d, e⟩
  have hLa := fun (W : World) (hT : TabW W) => lay_c hT n s a b g t d e ht
  simp only [List.length_nil] at hle
  obtain ⟨o, ho⟩ : ∃ o, layS [] ⟨n, s, a, b, g, t, d, e⟩ = o := ⟨_, rfl⟩
  rw [ho] at hlp hle hLa
  have hol : o.length ≤ 100000 := by omega
  have HLa := Lib.hid hLa
  clear hb hl hT hle hLa ho
  cases hg : cgoodS p n s a b g t d e with
  | false =>
    rw [hg] at hG HV
    have HG := Lib.hid hG
    rw [HV.out, if_neg (by simp)]
    clear hg hG HV hlp HLa
    go_enter Tryd.func85, Tryd.ntmps85
    go_upto_region 1 with (fail)
    generalize w.alloc (.cells #[.int .i64 n, .int .i64 s, .int .i64 a, .int .i64 b, .bool g, .string (text t), .int .i64 d, .int .i64 e] 50) = W1 at *
    obtain ⟨c0, c1, c2, c3, c4, c5, c6, c7⟩ := HC.out _ (Below.refl _ _)
    clear hp
    go_upto_region 4 with (go_at_call 42; (with_reducible refine (HG.out _).mono ?_); rintro e9 w1 ⟨rfl, hb1⟩)
    have hal := alloc_below w1 (.cells #[.slice ad m cap, .slice none 0 0] 59)
    have hc := concat_c (w := w1.alloc (.cells #[.slice ad m cap, .slice none 0 0] 59)) (q := w1.heap.size) (l' := []) (m' := 0) (cap' := 0) (ad' := none) (by rw [cell_of_row _ w1.heap.size 0 _ _ (0, 0) (heap_alloc_new w1 _)]; rfl) (by rw [cell_of_row _ w1.heap.size 1 _ _ (0, 0) (heap_alloc_new w1 _)]; rfl) ((HL.out.below hb1).below hal) ⟨rfl, Nat.le_refl _, by omega, .inl rfl⟩ (by omega) (by omega)
    rw [List.append_nil] at hc
    have HCC := Lib.hid hc
    have HB2 := Lib.hid ((HB.out.trans (hb1.mono HB.out.size)).alloc (Nat.le_trans HB.out.size hb1.size) (.cells #[.slice ad m cap, .slice none 0 0] 59))
    clear hc hal hb1 c0 c1 c2 c3 c4 c5 c6 c7
    go_wp2_with (go_at_call 56; (with_reducible refine HCC.out.mono ?_); rintro e9 w9 ⟨v9, rfl, ho9, hb9⟩)
    go_ret
    exact ⟨_, rfl, ho9.mono HB2.out.size, HB2.out.trans (hb9.mono HB2.out.size)⟩
  | true =>
    rw [hg] at hG HV
    have HG := Lib.hid hG
    rw [HV.out, if_pos rfl, hlp.out]
    clear hg hG HV hlp
    go_enter Tryd.func85, Tryd.ntmps85
    go_upto_region 1 with (fail)
    generalize w.alloc (.cells #[.int .i64 n, .int .i64 s, .int .i64 a, .int .i64 b, .bool g, .string (text t), .int .i64 d, .int .i64 e] 50) = W1 at *
    obtain ⟨c0, c1, c2, c3, c4, c5, c6, c7⟩ := HC.out _ (Below.refl _ _)
    clear hp
    go_upto_region 3 with (go_at_call 42; (with_reducible refine (HG.out _).mono ?_); rintro e9 w1 ⟨rfl, hb1⟩)
    obtain ⟨c0, c1, c2, c3, c4, c5, c6, c7⟩ := HC.out _ hb1
    have HT1 := Lib.hid (HTb.out.below hb1)
    have HL1 := Lib.hid (HL.out.below hb1)
    have HB1 := Lib.hid (HB.out.trans (hb1.mono HB.out.size))
    clear hb1 HTb HL HB
    go_upto_region 4 with (go_at_call 109; (with_reducible refine (HLa.out _ HT1.out).mono ?_); rintro e9 w2 ⟨v2, rfl, ho2, hb2⟩)
    obtain ⟨a2, k2, rfl, hy2⟩ := ho2.bys
    have hal := alloc_below w2 (.cells #[.slice ad m cap, .slice a2 o.length k2] 59)
    have hc := concat_c (w := w2.alloc (.cells #[.slice ad m cap, .slice a2 o.length k2] 59)) (q := w2.heap.size) (by rw [cell_of_row _ w2.heap.size 0 _ _ (0, 0) (heap_alloc_new w2 _)]; rfl) (by rw [cell_of_row _ w2.heap.size 1 _ _ (0, 0) (heap_alloc_new w2 _)]; rfl) ((HL1.out.below hb2).below hal) (hy2.below hal) (by omega) hol
    have HCC := Lib.hid hc
    have HB2 := Lib.hid ((HB1.out.trans (hb2.mono HB1.out.size)).alloc (Nat.le_trans HB1.out.size hb2.size) (.cells #[.slice ad m cap, .slice a2 o.length k2] 59))
    clear hc hal hb2 ho2 hy2 c0 c1 c2 c3 c4 c5 c6 c7
    go_wp2_with (go_at_call 56; (with_reducible refine HCC.out.mono ?_); rintro e9 w9 ⟨v9, rfl, ho9, hb9⟩)
    go_ret
    exact ⟨_, rfl, ho9.mono HB2.out.size, HB2.out.trans (hb9.mono HB2.out.size)⟩
end Go.Proofs.YtkjpmdpljdgcjaaDoor
