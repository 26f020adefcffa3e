/-
  Cell: what is put is got; the program's Get.
-/
import Derived.Test.YtkjpmdpljdgcjaaDoorK9
import Derived.Test.YtkjpmdpljdgcjaaDoorKF
namespace Go.Proofs.YtkjpmdpljdgcjaaDoor
open Go.RowKit Go Go.Sort
set_option linter.unusedVariables false
set_option maxRecDepth 20000

theorem good_parts {p : Int} {c : Cl} (h : c.good p = true) : (c.g = true → c.wrote = true) ∧ (c.wrote = true → sgood c.n c.s = true ∧ vgood c.a c.b = true ∧ (c.t.length : Int) ≤ 64 ∧ (c.g = true → c.t = [])) ∧ (zeroS c.d c.e = false → vgood c.d c.e = true) ∧ (c.wrote = false → c.n = 0 ∧ c.s = 0 ∧ c.a = 0 ∧ c.b = 0 ∧ c.g = false ∧ c.t = []) := by
  obtain ⟨n, s, a, b, g, t, d, e⟩ := c
  unfold Cl.good cgoodS at h
  unfold Cl.wrote
  simp only [Bool.and_eq_true] at h ⊢
  obtain ⟨h1, h2⟩ := h
  refine ⟨?_, ?_, ?_, ?_⟩
  · intro hg; rw [hg]; exact wrote_gone ..
  · intro hw
    rw [hw] at h2
    simp only [Bool.not_true, Bool.false_or, Bool.and_eq_true, decide_eq_true_eq, Bool.or_eq_true, Bool.not_eq_true', beq_iff_eq] at h2
    obtain ⟨x1, x2, x3, x4, x5⟩ := h2
    refine ⟨x1, x3, by omega, fun hg => ?_⟩
    rcases x5 with x5 | x5
    · rw [x5] at hg; cases hg
    · exact x5
  · intro hz
    rw [hz] at h1
    simp only [Bool.and_false, Bool.false_or, Bool.and_eq_true] at h1
    exact h1.2.2
  · intro hw
    simp [wroteS] at hw
    exact ⟨hw.1, hw.2.1, hw.2.2.1, hw.2.2.2.1, hw.2.2.2.2.1, hw.2.2.2.2.2⟩
theorem zero_true {d e : Int} (h : zeroS d e = true) : d = 0 ∧ e = 0 := by simpa [zeroS] using h
def endB (c : Cl) : List UInt8 := if zeroS c.d c.e = true then [] else vputS [] c.d c.e
def midB (c : Cl) : List UInt8 := sputS [] c.n c.s ++ (vputS [] c.a c.b ++ (if c.g = true then [] else putTextS [] c.t))
theorem lay_form (c : Cl) : layS [] c = numB c.sum ++ ((if c.wrote = true then midB c else []) ++ endB c) := by
  unfold layS midB endB
  have h1 := fun l => sput_app l [] c.n c.s
  have h2 := fun l => vput_app l [] c.a c.b
  have h3 := fun l => putText_app l [] c.t
  have h4 := fun l => vput_app l [] c.d c.e
  obtain ⟨A, hA⟩ : ∃ A, sputS [] c.n c.s = A := ⟨_, rfl⟩
  obtain ⟨B, hB⟩ : ∃ B, vputS [] c.a c.b = B := ⟨_, rfl⟩
  obtain ⟨C, hC⟩ : ∃ C, putTextS [] c.t = C := ⟨_, rfl⟩
  obtain ⟨D, hD⟩ : ∃ D, vputS [] c.d c.e = D := ⟨_, rfl⟩
  simp only [List.append_nil, hA, hB, hC, hD] at h1 h2 h3 h4 ⊢
  clear hA hB hC hD
  cases c.wrote <;> cases c.g <;> cases zeroS c.d c.e <;> simp only [h1, h2, h3, h4, List.append_assoc, if_true, if_false, Bool.false_eq_true, List.append_nil, List.nil_append]
theorem end_back {c c1 : Cl} {x : Int} (pre t : List UInt8) (hx : bit x 4 = !zeroS c.d c.e) (hv : zeroS c.d c.e = false → vgood c.d c.e = true) (h0 : c1.d = 0 ∧ c1.e = 0) :
    endR (pre ++ (endB c ++ t)) x c1 pre.length = some ({ c1 with d := c.d, e := c.e }, pre.length + (endB c).length) := by
  unfold endB
  cases hz : zeroS c.d c.e with
  | true =>
    rw [hz] at hx
    rw [end_no hx, (zero_true hz).1, (zero_true hz).2]
    obtain ⟨n, s, a, b, g, tt, d, e⟩ := c1
    obtain ⟨rfl, rfl⟩ := h0
    rfl
  | false =>
    rw [hz] at hx
    rw [if_neg (by simp)]
    exact end_yes hx (by rw [List.drop_left]; exact vget_back (hv hz) t)
theorem mid_back {c : Cl} (pre t : List UInt8) (h1 : sgood c.n c.s = true) (h2 : vgood c.a c.b = true) (h3 : (c.t.length : Int) ≤ 64) (h4 : c.g = true → c.t = []) :
    midR (pre ++ (midB c ++ t)) pre.length c.g = some (⟨c.n, c.s, c.a, c.b, c.g, c.t, 0, 0⟩, pre.length + (midB c).length) := by
  unfold midB
  have k1 := sget_put h1 (vputS [] c.a c.b ++ ((if c.g = true then [] else putTextS [] c.t) ++ t))
  have k2 := vget_back h2 ((if c.g = true then [] else putTextS [] c.t) ++ t)
  have d1 : (pre ++ (sputS [] c.n c.s ++ (vputS [] c.a c.b ++ (if c.g = true then [] else putTextS [] c.t)) ++ t)).drop pre.length = sputS [] c.n c.s ++ (vputS [] c.a c.b ++ ((if c.g = true then [] else putTextS [] c.t) ++ t)) := by rw [List.drop_left]; simp
  have d2 : (pre ++ (sputS [] c.n c.s ++ (vputS [] c.a c.b ++ (if c.g = true then [] else putTextS [] c.t)) ++ t)).drop (pre.length + (sputS [] c.n c.s).length) = vputS [] c.a c.b ++ ((if c.g = true then [] else putTextS [] c.t) ++ t) := by
    rw [← List.drop_drop, d1, List.drop_left]
  have d3 : (pre ++ (sputS [] c.n c.s ++ (vputS [] c.a c.b ++ (if c.g = true then [] else putTextS [] c.t)) ++ t)).drop (pre.length + (sputS [] c.n c.s).length + (vputS [] c.a c.b).length) = (if c.g = true then [] else putTextS [] c.t) ++ t := by
    rw [← List.drop_drop, d2, List.drop_left]
  rw [← d1] at k1
  rw [← d2] at k2
  cases hg : c.g with
  | true =>
    rw [hg] at k1 k2
    rw [mid_gone k1 k2, h4 hg]
    simp only [if_true, List.append_nil, List.length_append, Option.some.injEq, Prod.mk.injEq, true_and]
    omega
  | false =>
    rw [hg] at k1 k2 d3
    simp only [Bool.false_eq_true, if_false] at k1 k2 d3 ⊢
    have k3 := tget_back (s := c.t) h3 (by omega) t
    rw [← d3] at k3
    rw [mid_all k1 k2 k3]
    simp only [List.length_append, Option.some.injEq, Prod.mk.injEq, true_and]
    omega
/-- What is put of a cell is got. -/
theorem read_back {c : Cl} {p : Int} (h : c.good p = true) (t : List UInt8) : readS (layS [] c ++ t) = some (c, (layS [] c).length) := by
  obtain ⟨hgw, hw1, hz1, hw0⟩ := good_parts h
  have hb := sum_bits c.wrote c.g (zeroS c.d c.e)
  change bit c.sum 1 = c.wrote ∧ bit c.sum 2 = c.g ∧ bit c.sum 4 = (!zeroS c.d c.e) ∧ 0 ≤ c.sum ∧ c.sum ≤ 7 at hb
  obtain ⟨b1, b2, b4, x0, x7⟩ := hb
  rw [lay_form, List.append_assoc, List.append_assoc]
  rw [readS_at (get_num c.sum _ x0 (by omega)) x7, b1, b2]
  cases hw : c.wrote with
  | false =>
    rw [hw] at b1
    obtain ⟨e1, e2, e3, e4, e5, e6⟩ := hw0 hw
    simp only [Bool.false_and, Bool.false_eq_true, if_false, List.nil_append]
    rw [parts_bare b1, end_back (c := c) (numB c.sum) t b4 hz1 ⟨rfl, rfl⟩, List.length_append]
    obtain ⟨n, s, a, b, g, tt, d, e⟩ := c
    simp only at e1 e2 e3 e4 e5 e6
    subst e1 e2 e3 e4 e5 e6
    rfl
  | true =>
    rw [hw] at b1
    obtain ⟨y1, y2, y3, y4⟩ := hw1 hw
    simp only [Bool.true_and, if_true]
    rw [parts_some b1 (mid_back (c := c) (numB c.sum) (endB c ++ t) y1 y2 y3 y4)]
    have := end_back (c := c) (c1 := ⟨c.n, c.s, c.a, c.b, c.g, c.t, 0, 0⟩) (numB c.sum ++ midB c) t b4 hz1 ⟨rfl, rfl⟩
    rw [List.append_assoc, List.length_append] at this
    rw [this]
    simp only [List.length_append, Nat.add_assoc]
theorem cget_back {c : Cl} {p : Int} (h : c.good p = true) (t : List UInt8) : cgetS (layS [] c ++ t) p = (c, ((layS [] c).length : Int), 0) := by
  rw [cget_some (read_back h t), if_pos ⟨h, by rw [List.take_left]⟩]
theorem end_le {l : List UInt8} {x : Int} {c c' : Cl} {q k : Nat} (h : endR l x c q = some (c', k)) (hq : q ≤ l.length) : k ≤ l.length := by
  rcases end_inv h with ⟨_, _, rfl⟩ | ⟨_, d, e, q4, hv, _, rfl⟩
  · exact hq
  · have := (vget_form hv).2
    rw [List.length_drop] at this
    omega
theorem mid_le {l : List UInt8} {k q : Nat} {g : Bool} {c : Cl} (h : midR l k g = some (c, q)) (hk : k ≤ l.length) : q ≤ l.length := by
  obtain ⟨n, s, a, b, p1, p2, h1, h2, hh⟩ := mid_inv h
  have e1 := (sget_form h1).2
  have e2 := (vget_form h2).2
  rw [List.length_drop] at e1 e2
  rcases hh with ⟨_, _, rfl⟩ | ⟨_, t, p3, h3, _, rfl⟩
  · omega
  · have e3 := (tget_form h3).2.1
    rw [List.length_drop] at e3
    omega
theorem parts_le {l : List UInt8} {x : Int} {k q : Nat} {g : Bool} {c : Cl} (h : partsR l x k g = some (c, q)) (hk : k ≤ l.length) : q ≤ l.length := by
  rcases parts_inv h with ⟨_, h1⟩ | ⟨_, c1, q1, hm, h1⟩
  · exact end_le h1 hk
  · exact end_le h1 (mid_le hm hk)
theorem readS_len {l : List UInt8} {c : Cl} {q : Nat} (h : readS l = some (c, q)) : q ≤ l.length := by
  by_cases he : (getS l).2.2 = 0
  · obtain ⟨q0, hq0, -, hl, -, -⟩ := getS_ok l he
    by_cases h7 : (getS l).1 ≤ 7
    · have hx : getS l = ((getS l).1, (q0 : Int), 0) := by rw [← he, ← hq0]
      rw [readS_at hx h7] at h
      exact parts_le h hl
    · rw [readS_big (by omega)] at h; cases h
  · rw [readS_err he] at h; cases h
theorem cget_ok {l : List UInt8} {p : Int} (h : (cgetS l p).2.2 = 0) : ∃ q : Nat, (cgetS l p).2.1 = (q : Int) ∧ q ≤ l.length ∧ (cgetS l p).1.good p = true ∧ layS [] (cgetS l p).1 = l.take q := by
  cases hr : readS l with
  | none => rw [cget_none hr] at h; cases h
  | some r =>
    obtain ⟨c, k⟩ := r
    rw [cget_some hr] at h ⊢
    by_cases hc : c.good p = true ∧ layS [] c = l.take k
    · rw [if_pos hc]
      refine ⟨k, rfl, ?_, hc.1, hc.2⟩
      exact readS_len hr
    · rw [if_neg hc] at h; cases h

theorem cread_x {w : World} {ad : Option Addr} {m cap : Nat} {l : List UInt8} (hl : Bys w ad m cap l) : Calls Tryd.prog 80 #[.slice ad m cap] w (fun e9 w' => ∃ (x n s a b : Int) (g : Bool) (t : List UInt8) (d e k f : Int),
    e9 = .returned (.tuple #[.int .i64 x, .agg #[.int .i64 n, .int .i64 s, .int .i64 a, .int .i64 b, .bool g, .string (text t), .int .i64 d, .int .i64 e], .int .i64 k, .int .i64 f]) ∧ t.length ≤ 64 ∧ (f = 0 → ∃ q : Nat, k = (q : Int) ∧ q ≤ l.length ∧ x = (getS l).1 ∧ readP l = some (⟨n, s, a, b, g, t, d, e⟩, q)) ∧ (f ≠ 0 → readP l = none) ∧ Below w.heap.size w w') := by
  refine (cread_c hl).mono fun e9 w' h => ?_
  obtain ⟨x, ⟨n, s, a, b, g, t, d, e⟩, k, f, h1, h2, h3, h4, h5⟩ := h
  exact ⟨x, n, s, a, b, g, t, d, e, k, f, h1, h2, h3, h4, h5⟩
theorem cgetP_none {l : List UInt8} {p : Int} (h : readP l = none) : cgetS l p = (Cl.zero, 0, 80) := by rw [cget_P, h]
theorem cgetP_some {l : List UInt8} {p : Int} {c : Cl} {q : Nat} (h : readP l = some (c, q)) : cgetS l p = if (getS l).1 = c.sum ∧ c.good p = true then (c, (q : Int), 0) else (Cl.zero, 0, 80) := by rw [cget_P, h]

set_option maxRecDepth 100000 in
set_option maxHeartbeats 12800000 in
theorem cget_c {w : World} {ad : Option Addr} {m cap : Nat} {l : List UInt8} (hl : Bys w ad m cap l) (p : Int) : Calls Tryd.prog 52 #[.slice ad m cap, .int .i64 p] w (CGetPost (cgetS l p) w) := by
  have hlen := hl.len
  have hle := hl.le
  have hmx := hl.max
  have hnil : text ([] : List UInt8) = ⟨#[]⟩ := rfl
  have hr0 := Cel.new w 0 0 0 0 false [] 0 0
  have hB0 := alloc_below w (.cells #[.int .i64 0, .int .i64 0, .int .i64 0, .int .i64 0, .bool false, .string (text []), .int .i64 0, .int .i64 0] 50)
  rw [hnil] at hr0 hB0
  have HRD := Lib.hid (fun W (h : Below w.heap.size w W) => cread_x (hl.below h))
  have hN := @cgetP_none l p
  have hS := @cgetP_some l p
  clear hl hnil
  go_enter Tryd.func52, Tryd.ntmps52
  go_upto_region 1 with (fail)
  generalize w.alloc (.cells #[.int .i64 0, .int .i64 0, .int .i64 0, .int .i64 0, .bool false, .string ⟨#[]⟩, .int .i64 0, .int .i64 0] 50) = W1 at *
  have HR := Lib.hid hr0
  have HB := Lib.hid hB0
  clear hr0 hB0
  go_upto_region 2 with (go_at_call 80; (with_reducible refine (HRD.out _ HB.out).mono ?_); rintro e9 w2 ⟨x, n, s, a, b, g, t, d, e, k, f, rfl, htl, hok, hno, hb2⟩)
  have HR := Lib.hid ((HR.out.kept hb2).alloc (.cells #[.int .i64 n, .int .i64 s, .int .i64 a, .int .i64 b, .bool g, .string (text t), .int .i64 d, .int .i64 e] 50))
  have HC := Lib.hid (Cel.new w2 n s a b g t d e)
  have HB := Lib.hid ((HB.out.trans (hb2.mono HB.out.size)).alloc (Nat.le_trans HB.out.size hb2.size) (.cells #[.int .i64 n, .int .i64 s, .int .i64 a, .int .i64 b, .bool g, .string (text t), .int .i64 d, .int .i64 e] 50))
  obtain ⟨gc, hgc⟩ : ∃ q, w2.heap.size = q := ⟨_, rfl⟩
  rw [hgc] at HC ⊢
  clear hgc hb2 HRD
  generalize w2.alloc (.cells #[.int .i64 n, .int .i64 s, .int .i64 a, .int .i64 b, .bool g, .string (text t), .int .i64 d, .int .i64 e] 50) = W2 at *
  have HCW := Lib.hid (fun W (h : Below W2.heap.size W2 W) => (HC.out.kept h).cs)
  have HRW := Lib.hid (fun W (h : Below W2.heap.size W2 W) => HR.out.kept h)
  have hcur := Below.refl W2.heap.size W2
  obtain ⟨c0, c1, c2, c3, c4, c5, c6, c7⟩ := HCW.out _ hcur
  obtain ⟨r0, r1, r2, r3, r4, r5, r6, r7⟩ := (HRW.out _ hcur).cs
  have zr := (HRW.out _ hcur).fz
  by_cases hf : f = 0
  · subst hf
    obtain ⟨q, rfl, hql, hx, hrd⟩ := hok rfl
    have hSS := hS hrd
    have hP := fun W => parts_c n s a b g t d e W
    have hG := fun W => cgood_c p n s a b g t d e (by omega) W
    change cgetS l p = if (getS l).1 = Cl.sum ⟨n, s, a, b, g, t, d, e⟩ ∧ cgoodS p n s a b g t d e = true then (⟨n, s, a, b, g, t, d, e⟩, (q : Int), 0) else (Cl.zero, 0, 80) at hSS
    rw [← hx] at hSS
    obtain ⟨y, hy⟩ : ∃ y, Cl.sum ⟨n, s, a, b, g, t, d, e⟩ = y := ⟨_, rfl⟩
    rw [hy] at hSS hP
    have HP := Lib.hid hP
    clear hx hrd hok hno hN hS hy hP
    by_cases hxy : x = y
    · subst hxy
      cases hg : cgoodS p n s a b g t d e with
      | false =>
        rw [hg] at hG hSS
        have HG := Lib.hid hG
        have HV := Lib.hid (show cgetS l p = (Cl.zero, 0, 80) by rw [hSS, if_neg (fun h => by cases h.2)])
        clear hSS hG hg
        go_wp2_with (first
          | (go_at_call 81; (with_reducible refine (HP.out _).mono ?_); rintro e9 w9 ⟨rfl, hb9⟩; (replace hcur := hcur.trans (hb9.mono hcur.size)); clear hb9; obtain ⟨c0, c1, c2, c3, c4, c5, c6, c7⟩ := HCW.out _ hcur; obtain ⟨r0, r1, r2, r3, r4, r5, r6, r7⟩ := (HRW.out _ hcur).cs; have zr := (HRW.out _ hcur).fz)
          | (go_at_call 42; (with_reducible refine (HG.out _).mono ?_); rintro e9 w9 ⟨rfl, hb9⟩; (replace hcur := hcur.trans (hb9.mono hcur.size)); clear hb9; obtain ⟨c0, c1, c2, c3, c4, c5, c6, c7⟩ := HCW.out _ hcur; obtain ⟨r0, r1, r2, r3, r4, r5, r6, r7⟩ := (HRW.out _ hcur).cs; have zr := (HRW.out _ hcur).fz))
        refine bodyPost_ret (res_cell_tmp2 rfl _ _ w.heap.size 50 _ (0, 0) _ (.int .i64 0) (.int .i64 80) rfl rfl rfl ((HRW.out _ hcur).put 0 0 0 0 false [] 0 0) Tryd.underlying50 rfl (sizeC _ _ _ _ _ _ _ _)) rfl ⟨by rw [HV.out]; rfl, put_below (HB.out.trans (hcur.mono HB.out.size)) (Nat.le_refl _) _ _ _ _ _ _ _ _⟩
      | true =>
        rw [hg] at hG hSS
        have HG := Lib.hid hG
        have HV := Lib.hid (show cgetS l p = (⟨n, s, a, b, g, t, d, e⟩, (q : Int), 0) by rw [hSS, if_pos ⟨rfl, rfl⟩])
        clear hSS hG hg
        go_wp2_with (first
          | (go_at_call 81; (with_reducible refine (HP.out _).mono ?_); rintro e9 w9 ⟨rfl, hb9⟩; (replace hcur := hcur.trans (hb9.mono hcur.size)); clear hb9; obtain ⟨c0, c1, c2, c3, c4, c5, c6, c7⟩ := HCW.out _ hcur; obtain ⟨r0, r1, r2, r3, r4, r5, r6, r7⟩ := (HRW.out _ hcur).cs; have zr := (HRW.out _ hcur).fz)
          | (go_at_call 42; (with_reducible refine (HG.out _).mono ?_); rintro e9 w9 ⟨rfl, hb9⟩; (replace hcur := hcur.trans (hb9.mono hcur.size)); clear hb9; obtain ⟨c0, c1, c2, c3, c4, c5, c6, c7⟩ := HCW.out _ hcur; obtain ⟨r0, r1, r2, r3, r4, r5, r6, r7⟩ := (HRW.out _ hcur).cs; have zr := (HRW.out _ hcur).fz))
        refine bodyPost_ret (res_cell_tmp2 rfl _ _ w.heap.size 50 _ (0, 0) _ (.int .i64 (q : Int)) (.int .i64 0) rfl rfl rfl ((HRW.out _ hcur).put n s a b g t d e) Tryd.underlying50 rfl (sizeC _ _ _ _ _ _ _ _)) rfl ⟨by rw [HV.out]; rfl, put_below (HB.out.trans (hcur.mono HB.out.size)) (Nat.le_refl _) _ _ _ _ _ _ _ _⟩
    · have HV := Lib.hid (show cgetS l p = (Cl.zero, 0, 80) by rw [hSS, if_neg (fun h => hxy h.1)])
      clear hSS hG
      go_wp2_with (go_at_call 81; (with_reducible refine (HP.out _).mono ?_); rintro e9 w9 ⟨rfl, hb9⟩; (replace hcur := hcur.trans (hb9.mono hcur.size)); clear hb9; obtain ⟨c0, c1, c2, c3, c4, c5, c6, c7⟩ := HCW.out _ hcur; obtain ⟨r0, r1, r2, r3, r4, r5, r6, r7⟩ := (HRW.out _ hcur).cs; have zr := (HRW.out _ hcur).fz)
      refine bodyPost_ret (res_cell_tmp2 rfl _ _ w.heap.size 50 _ (0, 0) _ (.int .i64 0) (.int .i64 80) rfl rfl rfl ((HRW.out _ hcur).put 0 0 0 0 false [] 0 0) Tryd.underlying50 rfl (sizeC _ _ _ _ _ _ _ _)) rfl ⟨by rw [HV.out]; rfl, put_below (HB.out.trans (hcur.mono HB.out.size)) (Nat.le_refl _) _ _ _ _ _ _ _ _⟩
  · have HV := Lib.hid (hN (hno hf))
    clear hN hS hno hok
    go_wp2_with (fail)
    refine bodyPost_ret (res_cell_tmp2 rfl _ _ w.heap.size 50 _ (0, 0) _ (.int .i64 0) (.int .i64 80) rfl rfl rfl ((HRW.out _ hcur).put 0 0 0 0 false [] 0 0) Tryd.underlying50 rfl (sizeC _ _ _ _ _ _ _ _)) rfl ⟨by rw [HV.out]; rfl, put_below (HB.out.trans (hcur.mono HB.out.size)) (Nat.le_refl _) _ _ _ _ _ _ _ _⟩
end Go.Proofs.YtkjpmdpljdgcjaaDoor
