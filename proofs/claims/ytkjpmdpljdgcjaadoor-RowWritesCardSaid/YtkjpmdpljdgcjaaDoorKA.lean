/-
  Cell: comparisons of cells; the program's isPolicy, goodDead, written, isWhen, goodWrite, Good.
-/
import Derived.Test.YtkjpmdpljdgcjaaDoorCP
import Derived.Test.YtkjpmdpljdgcjaaDoorK2
import Derived.Laws.StructEq
import Derived.ChangeKeysEq
namespace Go.Proofs.YtkjpmdpljdgcjaaDoor
open Go.RowKit Go Go.Sort
set_option linter.unusedVariables false
set_option maxRecDepth 20000

theorem stamp_eqInD (k : Nat) (x y x' y' : Int) (W : World) : (Op.equalIn (k + 2) 48 (.agg #[.int .i64 x, .int .i64 y]) (.agg #[.int .i64 x', .int .i64 y'])).run Tryd.prog W = .ok ((x == x') && (y == y')) W := by
  rw [run_equalIn_struct W (k + 1) _ _ _ Tryd.underlying48 (by kernel_rfl)]
  obtain ⟨f0, f1, hf, h0, h1, t0, t1, n0, n1⟩ : ∃ f0 f1, (Tryd.prog.fieldsOf 48).toList = [f0, f1] ∧ f0.offset = 0 ∧ f1.offset = 1 ∧ f0.type = 3 ∧ f1.type = 3 ∧ f0.name ≠ "_" ∧ f1.name ≠ "_" := ⟨_, _, rfl, rfl, rfl, rfl, rfl, by decide, by decide⟩
  rw [hf]
  have p0 := run_part_int (W := W) #[.int .i64 x, .int .i64 y] 0 rfl
  have p1 := run_part_int (W := W) #[.int .i64 x, .int .i64 y] 1 rfl
  have q0 := run_part_int (W := W) #[.int .i64 x', .int .i64 y'] 0 rfl
  have q1 := run_part_int (W := W) #[.int .i64 x', .int .i64 y'] 1 rfl
  cases e0 : (x == x') <;> cases e1 : (y == y') <;> simp [Op.eqFields, n0, n1, h0, h1, t0, t1, p0, q0, p1, q1, e0, e1, run_equalIn_int W k 3 .i64 .i64 _ _ Tryd.underlying3, Sem.run_bind, Result.andThen_ok]
theorem vec_eqInD (k : Nat) (x y x' y' : Int) (W : World) : (Op.equalIn (k + 2) 44 (.agg #[.int .i64 x, .int .i64 y]) (.agg #[.int .i64 x', .int .i64 y'])).run Tryd.prog W = .ok ((x == x') && (y == y')) W := by
  have hi : (Tryd.prog.info? 3).map (fun i => (i.zero, i.size, i.bytes)) = some (some (.int .i64 0), 1, 8) := by kernel_rfl
  obtain ⟨i3, hi3, _, _, _⟩ := info_parts hi
  have hc : Tryd.prog.cellsOf 3 = 1 := by kernel_rfl
  rw [run_equalIn_array W (k + 1) _ _ Tryd.underlying44 hi3, hc]
  have p0 := run_part_int (W := W) #[.int .i64 x, .int .i64 y] 0 rfl
  have p1 := run_part_int (W := W) #[.int .i64 x, .int .i64 y] 1 rfl
  have q0 := run_part_int (W := W) #[.int .i64 x', .int .i64 y'] 0 rfl
  have q1 := run_part_int (W := W) #[.int .i64 x', .int .i64 y'] 1 rfl
  show (Op.eqItems (k + 1) 3 1 _ _ [0, 1]).run Tryd.prog W = _
  simp only [Op.eqItems, Sem.run_bind, Nat.zero_mul, Nat.one_mul, p0, q0, Result.andThen_ok]
  cases h0 : (x == x') <;> cases h1 : (y == y') <;> simp [p1, q1, h0, h1, run_equalIn_int W k 3 .i64 .i64 _ _ Tryd.underlying3]
theorem vec_eqb (x y x' y' : Int) (r : Bool) (h : ((x == x') && (y == y')) = r) (W : World) : (binOp .eql 44 (.agg #[.int .i64 x, .int .i64 y]) (.agg #[.int .i64 x', .int .i64 y'])).run Tryd.prog W = .ok (.bool r) W := by
  rw [run_eql_struct, vec_eqIn, h]; rfl
theorem vec_neb (x y x' y' : Int) (r : Bool) (h : ((x == x') && (y == y')) = r) (W : World) : (binOp .neq 44 (.agg #[.int .i64 x, .int .i64 y]) (.agg #[.int .i64 x', .int .i64 y'])).run Tryd.prog W = .ok (.bool (!r)) W := by
  rw [run_neq_struct, vec_eqIn, h]; rfl
theorem stamp_neb (x y x' y' : Int) (r : Bool) (h : ((x == x') && (y == y')) = r) (W : World) : (binOp .neq 48 (.agg #[.int .i64 x, .int .i64 y]) (.agg #[.int .i64 x', .int .i64 y'])).run Tryd.prog W = .ok (.bool (!r)) W := by
  rw [run_neq_struct, stamp_eqIn, h]; rfl

theorem part_s0 (xs : Array Value) (W : World) : (part 48 xs 0).run Tryd.prog W = .ok (.agg (xs.extract 0 2)) W := by kernel_rfl
theorem part_v2 (xs : Array Value) (W : World) : (part 44 xs 2).run Tryd.prog W = .ok (.agg (xs.extract 2 4)) W := by kernel_rfl
theorem part_v6 (xs : Array Value) (W : World) : (part 44 xs 6).run Tryd.prog W = .ok (.agg (xs.extract 6 8)) W := by kernel_rfl
def cellEq (n s a b : Int) (g : Bool) (t : List UInt8) (d e : Int) (n' s' a' b' : Int) (g' : Bool) (t' : List UInt8) (d' e' : Int) : Bool :=
  ((n == n') && (s == s')) && (((a == a') && (b == b')) && ((g == g') && (decide (t = t') && ((d == d') && (e == e')))))
theorem cell_eqIn (n s a b : Int) (g : Bool) (t : List UInt8) (d e : Int) (n' s' a' b' : Int) (g' : Bool) (t' : List UInt8) (d' e' : Int) (W : World) :
    (Op.equalIn 10000 50 (.agg #[.int .i64 n, .int .i64 s, .int .i64 a, .int .i64 b, .bool g, .string (text t), .int .i64 d, .int .i64 e]) (.agg #[.int .i64 n', .int .i64 s', .int .i64 a', .int .i64 b', .bool g', .string (text t'), .int .i64 d', .int .i64 e'])).run Tryd.prog W = .ok (cellEq n s a b g t d e n' s' a' b' g' t' d' e') W := by
  rw [run_equalIn_struct W 9999 _ _ _ Tryd.underlying50 (by kernel_rfl)]
  obtain ⟨f0, f1, f2, f3, f4, hf, h0, h1, h2, h3, h4, t0, t1, t2, t3, t4, n0, n1, n2, n3, n4⟩ : ∃ f0 f1 f2 f3 f4, (Tryd.prog.fieldsOf 50).toList = [f0, f1, f2, f3, f4] ∧ f0.offset = 0 ∧ f1.offset = 2 ∧ f2.offset = 4 ∧ f3.offset = 5 ∧ f4.offset = 6 ∧
    f0.type = 48 ∧ f1.type = 44 ∧ f2.type = 4 ∧ f3.type = 9 ∧ f4.type = 44 ∧ f0.name ≠ "_" ∧ f1.name ≠ "_" ∧ f2.name ≠ "_" ∧ f3.name ≠ "_" ∧ f4.name ≠ "_" := ⟨_, _, _, _, _, rfl, rfl, rfl, rfl, rfl, rfl, rfl, rfl, rfl, rfl, rfl, by decide, by decide, by decide, by decide, by decide⟩
  rw [hf]
  obtain ⟨xs, hxs⟩ : ∃ xs : Array Value, #[.int .i64 n, .int .i64 s, .int .i64 a, .int .i64 b, .bool g, .string (text t), .int .i64 d, .int .i64 e] = xs := ⟨_, rfl⟩
  obtain ⟨ys, hys⟩ : ∃ ys : Array Value, #[.int .i64 n', .int .i64 s', .int .i64 a', .int .i64 b', .bool g', .string (text t'), .int .i64 d', .int .i64 e'] = ys := ⟨_, rfl⟩
  have p0 : (part 48 xs 0).run Tryd.prog W = .ok (.agg #[.int .i64 n, .int .i64 s]) W := by rw [part_s0, ← hxs]; rfl
  have p1 : (part 44 xs 2).run Tryd.prog W = .ok (.agg #[.int .i64 a, .int .i64 b]) W := by rw [part_v2, ← hxs]; rfl
  have p2 := run_part_plain (P := Tryd.prog) (e := 4) W (by kernel_rfl) (xs := xs) (off := 4) (v := .bool g) (by rw [← hxs]; rfl)
  have p3 := run_part_plain (P := Tryd.prog) (e := 9) W (by kernel_rfl) (xs := xs) (off := 5) (v := .string (text t)) (by rw [← hxs]; rfl)
  have p4 : (part 44 xs 6).run Tryd.prog W = .ok (.agg #[.int .i64 d, .int .i64 e]) W := by rw [part_v6, ← hxs]; rfl
  have q0 : (part 48 ys 0).run Tryd.prog W = .ok (.agg #[.int .i64 n', .int .i64 s']) W := by rw [part_s0, ← hys]; rfl
  have q1 : (part 44 ys 2).run Tryd.prog W = .ok (.agg #[.int .i64 a', .int .i64 b']) W := by rw [part_v2, ← hys]; rfl
  have q2 := run_part_plain (P := Tryd.prog) (e := 4) W (by kernel_rfl) (xs := ys) (off := 4) (v := .bool g') (by rw [← hys]; rfl)
  have q3 := run_part_plain (P := Tryd.prog) (e := 9) W (by kernel_rfl) (xs := ys) (off := 5) (v := .string (text t')) (by rw [← hys]; rfl)
  have q4 : (part 44 ys 6).run Tryd.prog W = .ok (.agg #[.int .i64 d', .int .i64 e']) W := by rw [part_v6, ← hys]; rfl
  have he : ((text t).toList == (text t').toList) = decide (t = t') := by rw [text_toList, text_toList, Bool.eq_iff_iff]; simp
  have e0 := stamp_eqInD 9997 n s n' s' W
  have e1 := vec_eqInD 9997 a b a' b' W
  have e2 := run_equalIn_bool' W 9998 4 g g' Tryd.underlying4
  have e3 := run_equalIn_string W 9998 9 (text t) (text t') Tryd.underlying9
  have e4 := vec_eqInD 9997 d e d' e' W
  rw [he] at e3
  simp only [Nat.reduceAdd] at e0 e1 e2 e3 e4
  rw [hxs, hys]
  unfold cellEq
  clear hxs hys he hf
  generalize ((n == n') && (s == s')) = r0 at *
  generalize ((a == a') && (b == b')) = r1 at *
  generalize (g == g') = r2 at *
  generalize decide (t = t') = r3 at *
  generalize ((d == d') && (e == e')) = r4 at *
  cases r0 <;> cases r1 <;> cases r2 <;> cases r3 <;> cases r4 <;> simp [Op.eqFields, n0, n1, n2, n3, n4, h0, h1, h2, h3, h4, t0, t1, t2, t3, t4, p0, q0, p1, q1, p2, q2, p3, q3, p4, q4, e0, e1, e2, e3, e4, Sem.run_bind, Result.andThen_ok]
theorem cell_eqb (n s a b : Int) (g : Bool) (t : List UInt8) (d e : Int) (n' s' a' b' : Int) (g' : Bool) (t' : List UInt8) (d' e' : Int) (r : Bool) (h : cellEq n s a b g t d e n' s' a' b' g' t' d' e' = r) (W : World) :
    (binOp .eql 50 (.agg #[.int .i64 n, .int .i64 s, .int .i64 a, .int .i64 b, .bool g, .string (text t), .int .i64 d, .int .i64 e]) (.agg #[.int .i64 n', .int .i64 s', .int .i64 a', .int .i64 b', .bool g', .string (text t'), .int .i64 d', .int .i64 e'])).run Tryd.prog W = .ok (.bool r) W := by
  rw [run_eql_struct, cell_eqIn, h]; rfl
theorem cell_neb (n s a b : Int) (g : Bool) (t : List UInt8) (d e : Int) (n' s' a' b' : Int) (g' : Bool) (t' : List UInt8) (d' e' : Int) (r : Bool) (h : cellEq n s a b g t d e n' s' a' b' g' t' d' e' = r) (W : World) :
    (binOp .neq 50 (.agg #[.int .i64 n, .int .i64 s, .int .i64 a, .int .i64 b, .bool g, .string (text t), .int .i64 d, .int .i64 e]) (.agg #[.int .i64 n', .int .i64 s', .int .i64 a', .int .i64 b', .bool g', .string (text t'), .int .i64 d', .int .i64 e'])).run Tryd.prog W = .ok (.bool (!r)) W := by
  rw [run_neq_struct, cell_eqIn, h]; rfl
theorem cell_eqg (op : BinOp) (x y : Operand) (xs ys : Array Value) (W : World) : (eqGuard op 50 x y (.agg xs) (.agg ys)).run Tryd.prog W = .ok () W := run_eqGuard_agg W op _ x y xs ys (by kernel_rfl)
theorem cellEq_self (n s a b : Int) (g : Bool) (t : List UInt8) (d e : Int) : cellEq n s a b g t d e n s a b g t d e = true := by simp [cellEq]
theorem cellEq_zero (n s a b : Int) (g : Bool) (t : List UInt8) : cellEq n s a b g t 0 0 0 0 0 0 false [] 0 0 = !wroteS n s a b g t := by
  unfold cellEq wroteS
  rw [Bool.eq_iff_iff]
  cases g <;> simp [and_assoc]

theorem ispolicy_c (p : Int) (w : World) : Calls Tryd.prog 69 #[.int .i64 p] w (fun e w' => e = .returned (.bool (p == 1 || p == 2)) ∧ w' = w) := by
  cases k1 : (p == 1) with
  | true =>
    go_enter Tryd.func69, Tryd.ntmps69
    go_wp2
    go_ret
    exact ⟨rfl, rfl⟩
  | false =>
    cases k2 : (p == 2) with
    | true =>
      go_enter Tryd.func69, Tryd.ntmps69
      go_wp2
      go_ret
      exact ⟨rfl, rfl⟩
    | false =>
      go_enter Tryd.func69, Tryd.ntmps69
      go_wp2
      go_ret
      exact ⟨rfl, rfl⟩

def deadS (p : Int) (g : Bool) (d e : Int) : Bool := if p = 2 then vgood d e && !g else ((d == 0) && (e == 0))
set_option maxHeartbeats 1600000 in
theorem gooddead_c (p n s a b : Int) (g : Bool) (t : List UInt8) (d e : Int) (w : World) :
    Calls Tryd.prog 70 #[.int .i64 p, .agg #[.int .i64 n, .int .i64 s, .int .i64 a, .int .i64 b, .bool g, .string (text t), .int .i64 d, .int .i64 e]] w (Tells (.bool (deadS p g d e)) w) := by
  have hp := Cel.new w n s a b g t d e
  have hb := alloc_below w (.cells #[.int .i64 n, .int .i64 s, .int .i64 a, .int .i64 b, .bool g, .string (text t), .int .i64 d, .int .i64 e] 50)
  have HB := Lib.hid hb
  have hEG := vec_eqg
  have hEQ := vec_eqb d e 0 0 ((d == 0) && (e == 0)) rfl
  have HV := (show deadS p g d e = if p = 2 then vgood d e && !g else ((d == 0) && (e == 0)) from rfl)
  obtain ⟨z, hz⟩ : ∃ z, ((d == 0) && (e == 0)) = z := ⟨_, rfl⟩
  rw [hz] at hEQ HV
  have G := fun W => vgood_c d e W
  obtain ⟨v, hv⟩ : ∃ v, vgood d e = v := ⟨_, rfl⟩
  rw [hv] at G HV
  have HG := Lib.hid G
  have HVH := Lib.hid HV
  clear hb hz hv G HV
  have HC := Lib.hid (fun W (h : Below (w.alloc (.cells #[.int .i64 n, .int .i64 s, .int .i64 a, .int .i64 b, .bool g, .string (text t), .int .i64 d, .int .i64 e] 50)).heap.size (w.alloc (.cells #[.int .i64 n, .int .i64 s, .int .i64 a, .int .i64 b, .bool g, .string (text t), .int .i64 d, .int .i64 e] 50)) W) => (hp.kept h).cs)
  by_cases p2 : p = 2
  · subst p2
    rw [if_pos rfl] at HVH
    cases v with
    | false =>
      go_enter Tryd.func70, Tryd.ntmps70
      go_upto_region 1 with (fail)
      generalize w.alloc (.cells #[.int .i64 n, .int .i64 s, .int .i64 a, .int .i64 b, .bool g, .string (text t), .int .i64 d, .int .i64 e] 50) = W1 at *
      clear hp
      obtain ⟨c0, c1, c2, c3, c4, c5, c6, c7⟩ := HC.out _ (Below.refl _ _)
      go_wp2_with (go_at_call 93; (with_reducible refine (HG.out _).mono ?_); rintro e9 w9 ⟨rfl, hb9⟩)
      go_ret
      exact ⟨by rw [HVH.out]; rfl, HB.out.trans (hb9.mono HB.out.size)⟩
    | true =>
      go_enter Tryd.func70, Tryd.ntmps70
      go_upto_region 1 with (fail)
      generalize w.alloc (.cells #[.int .i64 n, .int .i64 s, .int .i64 a, .int .i64 b, .bool g, .string (text t), .int .i64 d, .int .i64 e] 50) = W1 at *
      clear hp
      obtain ⟨c0, c1, c2, c3, c4, c5, c6, c7⟩ := HC.out _ (Below.refl _ _)
      go_wp2_with (go_at_call 93; (with_reducible refine (HG.out _).mono ?_); rintro e9 w9 ⟨rfl, hb9⟩; obtain ⟨c0, c1, c2, c3, c4, c5, c6, c7⟩ := HC.out _ hb9)
      go_ret
      exact ⟨by rw [HVH.out]; rfl, HB.out.trans (hb9.mono HB.out.size)⟩
  · rw [if_neg p2] at HVH
    have k2 : (p == 2) = false := by simpa using p2
    clear p2
    go_enter Tryd.func70, Tryd.ntmps70
    go_upto_region 1 with (fail)
    generalize w.alloc (.cells #[.int .i64 n, .int .i64 s, .int .i64 a, .int .i64 b, .bool g, .string (text t), .int .i64 d, .int .i64 e] 50) = W1 at *
    clear hp
    obtain ⟨c0, c1, c2, c3, c4, c5, c6, c7⟩ := HC.out _ (Below.refl _ _)
    go_wp2
    go_ret
    exact ⟨by rw [HVH.out]; rfl, HB.out⟩

set_option maxHeartbeats 1600000 in
theorem written_c (n s a b : Int) (g : Bool) (t : List UInt8) (d e : Int) (w : World) :
    Calls Tryd.prog 63 #[.agg #[.int .i64 n, .int .i64 s, .int .i64 a, .int .i64 b, .bool g, .string (text t), .int .i64 d, .int .i64 e]] w (Tells (.bool (wroteS n s a b g t)) w) := by
  have hb := alloc_below w (.cells #[.int .i64 n, .int .i64 s, .int .i64 a, .int .i64 b, .bool g, .string (text t), .int .i64 0, .int .i64 0] 50)
  have HB := Lib.hid hb
  have hp := Cel.new w n s a b g t 0 0
  obtain ⟨c0, c1, c2, c3, c4, c5, c6, c7⟩ := hp.cs
  have hEG := cell_eqg
  have hEQ := cell_neb n s a b g t 0 0 0 0 0 0 false [] 0 0 (!wroteS n s a b g t) (cellEq_zero n s a b g t)
  rw [Bool.not_not] at hEQ
  have hnil : text ([] : List UInt8) = ⟨#[]⟩ := rfl
  rw [hnil] at hEQ
  obtain ⟨r, hr⟩ : ∃ r, wroteS n s a b g t = r := ⟨_, rfl⟩
  rw [hr] at hEQ ⊢
  clear hb hnil hr hp
  go_enter Tryd.func63, Tryd.ntmps63
  go_wp2
  go_ret
  exact ⟨rfl, HB.out⟩

def whenS (n s : Int) : Bool := sgood n s && decide (0 < n)
theorem whenS_eq (n s : Int) : whenS n s = (sgood n s && !((n == 0) && (s == 0))) := by
  unfold whenS
  cases h : sgood n s with
  | false => rfl
  | true =>
    have hg : (n = 0 ∧ s = 0) ∨ (1 ≤ n ∧ n ≤ 281474976710656 ∧ (s = 1 ∨ s = 2)) := by simpa [sgood] using h
    rw [Bool.true_and, Bool.true_and, Bool.eq_iff_iff]
    simp
    omega
set_option maxHeartbeats 1600000 in
theorem iswhen_c (n s : Int) (w : World) : Calls Tryd.prog 94 #[.agg #[.int .i64 n, .int .i64 s]] w (Tells (.bool (whenS n s)) w) := by
  have hp := Pair.new w 48 n s
  have hb := alloc_below w (.cells #[.int .i64 n, .int .i64 s] 48)
  have HB := Lib.hid hb
  have hEG := stamp_eqg
  have hEQ := stamp_neb n s 0 0 ((n == 0) && (s == 0)) rfl
  have HV := Lib.hid (whenS_eq n s)
  obtain ⟨z, hz⟩ : ∃ z, ((n == 0) && (s == 0)) = z := ⟨_, rfl⟩
  rw [hz] at hEQ HV
  have G := fun W => sgood_c n s W
  obtain ⟨v, hv⟩ : ∃ v, sgood n s = v := ⟨_, rfl⟩
  rw [hv] at G HV
  have HG := Lib.hid G
  clear hb hz hv G
  cases v with
  | false =>
    go_enter Tryd.func94, Tryd.ntmps94
    go_upto_region 1 with (fail)
    generalize w.alloc (.cells #[.int .i64 n, .int .i64 s] 48) = W1 at *
    have p0 := hp.c0
    have p1 := hp.c1
    clear hp
    go_wp2_with (go_at_call 111; (with_reducible refine (HG.out _).mono ?_); rintro e9 w9 ⟨rfl, hb9⟩)
    go_ret
    exact ⟨by rw [HV.out]; rfl, HB.out.trans (hb9.mono HB.out.size)⟩
  | true =>
    go_enter Tryd.func94, Tryd.ntmps94
    go_upto_region 1 with (fail)
    generalize w.alloc (.cells #[.int .i64 n, .int .i64 s] 48) = W1 at *
    have p0 := hp.c0
    have p1 := hp.c1
    have HP := Lib.hid hp
    clear hp
    go_wp2_with (go_at_call 111; (with_reducible refine (HG.out _).mono ?_); rintro e9 w9 ⟨rfl, hb9⟩; have q0 := (HP.out.kept hb9).c0; have q1 := (HP.out.kept hb9).c1)
    go_ret
    exact ⟨by rw [HV.out]; simp, HB.out.trans (hb9.mono HB.out.size)⟩

def writeS (n s a b : Int) (g : Bool) (t : List UInt8) : Bool := whenS n s && (vgood a b && (decide (t.length ≤ 64) && !(g && !(t == []))))
set_option maxHeartbeats 6400000 in
theorem goodwrite_c (n s a b : Int) (g : Bool) (t : List UInt8) (d e : Int) (hmax : t.length ≤ 9223372036854775807) (w : World) :
    Calls Tryd.prog 71 #[.agg #[.int .i64 n, .int .i64 s, .int .i64 a, .int .i64 b, .bool g, .string (text t), .int .i64 d, .int .i64 e]] w (Tells (.bool (writeS n s a b g t)) w) := by
  have hp := Cel.new w n s a b g t d e
  have hb := alloc_below w (.cells #[.int .i64 n, .int .i64 s, .int .i64 a, .int .i64 b, .bool g, .string (text t), .int .i64 d, .int .i64 e] 50)
  have HB := Lib.hid hb
  have hts : ((text t).toList == []) = (t == []) := by rw [text_toList]
  have hsz : ((text t).size : Int) = (t.length : Int) := by rw [text_size]
  have HV := (show writeS n s a b g t = (whenS n s && (vgood a b && (decide (t.length ≤ 64) && !(g && !(t == []))))) from rfl)
  have HS := Lib.hid (fun W => iswhen_c n s W)
  have HVV := Lib.hid (fun W => vgood_c a b W)
  have HC := Lib.hid (fun W (h : Below (w.alloc (.cells #[.int .i64 n, .int .i64 s, .int .i64 a, .int .i64 b, .bool g, .string (text t), .int .i64 d, .int .i64 e] 50)).heap.size (w.alloc (.cells #[.int .i64 n, .int .i64 s, .int .i64 a, .int .i64 b, .bool g, .string (text t), .int .i64 d, .int .i64 e] 50)) W) => (hp.kept h).cs)
  obtain ⟨z, hz⟩ : ∃ z, (t == []) = z := ⟨_, rfl⟩
  rw [hz] at hts HV
  obtain ⟨L, hL⟩ : ∃ L, t.length = L := ⟨_, rfl⟩
  rw [hL] at hsz HV hmax
  have HVH := Lib.hid HV
  clear hb hz hL HV hp
  go_enter Tryd.func71, Tryd.ntmps71
  go_upto_region 1 with (fail)
  generalize w.alloc (.cells #[.int .i64 n, .int .i64 s, .int .i64 a, .int .i64 b, .bool g, .string (text t), .int .i64 d, .int .i64 e] 50) = W1 at *
  have hcur := Below.refl W1.heap.size W1
  obtain ⟨c0, c1, c2, c3, c4, c5, c6, c7⟩ := HC.out _ hcur
  cases hw : whenS n s with
  | false =>
    rw [hw] at HS HVH
    clear hw HVV
    go_wp2_with (first
      | (go_at_call 94; (with_reducible refine (HS.out _).mono ?_); rintro e9 w9 ⟨rfl, hb9⟩; (replace hcur := hcur.trans (hb9.mono hcur.size)); clear hb9; obtain ⟨c0, c1, c2, c3, c4, c5, c6, c7⟩ := HC.out _ hcur))
    go_ret
    exact ⟨by rw [HVH.out]; rfl, HB.out.trans (hcur.mono HB.out.size)⟩
  | true =>
    rw [hw] at HS HVH
    clear hw
    cases hv : vgood a b with
    | false =>
      rw [hv] at HVV HVH
      clear hv
      go_wp2_with (first
        | (go_at_call 94; (with_reducible refine (HS.out _).mono ?_); rintro e9 w9 ⟨rfl, hb9⟩; (replace hcur := hcur.trans (hb9.mono hcur.size)); clear hb9; obtain ⟨c0, c1, c2, c3, c4, c5, c6, c7⟩ := HC.out _ hcur)
        | (go_at_call 93; (with_reducible refine (HVV.out _).mono ?_); rintro e9 w9 ⟨rfl, hb9⟩; (replace hcur := hcur.trans (hb9.mono hcur.size)); clear hb9; obtain ⟨c0, c1, c2, c3, c4, c5, c6, c7⟩ := HC.out _ hcur))
      go_ret
      exact ⟨by rw [HVH.out]; rfl, HB.out.trans (hcur.mono HB.out.size)⟩
    | true =>
      rw [hv] at HVV HVH
      clear hv
      by_cases hl : L ≤ 64
      · have hli : (L : Int) ≤ 64 := by omega
        rw [decide_eq_true hl] at HVH
        cases g with
        | false =>
          go_wp2_with (first
            | (go_at_call 94; (with_reducible refine (HS.out _).mono ?_); rintro e9 w9 ⟨rfl, hb9⟩; (replace hcur := hcur.trans (hb9.mono hcur.size)); clear hb9; obtain ⟨c0, c1, c2, c3, c4, c5, c6, c7⟩ := HC.out _ hcur)
            | (go_at_call 93; (with_reducible refine (HVV.out _).mono ?_); rintro e9 w9 ⟨rfl, hb9⟩; (replace hcur := hcur.trans (hb9.mono hcur.size)); clear hb9; obtain ⟨c0, c1, c2, c3, c4, c5, c6, c7⟩ := HC.out _ hcur))
          go_ret
          exact ⟨by rw [HVH.out]; rfl, HB.out.trans (hcur.mono HB.out.size)⟩
        | true =>
          cases z with
          | false =>
            go_wp2_with (first
              | (go_at_call 94; (with_reducible refine (HS.out _).mono ?_); rintro e9 w9 ⟨rfl, hb9⟩; (replace hcur := hcur.trans (hb9.mono hcur.size)); clear hb9; obtain ⟨c0, c1, c2, c3, c4, c5, c6, c7⟩ := HC.out _ hcur)
              | (go_at_call 93; (with_reducible refine (HVV.out _).mono ?_); rintro e9 w9 ⟨rfl, hb9⟩; (replace hcur := hcur.trans (hb9.mono hcur.size)); clear hb9; obtain ⟨c0, c1, c2, c3, c4, c5, c6, c7⟩ := HC.out _ hcur))
            go_ret
            exact ⟨by rw [HVH.out]; rfl, HB.out.trans (hcur.mono HB.out.size)⟩
          | true =>
            go_wp2_with (first
              | (go_at_call 94; (with_reducible refine (HS.out _).mono ?_); rintro e9 w9 ⟨rfl, hb9⟩; (replace hcur := hcur.trans (hb9.mono hcur.size)); clear hb9; obtain ⟨c0, c1, c2, c3, c4, c5, c6, c7⟩ := HC.out _ hcur)
              | (go_at_call 93; (with_reducible refine (HVV.out _).mono ?_); rintro e9 w9 ⟨rfl, hb9⟩; (replace hcur := hcur.trans (hb9.mono hcur.size)); clear hb9; obtain ⟨c0, c1, c2, c3, c4, c5, c6, c7⟩ := HC.out _ hcur))
            go_ret
            exact ⟨by rw [HVH.out]; rfl, HB.out.trans (hcur.mono HB.out.size)⟩
      · have hli : ¬ (L : Int) ≤ 64 := by omega
        rw [decide_eq_false hl] at HVH
        go_wp2_with (first
          | (go_at_call 94; (with_reducible refine (HS.out _).mono ?_); rintro e9 w9 ⟨rfl, hb9⟩; (replace hcur := hcur.trans (hb9.mono hcur.size)); clear hb9; obtain ⟨c0, c1, c2, c3, c4, c5, c6, c7⟩ := HC.out _ hcur)
          | (go_at_call 93; (with_reducible refine (HVV.out _).mono ?_); rintro e9 w9 ⟨rfl, hb9⟩; (replace hcur := hcur.trans (hb9.mono hcur.size)); clear hb9; obtain ⟨c0, c1, c2, c3, c4, c5, c6, c7⟩ := HC.out _ hcur))
        go_ret
        exact ⟨by rw [HVH.out]; rfl, HB.out.trans (hcur.mono HB.out.size)⟩

theorem cgood_eq (p n s a b : Int) (g : Bool) (t : List UInt8) (d e : Int) : cgoodS p n s a b g t d e = ((p == 1 || p == 2) && (deadS p g d e && (!wroteS n s a b g t || writeS n s a b g t))) := by
  unfold cgoodS deadS writeS whenS zeroS
  by_cases p1 : p = 1
  · subst p1
    have h : (decide (d = 0) && decide (e = 0)) = ((d == 0) && (e == 0)) := by rw [Bool.eq_iff_iff]; simp
    rw [h]
    generalize ((d == 0) && (e == 0)) = z
    generalize (t == []) = y
    cases z <;> cases g <;> cases y <;> simp [Bool.and_assoc]
  · by_cases p2 : p = 2
    · subst p2
      generalize (t == []) = y
      cases g <;> cases y <;> simp [Bool.and_assoc]
    · have k1 : (p == 1) = false := by simpa using p1
      have k2 : (p == 2) = false := by simpa using p2
      rw [k1, k2]
      rfl
set_option maxHeartbeats 6400000 in
theorem cgood_c (p n s a b : Int) (g : Bool) (t : List UInt8) (d e : Int) (hmax : t.length ≤ 9223372036854775807) (w : World) :
    Calls Tryd.prog 42 #[.int .i64 p, .agg #[.int .i64 n, .int .i64 s, .int .i64 a, .int .i64 b, .bool g, .string (text t), .int .i64 d, .int .i64 e]] w (Tells (.bool (cgoodS p n s a b g t d e)) w) := by
  have hp := Cel.new w n s a b g t d e
  have hb := alloc_below w (.cells #[.int .i64 n, .int .i64 s, .int .i64 a, .int .i64 b, .bool g, .string (text t), .int .i64 d, .int .i64 e] 50)
  have HB := Lib.hid hb
  have HVH := Lib.hid (cgood_eq p n s a b g t d e)
  have HI := Lib.hid (fun W => ispolicy_c p W)
  have HD := Lib.hid (fun W => gooddead_c p n s a b g t d e W)
  have HW := Lib.hid (fun W => written_c n s a b g t d e W)
  have HR := Lib.hid (fun W => goodwrite_c n s a b g t d e hmax W)
  have HC := Lib.hid (fun W (h : Below (w.alloc (.cells #[.int .i64 n, .int .i64 s, .int .i64 a, .int .i64 b, .bool g, .string (text t), .int .i64 d, .int .i64 e] 50)).heap.size (w.alloc (.cells #[.int .i64 n, .int .i64 s, .int .i64 a, .int .i64 b, .bool g, .string (text t), .int .i64 d, .int .i64 e] 50)) W) => (hp.kept h).cs)
  obtain ⟨r, hr⟩ : ∃ r, cgoodS p n s a b g t d e = r := ⟨_, rfl⟩
  obtain ⟨q, hq⟩ : ∃ q, (p == 1 || p == 2) = q := ⟨_, rfl⟩
  obtain ⟨x, hx⟩ : ∃ x, deadS p g d e = x := ⟨_, rfl⟩
  obtain ⟨y, hy⟩ : ∃ y, wroteS n s a b g t = y := ⟨_, rfl⟩
  obtain ⟨z, hz⟩ : ∃ z, writeS n s a b g t = z := ⟨_, rfl⟩
  rw [hr, hq, hx, hy, hz] at HVH
  rw [hr]
  rw [hq] at HI
  rw [hx] at HD
  rw [hy] at HW
  rw [hz] at HR
  clear hb hp hr hq hx hy hz hmax
  go_enter Tryd.func42, Tryd.ntmps42
  go_upto_region 1 with (fail)
  generalize w.alloc (.cells #[.int .i64 n, .int .i64 s, .int .i64 a, .int .i64 b, .bool g, .string (text t), .int .i64 d, .int .i64 e] 50) = W1 at *
  have hcur := Below.refl W1.heap.size W1
  obtain ⟨c0, c1, c2, c3, c4, c5, c6, c7⟩ := HC.out _ hcur
  cases q with
  | false =>
    go_wp2_with (first
      | (go_at_call 69; (with_reducible refine (HI.out _).mono ?_); rintro e9 w9 ⟨rfl, rfl⟩))
    go_ret
    exact ⟨by rw [HVH.out]; rfl, HB.out.trans (hcur.mono HB.out.size)⟩
  | true =>
    cases x with
    | false =>
      go_wp2_with (first
        | (go_at_call 69; (with_reducible refine (HI.out _).mono ?_); rintro e9 w9 ⟨rfl, rfl⟩)
        | (go_at_call 70; (with_reducible refine (HD.out _).mono ?_); rintro e9 w9 ⟨rfl, hb9⟩; (replace hcur := hcur.trans (hb9.mono hcur.size)); clear hb9; obtain ⟨c0, c1, c2, c3, c4, c5, c6, c7⟩ := HC.out _ hcur))
      go_ret
      exact ⟨by rw [HVH.out]; rfl, HB.out.trans (hcur.mono HB.out.size)⟩
    | true =>
      cases y with
      | false =>
        go_wp2_with (first
          | (go_at_call 69; (with_reducible refine (HI.out _).mono ?_); rintro e9 w9 ⟨rfl, rfl⟩)
          | (go_at_call 70; (with_reducible refine (HD.out _).mono ?_); rintro e9 w9 ⟨rfl, hb9⟩; (replace hcur := hcur.trans (hb9.mono hcur.size)); clear hb9; obtain ⟨c0, c1, c2, c3, c4, c5, c6, c7⟩ := HC.out _ hcur)
          | (go_at_call 63; (with_reducible refine (HW.out _).mono ?_); rintro e9 w9 ⟨rfl, hb9⟩; (replace hcur := hcur.trans (hb9.mono hcur.size)); clear hb9; obtain ⟨c0, c1, c2, c3, c4, c5, c6, c7⟩ := HC.out _ hcur))
        go_ret
        exact ⟨by rw [HVH.out]; rfl, HB.out.trans (hcur.mono HB.out.size)⟩
      | true =>
        cases z with
        | false =>
          go_wp2_with (first
            | (go_at_call 69; (with_reducible refine (HI.out _).mono ?_); rintro e9 w9 ⟨rfl, rfl⟩)
            | (go_at_call 70; (with_reducible refine (HD.out _).mono ?_); rintro e9 w9 ⟨rfl, hb9⟩; (replace hcur := hcur.trans (hb9.mono hcur.size)); clear hb9; obtain ⟨c0, c1, c2, c3, c4, c5, c6, c7⟩ := HC.out _ hcur)
            | (go_at_call 63; (with_reducible refine (HW.out _).mono ?_); rintro e9 w9 ⟨rfl, hb9⟩; (replace hcur := hcur.trans (hb9.mono hcur.size)); clear hb9; obtain ⟨c0, c1, c2, c3, c4, c5, c6, c7⟩ := HC.out _ hcur)
            | (go_at_call 71; (with_reducible refine (HR.out _).mono ?_); rintro e9 w9 ⟨rfl, hb9⟩; (replace hcur := hcur.trans (hb9.mono hcur.size)); clear hb9; obtain ⟨c0, c1, c2, c3, c4, c5, c6, c7⟩ := HC.out _ hcur))
          go_ret
          exact ⟨by rw [HVH.out]; rfl, HB.out.trans (hcur.mono HB.out.size)⟩
        | true =>
          go_wp2_with (first
            | (go_at_call 69; (with_reducible refine (HI.out _).mono ?_); rintro e9 w9 ⟨rfl, rfl⟩)
            | (go_at_call 70; (with_reducible refine (HD.out _).mono ?_); rintro e9 w9 ⟨rfl, hb9⟩; (replace hcur := hcur.trans (hb9.mono hcur.size)); clear hb9; obtain ⟨c0, c1, c2, c3, c4, c5, c6, c7⟩ := HC.out _ hcur)
            | (go_at_call 63; (with_reducible refine (HW.out _).mono ?_); rintro e9 w9 ⟨rfl, hb9⟩; (replace hcur := hcur.trans (hb9.mono hcur.size)); clear hb9; obtain ⟨c0, c1, c2, c3, c4, c5, c6, c7⟩ := HC.out _ hcur)
            | (go_at_call 71; (with_reducible refine (HR.out _).mono ?_); rintro e9 w9 ⟨rfl, hb9⟩; (replace hcur := hcur.trans (hb9.mono hcur.size)); clear hb9; obtain ⟨c0, c1, c2, c3, c4, c5, c6, c7⟩ := HC.out _ hcur))
          go_ret
          exact ⟨by rw [HVH.out]; rfl, HB.out.trans (hcur.mono HB.out.size)⟩
end Go.Proofs.YtkjpmdpljdgcjaaDoor
