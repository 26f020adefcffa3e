/-
  Cell: what is needed of the program's stamp and vec.
-/
import Derived.Test.YtkjpmdpljdgcjaaDoorCS
import Derived.Test.YtkjpmdpljdgcjaaDoorPP
import Derived.Test.YtkjpmdpljdgcjaaDoorNG
import Derived.WideShapes
import Derived.ChangeSame
import Derived.OpenShut
import Derived.Deep.Slices
namespace Go.Proofs.YtkjpmdpljdgcjaaDoor
open Go.RowKit Go Go.Sort Go.Deep
set_option linter.unusedVariables false
set_option maxRecDepth 20000

def IsI64 (n : Int) : Prop := -9223372036854775808 ≤ n ∧ n ≤ 9223372036854775807
theorem isI64_of_wf {n : Int} (h : (Lit.int .i64 n).wf = true) : IsI64 n := by
  simpa [IsI64, Lit.wf, IntKind.min, IntKind.max, IntKind.signed, IntKind.bits] using h
theorem stamp_cells {H : Type} {enc : TypeId × Value → H} {W : World} {base : Nat} {sp held : Bool} {fuel : Nat} {cs : List Value} {x : DataW H × List MemPlace} (h : DataW.trod enc Tryd.prog W base (fun _ => sp) held fuel 48 cs = some x) :
    ∃ a b, cs = [.int .i64 a, .int .i64 b] ∧ IsI64 a ∧ IsI64 b := by
  obtain ⟨xs, m, _, rfl, hl, hlen, hf⟩ := DataW.trod_struct Tryd.underlying48 h
  have h2 : Tryd.prog.cellsOf 48 = 2 := by kernel_rfl
  have h1 : Tryd.prog.cellsOf 3 = 1 := by kernel_rfl
  rw [h2] at hl
  match xs, hlen with
  | [y0, y1], _ =>
    have i0 := hf 0 _ rfl
    have i1 := hf 1 _ rfl
    match cs, hl with
    | [c0, c1], _ =>
      have j0 : DataW.trod enc Tryd.prog W base (fun _ => sp) held m 3 (([c0, c1].drop 0).take (Tryd.prog.cellsOf 3)) = some y0 := i0
      have j1 : DataW.trod enc Tryd.prog W base (fun _ => sp) held m 3 (([c0, c1].drop 1).take (Tryd.prog.cellsOf 3)) = some y1 := i1
      rw [h1] at j0 j1
      obtain ⟨a, ha, _, wa⟩ := DataW.trod_int Tryd.underlying3 j0
      obtain ⟨b, hb, _, wb⟩ := DataW.trod_int Tryd.underlying3 j1
      simp at ha hb
      subst ha
      subst hb
      exact ⟨a, b, rfl, isI64_of_wf wa, isI64_of_wf wb⟩
theorem open_stamp {H : Type} {enc : TypeId × Value → H} {W : World} {base : Nat} {v : Value} {d : DataW H} {p : List MemPlace} (hv : Value.okWide Tryd.prog W .any base 48 v)
    (h : DataW.Trod enc Tryd.prog W 0 (fun _ => true) true 48 v d p) : ∃ a b, v = .agg #[.int .i64 a, .int .i64 b] ∧ IsI64 a ∧ IsI64 b := by
  simp only [Value.okWide, Tryd.underlying48] at hv
  obtain ⟨cs, rfl, hs, _⟩ := hv
  obtain ⟨m, hm⟩ := h
  obtain ⟨a, b, hc, ha, hb⟩ := stamp_cells hm
  refine ⟨a, b, ?_, ha, hb⟩
  congr 1
  apply Array.toList_inj.1
  exact hc
theorem vec_cells {H : Type} {enc : TypeId × Value → H} {W : World} {base : Nat} {sp : Nat → Bool} {held : Bool} {fuel : Nat} {cs : List Value} {x : DataW H × List MemPlace} (h : DataW.trod enc Tryd.prog W base sp held fuel 44 cs = some x) :
    ∃ a b, cs = [.int .i64 a, .int .i64 b] ∧ IsI64 a ∧ IsI64 b := by
  obtain ⟨xs, m, rfl, rfl, hl, hx, hi⟩ := DataW.trod_array Tryd.underlying44 h
  have h2 : Tryd.prog.cellsOf 44 = 2 := by kernel_rfl
  have h1 : Tryd.prog.cellsOf 3 = 1 := by kernel_rfl
  rw [h2] at hl
  rw [h1] at hi
  match cs, hl with
  | [c0, c1], _ =>
    have i0 := hi 0 (by omega)
    have i1 := hi 1 (by omega)
    rw [List.getElem?_eq_getElem (by omega)] at i0 i1
    obtain ⟨a, ha, _, wa⟩ := DataW.trod_int Tryd.underlying3 i0
    obtain ⟨b, hb, _, wb⟩ := DataW.trod_int Tryd.underlying3 i1
    simp at ha hb
    subst ha
    subst hb
    exact ⟨a, b, rfl, isI64_of_wf wa, isI64_of_wf wb⟩
theorem open_vec {H : Type} {enc : TypeId × Value → H} {W : World} {base : Nat} {v : Value} {d : DataW H} {p : List MemPlace} (hv : Value.okWide Tryd.prog W .any base 44 v)
    (h : DataW.Trod enc Tryd.prog W 0 (fun _ => true) true 44 v d p) : ∃ a b, v = .agg #[.int .i64 a, .int .i64 b] ∧ IsI64 a ∧ IsI64 b := by
  simp only [Value.okWide, Tryd.underlying44] at hv
  obtain ⟨cs, rfl, hs, _⟩ := hv
  obtain ⟨m, hm⟩ := h
  obtain ⟨a, b, hc, ha, hb⟩ := vec_cells hm
  refine ⟨a, b, ?_, ha, hb⟩
  congr 1
  apply Array.toList_inj.1
  exact hc
theorem srun_part_int {W : World} (xs : Array Value) (k : Nat) {v : Value} (hv : xs[k]? = some v) : (part 3 xs k).run Tryd.prog W = .ok v W := by
  have hi : (Tryd.prog.info? 3).map (fun i => (i.zero, i.size, i.bytes)) = some (some (.int .i64 0), 1, 8) := by kernel_rfl
  obtain ⟨i0, hi, hz0, hz1, hz2⟩ := info_parts hi
  have hag : (isAgg 3).run Tryd.prog W = .ok false W := by
    unfold isAgg
    rw [Sem.run_bind, run_underlying Tryd.underlying3 W]
    rfl
  simp [part, hag, sizeOf, typeInfo, hi, hz1, hv, go_sem]
theorem stamp_eqIn (x y x' y' : Int) (W : World) : (Op.equalIn 10000 48 (.agg #[.int .i64 x, .int .i64 y]) (.agg #[.int .i64 x', .int .i64 y'])).run Tryd.prog W = .ok ((x == x') && (y == y')) W := by
  rw [run_equalIn_struct W 9999 _ _ _ Tryd.underlying48 (by kernel_rfl)]
  obtain ⟨f0, f1, hf, h0, h1, t0, t1, n0, n1⟩ : ∃ f0 f1, (Tryd.prog.fieldsOf 48).toList = [f0, f1] ∧ f0.offset = 0 ∧ f1.offset = 1 ∧ f0.type = 3 ∧ f1.type = 3 ∧ f0.name ≠ "_" ∧ f1.name ≠ "_" := ⟨_, _, rfl, rfl, rfl, rfl, rfl, by decide, by decide⟩
  rw [hf]
  have p0 := srun_part_int (W := W) #[.int .i64 x, .int .i64 y] 0 rfl
  have p1 := srun_part_int (W := W) #[.int .i64 x, .int .i64 y] 1 rfl
  have q0 := srun_part_int (W := W) #[.int .i64 x', .int .i64 y'] 0 rfl
  have q1 := srun_part_int (W := W) #[.int .i64 x', .int .i64 y'] 1 rfl
  cases e0 : (x == x') <;> cases e1 : (y == y') <;> simp [Op.eqFields, n0, n1, h0, h1, t0, t1, p0, q0, p1, q1, e0, e1, run_equalIn_int W 9998 3 .i64 .i64 _ _ Tryd.underlying3, Sem.run_bind, Result.andThen_ok]
theorem stamp_eql (x y : Int) (W : World) : (binOp .eql 48 (.agg #[.int .i64 x, .int .i64 y]) (.agg #[.int .i64 x, .int .i64 y])).run Tryd.prog W = .ok (.bool true) W := by
  rw [run_eql_struct, stamp_eqIn]; simp
theorem stamp_neq (x y : Int) (W : World) : (binOp .neq 48 (.agg #[.int .i64 x, .int .i64 y]) (.agg #[.int .i64 x, .int .i64 y])).run Tryd.prog W = .ok (.bool false) W := by
  rw [run_neq_struct, stamp_eqIn]; simp
theorem stamp_eqg (op : BinOp) (x y : Operand) (xs ys : Array Value) (W : World) : (eqGuard op 48 x y (.agg xs) (.agg ys)).run Tryd.prog W = .ok () W := run_eqGuard_agg W op _ x y xs ys (by kernel_rfl)
theorem stamp_eqb (x y x' y' : Int) (b : Bool) (h : ((x == x') && (y == y')) = b) (W : World) : (binOp .eql 48 (.agg #[.int .i64 x, .int .i64 y]) (.agg #[.int .i64 x', .int .i64 y'])).run Tryd.prog W = .ok (.bool b) W := by
  rw [run_eql_struct, stamp_eqIn, h]; rfl
set_option maxHeartbeats 800000 in
theorem issite_c (s : Int) (w : World) : Calls Tryd.prog 120 #[.int .i64 s] w (fun e w' => e = .returned (.bool (decide (s = 1 ∨ s = 2))) ∧ w' = w) := by
  by_cases h1 : s = 1
  · subst h1
    go_enter Tryd.func120, Tryd.ntmps120
    go_wp2
    go_ret
    exact ⟨rfl, rfl⟩
  · have e1 : (s == 1) = false := by simpa using h1
    by_cases h2 : s = 2
    · subst h2
      go_enter Tryd.func120, Tryd.ntmps120
      go_wp2
      go_ret
      exact ⟨rfl, rfl⟩
    · have e2 : (s == 2) = false := by simpa using h2
      have hd : decide (s = 1 ∨ s = 2) = false := by simp [h1, h2]
      rw [hd]
      clear h1 h2 hd
      go_enter Tryd.func120, Tryd.ntmps120
      go_wp2
      go_ret
      exact ⟨rfl, rfl⟩
set_option maxHeartbeats 1600000 in
theorem sgood_c (n s : Int) (w : World) : Calls Tryd.prog 111 #[.agg #[.int .i64 n, .int .i64 s]] w (Tells (.bool (sgood n s)) w) := by
  have hp := Pair.new w 48 n s
  have hb := alloc_below w (.cells #[.int .i64 n, .int .i64 s] 48)
  have h0 := hp.c0
  have h1 := hp.c1
  have HB := Lib.hid hb
  have HS := Lib.hid (issite_c s)
  have hEG := stamp_eqg
  clear hp hb
  by_cases z : n = 0 ∧ s = 0
  · obtain ⟨rfl, rfl⟩ := z
    have hEQ := stamp_eql
    rw [show sgood 0 0 = true by decide]
    go_enter Tryd.func111, Tryd.ntmps111
    go_wp2
    go_ret
    exact ⟨rfl, HB.out⟩
  · have hEQ := stamp_eqb n s 0 0 false (by rw [Bool.eq_false_iff]; simp; intro h1 h2; exact z ⟨h1, h2⟩)
    by_cases hs : s = 1 ∨ s = 2
    · rw [decide_eq_true hs] at HS
      by_cases n1 : 1 ≤ n
      · by_cases n2 : n ≤ 281474976710656
        · have hv : sgood n s = true := by unfold sgood; simp; omega
          rw [hv]
          clear hv z hs
          go_enter Tryd.func111, Tryd.ntmps111
          go_wp2_with (go_at_call 120; (with_reducible refine (HS.out _).mono ?_); rintro e w1 ⟨rfl, rfl⟩)
          go_ret
          exact ⟨rfl, HB.out⟩
        · have hv : sgood n s = false := by unfold sgood; simp; omega
          rw [hv]
          clear hv z hs
          go_enter Tryd.func111, Tryd.ntmps111
          go_wp2_with (go_at_call 120; (with_reducible refine (HS.out _).mono ?_); rintro e w1 ⟨rfl, rfl⟩)
          go_ret
          exact ⟨by simp; omega, HB.out⟩
      · have hv : sgood n s = false := by unfold sgood; simp; omega
        rw [hv]
        clear hv z hs
        go_enter Tryd.func111, Tryd.ntmps111
        go_wp2_with (go_at_call 120; (with_reducible refine (HS.out _).mono ?_); rintro e w1 ⟨rfl, rfl⟩)
        go_ret
        exact ⟨rfl, HB.out⟩
    · rw [decide_eq_false hs] at HS
      have hv : sgood n s = false := by unfold sgood; simp; omega
      rw [hv]
      clear hv z hs
      go_enter Tryd.func111, Tryd.ntmps111
      go_wp2_with (go_at_call 120; (with_reducible refine (HS.out _).mono ?_); rintro e w1 ⟨rfl, rfl⟩)
      go_ret
      exact ⟨rfl, HB.out⟩
def scodeP (n s : Int) : Int := if sgood n s = true then scode n s else -1
set_option maxHeartbeats 1600000 in
theorem scode_c (n s : Int) (w : World) : Calls Tryd.prog 122 #[.agg #[.int .i64 n, .int .i64 s]] w (Tells (.int .i64 (scodeP n s)) w) := by
  have hp := Pair.new w 48 n s
  have hb := alloc_below w (.cells #[.int .i64 n, .int .i64 s] 48)
  have hEG := stamp_eqg
  have HV := Lib.hid (show scodeP n s = if sgood n s = true then scode n s else -1 from rfl)
  have G := sgood_c n s
  have HP := Lib.hid hp
  have HB := Lib.hid hb
  have p0 := hp.c0
  have p1 := hp.c1
  clear hp hb
  cases hg : sgood n s with
  | false =>
    rw [hg] at G
    have HG := Lib.hid G
    have hv : scodeP n s = -1 := by rw [HV.out, if_neg (by simp [hg])]
    rw [hv]
    clear hv G hg
    go_enter Tryd.func122, Tryd.ntmps122
    go_wp2_with (go_at_call 111; (with_reducible refine (HG.out _).mono ?_); rintro e w1 ⟨rfl, hb1⟩)
    go_ret
    exact ⟨rfl, HB.out.trans (hb1.mono HB.out.size)⟩
  | true =>
    rw [hg] at G
    have HG := Lib.hid G
    have hgd : (n = 0 ∧ s = 0) ∨ (1 ≤ n ∧ n ≤ 281474976710656 ∧ (s = 1 ∨ s = 2)) := by simpa [sgood] using hg
    have hv : scodeP n s = scode n s := by rw [HV.out, if_pos (by simp [hg])]
    rw [hv]
    rcases hgd with ⟨rfl, rfl⟩ | ⟨h1, h2, h3⟩
    · have hEQ := stamp_eql
      rw [show scode 0 0 = 0 by decide]
      clear hv G hg
      go_enter Tryd.func122, Tryd.ntmps122
      go_wp2_with (go_at_call 111; (with_reducible refine (HG.out _).mono ?_); rintro e w1 ⟨rfl, hb1⟩; have q0 := (HP.out.kept hb1).c0; have q1 := (HP.out.kept hb1).c1)
      go_ret
      exact ⟨rfl, HB.out.trans (hb1.mono HB.out.size)⟩
    · have hEQ := stamp_eqb n s 0 0 false (by rw [Bool.eq_false_iff]; simp; omega)
      have hc : scode n s = 2 * n + s - 1 := by unfold scode; rw [if_neg (by omega)]
      rw [hc]
      have hs1 : 1 ≤ s ∧ s ≤ 2 := by omega
      clear hv G hg hc h3
      go_enter Tryd.func122, Tryd.ntmps122
      go_wp2_with (go_at_call 111; (with_reducible refine (HG.out _).mono ?_); rintro e w1 ⟨rfl, hb1⟩; have q0 := (HP.out.kept hb1).c0; have q1 := (HP.out.kept hb1).c1)
      go_ret
      exact ⟨rfl, HB.out.trans (hb1.mono HB.out.size)⟩
set_option maxHeartbeats 1600000 in
theorem decode_zero (w : World) : Calls Tryd.prog 114 #[.int .i64 0] w (Tells (.agg #[.int .i64 0, .int .i64 0]) w) := by
  have hp := Pair.new w 48 0 0
  have hb := alloc_below w (.cells #[.int .i64 0, .int .i64 0] 48)
  have HP := Lib.hid hp
  have HB := Lib.hid hb
  have p0 := hp.c0
  have p1 := hp.c1
  have z0 := hp.fz 0
  have z1 := hp.fz 1
  clear hp hb
  go_enter Tryd.func114, Tryd.ntmps114
  go_wp2
  refine bodyPost_ret (results_cell_row rfl _ _ w.heap.size 48 _ (0, 0) _ rfl HP.out Tryd.underlying48 rfl (size2s _ _)) rfl ⟨rfl, HB.out⟩
set_option maxHeartbeats 1600000 in
theorem decode_c (x d r : Int) (hx : 0 < x) (hm : x ≤ 4611686018427387903) (hd : x / 2 = d) (hr : x % 2 = r) (w : World) : Calls Tryd.prog 114 #[.int .i64 x] w (Tells (.agg #[.int .i64 d, .int .i64 (r + 1)]) w) := by
  have hdv : Int.tdiv x 2 = d := by rw [← hd]; exact Int.tdiv_eq_ediv_of_nonneg (by omega)
  have hmd : Int.tmod x 2 = r := by rw [← hr]; exact Int.tmod_eq_emod_of_nonneg (by omega)
  have hd1 : 0 ≤ d ∧ d ≤ 4611686018427387903 := by omega
  have hr1 : 0 ≤ r ∧ r ≤ 1 := by omega
  have e0 : (x == 0) = false := by rw [beq_eq_false_iff_ne]; omega
  have hp := Pair.new w 48 0 0
  have hb := alloc_below w (.cells #[.int .i64 0, .int .i64 0] 48)
  have HP := Lib.hid hp
  have HB := Lib.hid hb
  have p0 := hp.c0
  have p1 := hp.c1
  have z0 := hp.fz 0
  have z1 := hp.fz 1
  clear hp hb hd hr
  go_enter Tryd.func114, Tryd.ntmps114
  go_wp2
  refine bodyPost_ret (results_cell_row rfl _ _ w.heap.size 48 _ (0, 0) _ rfl (Pair.new _ _ _ _) Tryd.underlying48 rfl (size2s _ _)) rfl ⟨rfl, alloc_below _ _⟩
set_option maxHeartbeats 1600000 in
theorem sput_c {w : World} {a : Option Addr} {m cap : Nat} {l : List UInt8} (hl : Bys w a m cap l) (hn : m ≤ 1000000) (hT : TabW w) (n s : Int) :
    Calls Tryd.prog 119 #[.slice a m cap, .agg #[.int .i64 n, .int .i64 s]] w (BytesPost (sputS l n s) w) := by
  have hp := Pair.new w 48 n s
  have hb := alloc_below w (.cells #[.int .i64 n, .int .i64 s] 48)
  have HL := Lib.hid (hl.below hb)
  have HTb := Lib.hid (hT.below hb)
  have HP := Lib.hid hp
  have HB := Lib.hid hb
  have C := scode_c n s
  have l0 := HP.out.c0
  have l1 := HP.out.c1
  have hv : sputS l n s = l ++ numB (scodeP n s) := by
    unfold sputS scodeP
    cases hg : sgood n s with
    | false => simp; rw [numB_none (.inl (by decide))]
    | true => simp
  have hbd : -9223372036854775808 ≤ scodeP n s ∧ scodeP n s ≤ 9223372036854775807 := by
    unfold scodeP
    cases hg : sgood n s with
    | false => simp
    | true =>
      have hgd : (n = 0 ∧ s = 0) ∨ (1 ≤ n ∧ n ≤ 281474976710656 ∧ (s = 1 ∨ s = 2)) := by simpa [sgood] using hg
      simp; unfold scode; split <;> omega
  rw [hv]
  obtain ⟨c, hc⟩ : ∃ c, scodeP n s = c := ⟨_, rfl⟩
  rw [hc] at C hbd ⊢
  have HC := Lib.hid C
  obtain ⟨hc0, hc1⟩ := hbd
  have HR := Lib.hid (fun (W : World) (h : Bys W a m cap l) (hT : TabW W) => put_c h hn c hc0 hc1 hT)
  clear hp hb hl hT C hv hc
  go_enter Tryd.func119, Tryd.ntmps119
  go_upto_region 1 with (fail)
  generalize w.alloc (.cells #[.int .i64 n, .int .i64 s] 48) = W1 at *
  go_wp2_with (first
    | (go_at_call 122; (with_reducible refine (HC.out _).mono ?_); rintro e w2 ⟨rfl, hb2⟩)
    | (go_at_call 108; (with_reducible refine (HR.out _ (HL.out.below hb2) (HTb.out.below hb2)).mono ?_); rintro e w3 ⟨v, rfl, ho, hb3⟩))
  go_ret
  have h2 := HB.out.trans (hb2.mono HB.out.size)
  exact ⟨_, rfl, ho.mono h2.size, h2.trans (hb3.mono h2.size)⟩
theorem sget_alt (l : List UInt8) : sgetS l = if ¬ (getS l).2.2 = 0 then ((0, 0), 0, (getS l).2.2)
    else if (getS l).1 = 0 then ((0, 0), (getS l).2.1, 0)
    else if sgood ((getS l).1 / 2) ((getS l).1 % 2 + 1) = true then (((getS l).1 / 2, (getS l).1 % 2 + 1), (getS l).2.1, 0) else ((0, 0), 0, 11) := by
  unfold sgetS
  rw [Int.add_comm 1 ((getS l).1 % 2)]
set_option maxHeartbeats 1600000 in
theorem sget_c {w : World} {a : Option Addr} {m cap : Nat} {l : List UInt8} (hl : Bys w a m cap l) :
    Calls Tryd.prog 100 #[.slice a m cap] w (Tells (.tuple #[.agg #[.int .i64 (sgetS l).1.1, .int .i64 (sgetS l).1.2], .int .i64 (sgetS l).2.1, .int .i64 (sgetS l).2.2]) w) := by
  have ho := Pair.new w 48 0 0
  have hb := alloc_below w (.cells #[.int .i64 0, .int .i64 0] 48)
  have HR := Lib.hid (get_c (hl.below hb))
  have HV := Lib.hid (sget_alt l)
  have hok := getS_ok l
  have HO := Lib.hid ho
  have HB := Lib.hid hb
  obtain ⟨⟨x, k, f⟩, hx⟩ : ∃ q, getS l = q := ⟨_, rfl⟩
  rw [hx] at HR HV hok
  simp only at HR HV hok
  clear hl ho hb hx
  by_cases hf : f = 0
  · subst hf
    obtain ⟨q, rfl, hq1, hq2, x0, x1⟩ := hok rfl
    clear hok hq2
    obtain ⟨d, r, hD, hV⟩ : ∃ d r, (∀ W, Calls Tryd.prog 114 #[.int .i64 x] W (Tells (.agg #[.int .i64 d, .int .i64 r]) W)) ∧ (sgetS l = if sgood d r = true then ((d, r), (q : Int), 0) else ((0, 0), 0, 11)) := by
      by_cases hx : x = 0
      · subst hx
        exact ⟨0, 0, decode_zero, by rw [HV.out, if_neg (by simp), if_pos rfl, if_pos (by decide)]⟩
      · exact ⟨_, _, decode_c x _ _ (by omega) x1 rfl rfl, by rw [HV.out, if_neg (by simp), if_neg hx]⟩
    have HD := Lib.hid hD
    have HV2 := Lib.hid hV
    have G := sgood_c d r
    clear HV hD hV
    go_enter Tryd.func100, Tryd.ntmps100
    go_upto_region 1 with (fail)
    generalize w.alloc (.cells #[.int .i64 0, .int .i64 0] 48) = W1 at *
    go_upto_region 5 with (first
      | (go_at_call 79; (with_reducible refine HR.out.mono ?_); rintro e w1 ⟨rfl, rfl⟩)
      | (go_at_call 114; (with_reducible refine (HD.out _).mono ?_); rintro e w2 ⟨rfl, hb2⟩))
    have HO2 := Lib.hid ((HO.out.kept hb2).alloc (.cells #[.int .i64 d, .int .i64 r] 48))
    have hx2 := Pair.new w2 48 d r
    have h2 := HB.out.trans (hb2.mono HB.out.size)
    have HB2 := Lib.hid (h2.alloc h2.size (.cells #[.int .i64 d, .int .i64 r] 48))
    obtain ⟨gx, hgx⟩ : ∃ g, w2.heap.size = g := ⟨_, rfl⟩
    rw [hgx] at hx2 ⊢
    generalize w2.alloc (.cells #[.int .i64 d, .int .i64 r] 48) = W2 at *
    have u0 := hx2.c0
    have u1 := hx2.c1
    have HX2 := Lib.hid hx2
    clear hx2 h2 hb2 hgx HO HB
    cases hg : sgood d r with
    | true =>
      rw [hg] at G HV2
      have HG := Lib.hid G
      have HV3 := Lib.hid (show sgetS l = ((d, r), (q : Int), 0) by rw [HV2.out, if_pos rfl])
      clear G hg HV2
      go_wp2_with (go_at_call 111; (with_reducible refine (HG.out _).mono ?_); rintro e w3 ⟨rfl, hb3⟩; have y0 := (HX2.out.kept hb3).c0; have y1 := (HX2.out.kept hb3).c1; have o0 := (HO2.out.kept hb3).c0; have o1 := (HO2.out.kept hb3).c1; have z0 := (HO2.out.kept hb3).fz 0; have z1 := (HO2.out.kept hb3).fz 1)
      refine bodyPost_ret (res_cell_tmp2 rfl _ _ w.heap.size 48 _ (0, 0) _ (.int .i64 (q : Int)) (.int .i64 0) rfl rfl rfl (((HO2.out.kept hb3).set0 _).set1 _) Tryd.underlying48 rfl (size2s _ _)) rfl ⟨by rw [HV3.out], ((HB2.out.trans (hb3.mono HB2.out.size)).setCell (by simp) _).setCell (by simp) _⟩
    | false =>
      rw [hg] at G HV2
      have HG := Lib.hid G
      have HV3 := Lib.hid (show sgetS l = ((0, 0), 0, 11) by rw [HV2.out, if_neg (by simp)])
      clear G hg HV2
      go_wp2_with (go_at_call 111; (with_reducible refine (HG.out _).mono ?_); rintro e w3 ⟨rfl, hb3⟩; have y0 := (HX2.out.kept hb3).c0; have y1 := (HX2.out.kept hb3).c1; have o0 := (HO2.out.kept hb3).c0; have o1 := (HO2.out.kept hb3).c1; have z0 := (HO2.out.kept hb3).fz 0; have z1 := (HO2.out.kept hb3).fz 1)
      refine bodyPost_ret (res_cell_tmp2 rfl _ _ w.heap.size 48 _ (0, 0) _ (.int .i64 0) (.int .i64 11) rfl rfl rfl (((HO2.out.kept hb3).set0 _).set1 _) Tryd.underlying48 rfl (size2s _ _)) rfl ⟨by rw [HV3.out], ((HB2.out.trans (hb3.mono HB2.out.size)).setCell (by simp) _).setCell (by simp) _⟩
  · have hf1 : (f != 0) = true := by simpa using hf
    have hv : sgetS l = ((0, 0), 0, f) := by rw [HV.out, if_pos hf]
    have HV2 := Lib.hid hv
    clear hv HV hok
    go_enter Tryd.func100, Tryd.ntmps100
    go_upto_region 1 with (fail)
    generalize w.alloc (.cells #[.int .i64 0, .int .i64 0] 48) = W1 at *
    have o0 := HO.out.c0
    have o1 := HO.out.c1
    have z0 := HO.out.fz 0
    have z1 := HO.out.fz 1
    go_wp2_with (go_at_call 79; (with_reducible refine HR.out.mono ?_); rintro e w1 ⟨rfl, rfl⟩)
    refine bodyPost_ret (res_cell_tmp2 rfl _ _ w.heap.size 48 _ (0, 0) _ (.int .i64 0) (.int .i64 f) rfl rfl rfl ((HO.out.set0 _).set1 _) Tryd.underlying48 rfl (size2s _ _)) rfl ⟨by rw [HV2.out], (HB.out.setCell (by simp) _).setCell (by simp) _⟩
theorem run_part_int {W : World} (xs : Array Value) (k : Nat) {v : Value} (hv : xs[k]? = some v) : (part 3 xs k).run Tryd.prog W = .ok v W := by
  have hi : (Tryd.prog.info? 3).map (fun i => (i.zero, i.size, i.bytes)) = some (some (.int .i64 0), 1, 8) := by kernel_rfl
  obtain ⟨i0, hi, hz0, hz1, hz2⟩ := info_parts hi
  have hag : (isAgg 3).run Tryd.prog W = .ok false W := by
    unfold isAgg
    rw [Sem.run_bind, run_underlying Tryd.underlying3 W]
    rfl
  simp [part, hag, sizeOf, typeInfo, hi, hz1, hv, go_sem]
theorem vec_eqIn (x y x' y' : Int) (W : World) : (Op.equalIn 10000 44 (.agg #[.int .i64 x, .int .i64 y]) (.agg #[.int .i64 x', .int .i64 y'])).run Tryd.prog W = .ok ((x == x') && (y == y')) W := by
  have hi : (Tryd.prog.info? 3).map (fun i => (i.zero, i.size, i.bytes)) = some (some (.int .i64 0), 1, 8) := by kernel_rfl
  obtain ⟨i3, hi3, _, _, _⟩ := info_parts hi
  have hc : Tryd.prog.cellsOf 3 = 1 := by kernel_rfl
  rw [run_equalIn_array W 9999 _ _ Tryd.underlying44 hi3, hc]
  have p0 := run_part_int (W := W) #[.int .i64 x, .int .i64 y] 0 rfl
  have p1 := run_part_int (W := W) #[.int .i64 x, .int .i64 y] 1 rfl
  have q0 := run_part_int (W := W) #[.int .i64 x', .int .i64 y'] 0 rfl
  have q1 := run_part_int (W := W) #[.int .i64 x', .int .i64 y'] 1 rfl
  show (Op.eqItems 9999 3 1 _ _ [0, 1]).run Tryd.prog W = _
  simp only [Op.eqItems, Sem.run_bind, Nat.zero_mul, Nat.one_mul, p0, q0, Result.andThen_ok]
  cases h0 : (x == x') <;> cases h1 : (y == y') <;> simp [p1, q1, h0, h1, run_equalIn_int W 9998 3 .i64 .i64 _ _ Tryd.underlying3]
theorem vec_eql (x y : Int) (W : World) : (binOp .eql 44 (.agg #[.int .i64 x, .int .i64 y]) (.agg #[.int .i64 x, .int .i64 y])).run Tryd.prog W = .ok (.bool true) W := by
  rw [run_eql_struct, vec_eqIn]; simp
theorem vec_neq (x y : Int) (W : World) : (binOp .neq 44 (.agg #[.int .i64 x, .int .i64 y]) (.agg #[.int .i64 x, .int .i64 y])).run Tryd.prog W = .ok (.bool false) W := by
  rw [run_neq_struct, vec_eqIn]; simp
theorem vec_eqg (op : BinOp) (x y : Operand) (xs ys : Array Value) (W : World) : (eqGuard op 44 x y (.agg xs) (.agg ys)).run Tryd.prog W = .ok () W := run_eqGuard_agg W op _ x y xs ys (by kernel_rfl)
/-- One block is other than it was. -/
structure Wrote (g : Nat) (cs : Array Value) (t : TypeId) (w w' : World) : Prop where
  os : w'.os = w.os
  tape : w'.tape = w.tape
  output : w'.output = w.output
  size : w.heap.size ≤ w'.heap.size
  cell : w'.heap[g]? = some (.cells cs t (0, 0))
  rest : ∀ k, k < w.heap.size → k ≠ g → w'.heap[k]? = w.heap[k]?
theorem Wrote.below {g : Nat} {cs : Array Value} {t : TypeId} {w w' : World} (h : Wrote g cs t w w') {B : Nat} (hB : B ≤ g) (hg : g ≤ w.heap.size) : Below B w w' :=
  ⟨h.os, h.tape, h.output, h.size, fun k hk => h.rest k (by omega) (by omega)⟩
theorem Wrote.of_set {g : Nat} {t : TypeId} {w w1 : World} {cs : Array Value} (hb : Below w.heap.size w w1) (hc : w1.heap[g]? = some (.cells cs t (0, 0))) (i : Nat) (v : Value) :
    Wrote g (cs.setIfInBounds i v) t w (w1.setCell ⟨g, i, none⟩ v) := by
  refine ⟨hb.os, hb.tape, hb.output, ?_, heap_setCell_same w1 g i _ t _ hc, fun k hk hkg => ?_⟩
  · exact Nat.le_trans hb.size (Nat.le_of_eq (World.size_setCell _ _ _).symm)
  · rw [heap_setCell_other w1 _ k _ hkg]; exact hb.block k hk
theorem Wrote.trans {g : Nat} {t : TypeId} {w w1 w2 : World} {cs cs' : Array Value} (h : Wrote g cs t w w1) (k : Wrote g cs' t w1 w2) : Wrote g cs' t w w2 :=
  ⟨k.os.trans h.os, k.tape.trans h.tape, k.output.trans h.output, Nat.le_trans h.size k.size, k.cell, fun i hi hg => (k.rest i (Nat.lt_of_lt_of_le hi h.size) hg).trans (h.rest i hi hg)⟩
theorem Wrote.after {g : Nat} {t : TypeId} {w w1 w2 : World} {cs : Array Value} (h : Below w.heap.size w w1) (k : Wrote g cs t w1 w2) : Wrote g cs t w w2 :=
  ⟨k.os.trans h.os, k.tape.trans h.tape, k.output.trans h.output, Nat.le_trans h.size k.size, k.cell, fun i hi hg => (k.rest i (Nat.lt_of_lt_of_le hi h.size) hg).trans (h.block i hi)⟩
theorem Wrote.pair {g g' : Nat} {t t' : TypeId} {w w' : World} {cs : Array Value} {a b : Int} (h : Wrote g cs t w w') (hp : Pair w g' t' a b) (hne : g' ≠ g) : Pair w' g' t' a b :=
  (h.rest g' hp.lt hne).trans hp
/-- Nothing comes back; one block is other than it was. -/
def Sets (g : Nat) (cs : Array Value) (t : TypeId) (w : World) (e : Ending) (w' : World) : Prop := e = .returned (.tuple #[]) ∧ Wrote g cs t w w'
theorem idx_vec (xs : Array Value) (k : Nat) (hk : k < 2) {v : Value} (hv : xs[k]? = some v) (W : World) : (Instr.index 44 (.agg xs) (.int .i64 (k : Int))).run Tryd.prog W = .ok v W := by
  have hi : (Tryd.prog.info? 3).map (fun i => (i.zero, i.size, i.bytes)) = some (some (.int .i64 0), 1, 8) := by kernel_rfl
  obtain ⟨i0, hi, hz0, hz1, hz2⟩ := info_parts hi
  simp [Instr.index, run_underlying Tryd.underlying44, asIntOf, hk, hv, sizeOf, typeInfo, hi, hz1, go_sem]
theorem idx0 (a b : Int) (W : World) : (Instr.index 44 (.agg #[.int .i64 a, .int .i64 b]) (.int .i64 0)).run Tryd.prog W = .ok (.int .i64 a) W := idx_vec _ 0 (by decide) rfl W
theorem idx1 (a b : Int) (W : World) : (Instr.index 44 (.agg #[.int .i64 a, .int .i64 b]) (.int .i64 1)).run Tryd.prog W = .ok (.int .i64 b) W := idx_vec _ 1 (by decide) rfl W
theorem step_cov (k : Bool) (a b c d : Int) : (k && decide (c ≤ a) && decide (d ≤ b)) = (k && vcov a b c d) := by unfold vcov; cases k <;> rfl
set_option maxHeartbeats 800000 in
theorem cov1_c (i x y : Int) (c : Bool) (g : Nat) {w : World} (h : w.heap[g]? = some (.cells #[.bool c] 4 (0, 0))) :
    Calls Tryd.prog 91 #[.int .i64 i, .int .i64 x, .int .i64 y, .pointer (some ⟨g, 0, none⟩)] w (Sets g #[.bool (c && decide (y ≤ x))] 4 w) := by
  have h0 : w.cell? ⟨g, 0, none⟩ = some (.bool c) := by rw [cell_of_row w g 0 _ 4 (0, 0) h]; rfl
  have hz : w.frozen? ⟨g, 0, none⟩ = false := frozen_of_row w g 0 _ 4 h
  have HH := Lib.hid h
  clear h
  cases c <;> by_cases g0 : y ≤ x
  all_goals
    have HD := Lib.hid (show decide (y ≤ x) = _ from rfl)
    simp only [g0, decide_true, decide_false] at HD
    go_enter Tryd.func91, Tryd.ntmps91
    go_wp2
    refine bodyPost_ret (results_none rfl _ _ _) rfl ⟨rfl, ?_⟩
    first
      | exact Wrote.of_set (Below.refl _ _) HH.out 0 _
      | (have hd : decide (y ≤ x) = false := by simp; omega
         rw [hd]; exact Wrote.of_set (Below.refl _ _) HH.out 0 _)
      | (have hd : decide (y ≤ x) = true := by simp; omega
         rw [hd]; exact Wrote.of_set (Below.refl _ _) HH.out 0 _)
set_option maxHeartbeats 800000 in
theorem join1_c0 (x y p q : Int) (g : Nat) {w : World} (h : w.heap[g]? = some (.cells #[.int .i64 p, .int .i64 q] 44 (0, 0))) :
    Calls Tryd.prog 76 #[.int .i64 0, .int .i64 x, .int .i64 y, .pointer (some ⟨g, 0, none⟩)] w (Sets g #[.int .i64 (Max.max x y), .int .i64 q] 44 w) := by
  have h0 := Pair.c0 h
  have hz := Pair.fz h 0
  have HH := Lib.hid h
  clear h
  go_enter Tryd.func76, Tryd.ntmps76
  go_wp2
  all_goals
    refine bodyPost_ret (results_none rfl _ _ _) rfl ⟨rfl, ?_⟩
    first
      | exact Wrote.of_set (Below.refl _ _) HH.out 0 _
      | (have hm : Max.max x y = x := by omega
         rw [hm]; exact Wrote.of_set (Below.refl _ _) HH.out 0 _)
      | (have hm : Max.max x y = y := by omega
         rw [hm]; exact Wrote.of_set (Below.refl _ _) HH.out 0 _)
set_option maxHeartbeats 800000 in
theorem join1_c1 (x y p q : Int) (g : Nat) {w : World} (h : w.heap[g]? = some (.cells #[.int .i64 p, .int .i64 q] 44 (0, 0))) :
    Calls Tryd.prog 76 #[.int .i64 1, .int .i64 x, .int .i64 y, .pointer (some ⟨g, 0, none⟩)] w (Sets g #[.int .i64 p, .int .i64 (Max.max x y)] 44 w) := by
  have h0 := Pair.c1 h
  have hz := Pair.fz h 1
  have HH := Lib.hid h
  clear h
  go_enter Tryd.func76, Tryd.ntmps76
  go_wp2
  all_goals
    refine bodyPost_ret (results_none rfl _ _ _) rfl ⟨rfl, ?_⟩
    first
      | exact Wrote.of_set (Below.refl _ _) HH.out 1 _
      | (have hm : Max.max x y = x := by omega
         rw [hm]; exact Wrote.of_set (Below.refl _ _) HH.out 1 _)
      | (have hm : Max.max x y = y := by omega
         rw [hm]; exact Wrote.of_set (Below.refl _ _) HH.out 1 _)
set_option maxHeartbeats 1600000 in
theorem each_cov (a b c d : Int) (k : Bool) (g : Nat) {w : World} (h : w.heap[g]? = some (.cells #[.bool k] 4 (0, 0))) :
    Calls Tryd.prog 75 #[.agg #[.int .i64 a, .int .i64 b], .agg #[.int .i64 c, .int .i64 d], .func (.func 91) #[] #[.pointer (some ⟨g, 0, none⟩)]] w (Sets g #[.bool (k && decide (c ≤ a) && decide (d ≤ b))] 4 w) := by
  have hg : g < w.heap.size := (Array.getElem?_eq_some_iff.1 h).1
  have hp := (Pair.new w 44 a b).alloc (.cells #[.int .i64 c, .int .i64 d] 44)
  have hq := Pair.second w (.cells #[.int .i64 a, .int .i64 b] 44) 44 c d
  have hb := second_below w (.cells #[.int .i64 a, .int .i64 b] 44) (.cells #[.int .i64 c, .int .i64 d] 44)
  have hW : Wrote g #[.bool k] 4 w ((w.alloc (.cells #[.int .i64 a, .int .i64 b] 44)).alloc (.cells #[.int .i64 c, .int .i64 d] 44)) :=
    ⟨hb.os, hb.tape, hb.output, hb.size, (hb.block g hg).trans h, fun k hk _ => hb.block k hk⟩
  have HA := Lib.hid (fun (W : World) (h : W.heap[g]? = _) => cov1_c 0 a c k g h)
  have HB := Lib.hid (fun (W : World) (h : W.heap[g]? = _) => cov1_c 1 b d (k && decide (c ≤ a)) g h)
  clear h hb
  go_enter Tryd.func75, Tryd.ntmps75
  go_upto_region 1 with (fail)
  generalize (w.alloc (.cells #[.int .i64 a, .int .i64 b] 44)).alloc (.cells #[.int .i64 c, .int .i64 d] 44) = W1 at *
  have p0 := hp.c0
  have p1 := hp.c1
  have HP := Lib.hid hp
  have HQ := Lib.hid hq
  have HW := Lib.hid hW
  clear hp hq hW
  go_wp2
  go_loopw [9] (fun i wr => (Pair wr w.heap.size 44 a b ∧ Pair wr (w.heap.size + 1) 44 c d) ∧ ((i = .int .i64 0 ∧ Wrote g #[.bool k] 4 w wr) ∨ (i = .int .i64 1 ∧ Wrote g #[.bool (k && decide (c ≤ a))] 4 w wr) ∨ (i = .int .i64 2 ∧ Wrote g #[.bool (k && decide (c ≤ a) && decide (d ≤ b))] 4 w wr))) (fun i _ => 2 - (intOf i).toNat)
  case atStart => exact ⟨⟨HP.out, HQ.out⟩, .inl ⟨rfl, HW.out⟩⟩
  case round =>
    clear HP HQ HW p0 p1
    obtain ⟨⟨hp, hq⟩, ⟨rfl, hW⟩ | ⟨rfl, hW⟩ | ⟨rfl, hW⟩⟩ := hrel
    · have q0 := hq.c0
      have hix := idx0 a b
      have HP := Lib.hid hp
      have HQ := Lib.hid hq
      have HW := Lib.hid hW
      clear hp hq hW
      go_wp2_with (go_at_call 91; (with_reducible refine (HA.out _ HW.out.cell).mono ?_); rintro e w2 ⟨rfl, hw2⟩)
      have HR := Lib.hid (HW.out.trans hw2)
      have HP2 := Lib.hid (hw2.pair HP.out (by omega))
      have HQ2 := Lib.hid (hw2.pair HQ.out (by omega))
      clear hw2 q0
      go_wp2
      go_roundw
      case rel => exact ⟨⟨HP2.out, HQ2.out⟩, .inr (.inl ⟨rfl, HR.out⟩)⟩
      case measure => simp [intOf]
    · have q1 := hq.c1
      have hix := idx1 a b
      have HP := Lib.hid hp
      have HQ := Lib.hid hq
      have HW := Lib.hid hW
      clear hp hq hW
      go_wp2_with (go_at_call 91; (with_reducible refine (HB.out _ HW.out.cell).mono ?_); rintro e w2 ⟨rfl, hw2⟩)
      have HR := Lib.hid (HW.out.trans hw2)
      have HP2 := Lib.hid (hw2.pair HP.out (by omega))
      have HQ2 := Lib.hid (hw2.pair HQ.out (by omega))
      clear hw2 q1
      go_wp2
      go_roundw
      case rel => exact ⟨⟨HP2.out, HQ2.out⟩, .inr (.inr ⟨rfl, HR.out⟩)⟩
      case measure => simp [intOf]
    · have HW := Lib.hid hW
      clear hp hq hW
      go_wp2
      refine bodyPost_ret (results_none rfl _ _ _) rfl ⟨rfl, HW.out⟩
set_option maxHeartbeats 1600000 in
theorem each_join (a b c d : Int) (p q : Int) (g : Nat) {w : World} (h : w.heap[g]? = some (.cells #[.int .i64 p, .int .i64 q] 44 (0, 0))) :
    Calls Tryd.prog 75 #[.agg #[.int .i64 a, .int .i64 b], .agg #[.int .i64 c, .int .i64 d], .func (.func 76) #[] #[.pointer (some ⟨g, 0, none⟩)]] w (Sets g #[.int .i64 (Max.max a c), .int .i64 (Max.max b d)] 44 w) := by
  have hg : g < w.heap.size := (Array.getElem?_eq_some_iff.1 h).1
  have hp := (Pair.new w 44 a b).alloc (.cells #[.int .i64 c, .int .i64 d] 44)
  have hq := Pair.second w (.cells #[.int .i64 a, .int .i64 b] 44) 44 c d
  have hb := second_below w (.cells #[.int .i64 a, .int .i64 b] 44) (.cells #[.int .i64 c, .int .i64 d] 44)
  have hW : Wrote g #[.int .i64 p, .int .i64 q] 44 w ((w.alloc (.cells #[.int .i64 a, .int .i64 b] 44)).alloc (.cells #[.int .i64 c, .int .i64 d] 44)) :=
    ⟨hb.os, hb.tape, hb.output, hb.size, (hb.block g hg).trans h, fun k hk _ => hb.block k hk⟩
  have HA := Lib.hid (fun (W : World) (h : W.heap[g]? = _) => join1_c0 a c p q g h)
  have HB := Lib.hid (fun (W : World) (h : W.heap[g]? = _) => join1_c1 b d (Max.max a c) q g h)
  clear h hb
  go_enter Tryd.func75, Tryd.ntmps75
  go_upto_region 1 with (fail)
  generalize (w.alloc (.cells #[.int .i64 a, .int .i64 b] 44)).alloc (.cells #[.int .i64 c, .int .i64 d] 44) = W1 at *
  have p0 := hp.c0
  have p1 := hp.c1
  have HP := Lib.hid hp
  have HQ := Lib.hid hq
  have HW := Lib.hid hW
  clear hp hq hW
  go_wp2
  go_loopw [9] (fun i wr => (Pair wr w.heap.size 44 a b ∧ Pair wr (w.heap.size + 1) 44 c d) ∧ ((i = .int .i64 0 ∧ Wrote g #[.int .i64 p, .int .i64 q] 44 w wr) ∨ (i = .int .i64 1 ∧ Wrote g #[.int .i64 (Max.max a c), .int .i64 q] 44 w wr) ∨ (i = .int .i64 2 ∧ Wrote g #[.int .i64 (Max.max a c), .int .i64 (Max.max b d)] 44 w wr))) (fun i _ => 2 - (intOf i).toNat)
  case atStart => exact ⟨⟨HP.out, HQ.out⟩, .inl ⟨rfl, HW.out⟩⟩
  case round =>
    clear HP HQ HW p0 p1
    obtain ⟨⟨hp, hq⟩, ⟨rfl, hW⟩ | ⟨rfl, hW⟩ | ⟨rfl, hW⟩⟩ := hrel
    · have q0 := hq.c0
      have hix := idx0 a b
      have HP := Lib.hid hp
      have HQ := Lib.hid hq
      have HW := Lib.hid hW
      clear hp hq hW
      go_wp2_with (go_at_call 76; (with_reducible refine (HA.out _ HW.out.cell).mono ?_); rintro e w2 ⟨rfl, hw2⟩)
      have HR := Lib.hid (HW.out.trans hw2)
      have HP2 := Lib.hid (hw2.pair HP.out (by omega))
      have HQ2 := Lib.hid (hw2.pair HQ.out (by omega))
      clear hw2 q0
      go_wp2
      go_roundw
      case rel => exact ⟨⟨HP2.out, HQ2.out⟩, .inr (.inl ⟨rfl, HR.out⟩)⟩
      case measure => simp [intOf]
    · have q1 := hq.c1
      have hix := idx1 a b
      have HP := Lib.hid hp
      have HQ := Lib.hid hq
      have HW := Lib.hid hW
      clear hp hq hW
      go_wp2_with (go_at_call 76; (with_reducible refine (HB.out _ HW.out.cell).mono ?_); rintro e w2 ⟨rfl, hw2⟩)
      have HR := Lib.hid (HW.out.trans hw2)
      have HP2 := Lib.hid (hw2.pair HP.out (by omega))
      have HQ2 := Lib.hid (hw2.pair HQ.out (by omega))
      clear hw2 q1
      go_wp2
      go_roundw
      case rel => exact ⟨⟨HP2.out, HQ2.out⟩, .inr (.inr ⟨rfl, HR.out⟩)⟩
      case measure => simp [intOf]
    · have HW := Lib.hid hW
      clear hp hq hW
      go_wp2
      refine bodyPost_ret (results_none rfl _ _ _) rfl ⟨rfl, HW.out⟩
theorem Wrote.flag {g : Nat} {v : Value} {t : TypeId} {w w' : World} (h : Wrote g #[v] t w w') : w'.cell? ⟨g, 0, none⟩ = some v := by
  rw [cell_of_row w' g 0 _ t (0, 0) h.cell]; rfl
theorem flag_new (W : World) (v : Value) (t : TypeId) : (W.alloc (.cells #[v] t)).heap[W.heap.size]? = some (.cells #[v] t (0, 0)) := heap_alloc_new W _
theorem mkf (fn : Fn) (first cap : Array Value) (w : World) : (Instr.makeFunc fn first cap).run Tryd.prog w = .ok (.func fn first cap) w := rfl
set_option maxHeartbeats 1600000 in
theorem vcov_c (a b c d : Int) (w : World) : Calls Tryd.prog 64 #[.agg #[.int .i64 a, .int .i64 b], .agg #[.int .i64 c, .int .i64 d]] w (Tells (.bool (vcov a b c d)) w) := by
  have hp := (Pair.new w 44 a b).alloc (.cells #[.int .i64 c, .int .i64 d] 44)
  have hq := Pair.second w (.cells #[.int .i64 a, .int .i64 b] 44) 44 c d
  have hb := second_below w (.cells #[.int .i64 a, .int .i64 b] 44) (.cells #[.int .i64 c, .int .i64 d] 44)
  have hs : ((w.alloc (.cells #[.int .i64 a, .int .i64 b] 44)).alloc (.cells #[.int .i64 c, .int .i64 d] 44)).heap.size = w.heap.size + 1 + 1 := by simp
  have HE := Lib.hid (fun (W : World) (g : Nat) (h : W.heap[g]? = _) => each_cov a b c d true g h)
  have HS := Lib.hid (step_cov true a b c d)
  have hmf := mkf
  go_enter Tryd.func64, Tryd.ntmps64
  go_upto_region 1 with (fail)
  generalize (w.alloc (.cells #[.int .i64 a, .int .i64 b] 44)).alloc (.cells #[.int .i64 c, .int .i64 d] 44) = W1 at *
  have HP := Lib.hid hp
  have HQ := Lib.hid hq
  have HB := Lib.hid hb
  have HZ := Lib.hid hs
  clear hp hq hb hs
  go_upto_region 2 with (fail)
  have hp2 := HP.out.alloc (.cells #[.bool true] 4)
  have hq2 := HQ.out.alloc (.cells #[.bool true] 4)
  have hb2 := HB.out.alloc HB.out.size (.cells #[.bool true] 4)
  have hf2 := flag_new W1 (.bool true) 4
  obtain ⟨g, hg⟩ : ∃ g, W1.heap.size = g := ⟨_, rfl⟩
  have hs2 : g ≤ (W1.alloc (.cells #[.bool true] 4)).heap.size := by simp [World.size_alloc]; omega
  have hwg : w.heap.size ≤ g := by rw [← hg]; exact HB.out.size
  rw [hg] at hf2 ⊢
  generalize W1.alloc (.cells #[.bool true] 4) = W2 at *
  have p0 := hp2.c0
  have p1 := hp2.c1
  have q0 := hq2.c0
  have q1 := hq2.c1
  have HF := Lib.hid hf2
  have HB2 := Lib.hid hb2
  have HS2 := Lib.hid hs2
  clear hp2 hq2 hf2 hb2 hs2 HP HQ HB HZ hg
  go_upto_region 3 with (go_at_call 75; (with_reducible refine (HE.out _ g HF.out).mono ?_); rintro e w3 ⟨rfl, hw3⟩)
  have hv := hw3.flag
  rw [HS.out] at hv
  have HW := Lib.hid (HB2.out.trans (hw3.below hwg HS2.out))
  clear hw3 p0 p1 q0 q1
  go_wp2
  go_ret
  exact ⟨by simp, HW.out⟩
theorem each_start {W1 w : World} {g : Nat} (hB : Below w.heap.size w W1) (hg : W1.heap.size = g) (o : Obj) : w.heap.size ≤ g ∧ g ≤ (W1.alloc o).heap.size ∧ Below w.heap.size w (W1.alloc o) :=
  ⟨by rw [← hg]; exact hB.size, by simp [World.size_alloc]; omega, hB.alloc hB.size o⟩
theorem vgood_cov (a b : Int) : vgood a b = (vcov a b 0 0 && vcov 1099511627776 1099511627776 a b) := by
  unfold vgood vcov
  rw [Bool.eq_iff_iff]
  simp only [Bool.and_eq_true, decide_eq_true_eq]
  omega
set_option maxHeartbeats 1600000 in
theorem vgood_c (a b : Int) (w : World) : Calls Tryd.prog 93 #[.agg #[.int .i64 a, .int .i64 b]] w (Tells (.bool (vgood a b)) w) := by
  have hp := Pair.new w 44 a b
  have hb := alloc_below w (.cells #[.int .i64 a, .int .i64 b] 44)
  have HV := Lib.hid (vgood_cov a b)
  have H1 := Lib.hid (vcov_c a b 0 0)
  have H2 := Lib.hid (vcov_c 1099511627776 1099511627776 a b)
  have HP := Lib.hid hp
  have HB := Lib.hid hb
  have p0 := hp.c0
  have p1 := hp.c1
  clear hp hb
  cases e1 : vcov a b 0 0 <;> cases e2 : vcov 1099511627776 1099511627776 a b
  all_goals
    rw [e1, e2] at HV
    rw [e1] at H1
    rw [e2] at H2
    clear e1 e2
    go_enter Tryd.func93, Tryd.ntmps93
    go_wp2_with (first
      | (go_at_call 64; (with_reducible refine (H2.out w1).mono ?_); rintro e w2 ⟨rfl, hb2⟩; have hs2 := HB.out.trans ((hb1.trans (hb2.mono hb1.size)).mono HB.out.size))
      | (go_at_call 64; (with_reducible refine (H1.out _).mono ?_); rintro e w1 ⟨rfl, hb1⟩; have hs1 := HB.out.trans (hb1.mono HB.out.size); have q0 := (HP.out.kept hb1).c0; have q1 := (HP.out.kept hb1).c1))
    go_ret
    refine ⟨by rw [HV.out]; rfl, ?_⟩
    first
      | exact hs2
      | exact hs1
set_option maxHeartbeats 1600000 in
theorem vjoin_c {w : World} {a : Option Addr} {n cap : Nat} {l : List (Int × Int)} (hl : Prs w a n cap l) : Calls Tryd.prog 44 #[.slice a n cap] w (Tells (.agg #[.int .i64 (joinS l).1, .int .i64 (joinS l).2]) w) := by
  have hln := hl.len
  have hnle := hl.le
  have hnm := hl.max
  have ho := (Pair.new w 44 0 0).alloc (.cells #[.int .i64 0, .int .i64 0] 44)
  have hq := Pair.second w (.cells #[.int .i64 0, .int .i64 0] 44) 44 0 0
  have hb := second_below w (.cells #[.int .i64 0, .int .i64 0] 44) (.cells #[.int .i64 0, .int .i64 0] 44)
  have hmf := mkf
  have HL := Lib.hid hl
  clear hl
  go_enter Tryd.func44, Tryd.ntmps44
  go_upto_region 2 with (fail)
  generalize (w.alloc (.cells #[.int .i64 0, .int .i64 0] 44)).alloc (.cells #[.int .i64 0, .int .i64 0] 44) = W1 at *
  have HQ := Lib.hid hq
  have HO := Lib.hid ho
  have HB := Lib.hid hb
  clear hq ho hb
  go_wp2
  go_loopw [8] (fun i wr => ∃ k : Nat, k ≤ n ∧ i = .int .i64 k ∧ Pair wr (w.heap.size + 1) 44 (joinS (l.take k)).1 (joinS (l.take k)).2 ∧ Pair wr w.heap.size 44 0 0 ∧ Below w.heap.size w wr) (fun i _ => n - (intOf i).toNat)
  case atStart => exact ⟨0, by omega, rfl, HQ.out, HO.out, HB.out⟩
  case round =>
    clear HQ HO HB
    obtain ⟨k, hk, rfl, hq, ho, hB⟩ := hrel
    by_cases hlt : k < n
    · have hki : (k : Int) < (n : Int) := by omega
      have hki2 : (k : Int) < (cap : Int) := by omega
      obtain ⟨b, off, rfl, hcell⟩ : ∃ b off, a = some ⟨b, off, none⟩ ∧ ∀ i, i < n → w.cell? ⟨b, off + i * 2, none⟩ = some (.int .i64 (l.getD i (0, 0)).1) ∧ w.cell? ⟨b, off + i * 2 + 1, none⟩ = some (.int .i64 (l.getD i (0, 0)).2) := by
        rcases HL.out.adr with h0 | h
        · omega
        · exact h
      have HCW := Lib.hid (fun W (h : Below w.heap.size w W) => (show W.cell? ⟨b, off + k * 2, none⟩ = some (.int .i64 (l.getD k (0, 0)).1) ∧ W.cell? ⟨b, off + k * 2 + 1, none⟩ = some (.int .i64 (l.getD k (0, 0)).2) from
        ⟨(h.cell (World.block_lt_of_cell? w _ (hcell k hlt).1)).trans (hcell k hlt).1, (h.cell (World.block_lt_of_cell? w _ (hcell k hlt).2)).trans (hcell k hlt).2⟩))
      have HJ := Lib.hid (joinS_take l k (by omega))
      obtain ⟨x, hx⟩ : ∃ x, l.getD k (0, 0) = x := ⟨_, rfl⟩
      obtain ⟨j, hj⟩ : ∃ j, joinS (l.take k) = j := ⟨_, rfl⟩
      simp only [hx] at HCW
      rw [hx] at HJ
      rw [hj] at hq HJ
      obtain ⟨x0, x1⟩ := x
      obtain ⟨j0, j1⟩ := j
      simp only at HCW HJ hq
      obtain ⟨p0, p1⟩ := HCW.out wr hB
      have HE := Lib.hid (fun (W : World) (h : W.heap[w.heap.size + 1]? = _) => each_join j0 j1 x0 x1 j0 j1 (w.heap.size + 1) h)
      have HQ := Lib.hid hq
      have HO := Lib.hid ho
      have HB := Lib.hid hB
      clear hcell hx hj hq ho hB
      go_upto_region 5 with (fail)
      have hq2 := HQ.out.alloc (.cells #[.int .i64 x0, .int .i64 x1] 44)
      have hx2 := Pair.new wr 44 x0 x1
      have HO2 := Lib.hid (HO.out.alloc (.cells #[.int .i64 x0, .int .i64 x1] 44))
      have HB2 := Lib.hid (HB.out.alloc HB.out.size (.cells #[.int .i64 x0, .int .i64 x1] 44))
      have HS2 := Lib.hid (show w.heap.size + 1 ≤ (wr.alloc (.cells #[.int .i64 x0, .int .i64 x1] 44)).heap.size from Nat.le_of_lt hq2.lt)
      obtain ⟨gx, hgx⟩ : ∃ g, wr.heap.size = g := ⟨_, rfl⟩
      rw [hgx] at hx2 ⊢
      generalize wr.alloc (.cells #[.int .i64 x0, .int .i64 x1] 44) = W2 at *
      have q0 := hq2.c0
      have q1 := hq2.c1
      have v0 := hx2.c0
      have v1 := hx2.c1
      have HF := Lib.hid (show W2.heap[w.heap.size + 1]? = some (.cells #[.int .i64 j0, .int .i64 j1] 44 (0, 0)) from hq2)
      clear hq2 hx2 p0 p1 HQ HO HB hgx
      go_wp2_with (go_at_call 75; (with_reducible refine (HE.out _ HF.out).mono ?_); rintro e w3 ⟨rfl, hw3⟩)
      have HV := Lib.hid (show Pair w3 (w.heap.size + 1) 44 (Max.max j0 x0) (Max.max j1 x1) from hw3.cell)
      have HO3 := Lib.hid (hw3.pair HO2.out (by omega))
      have HB3 := Lib.hid (HB2.out.trans (hw3.below (by omega) HS2.out))
      clear hw3
      go_wp2
      go_roundw
      case rel => exact ⟨k + 1, by omega, rfl, by rw [HJ.out]; exact HV.out, HO3.out, HB3.out⟩
      case measure => simp [intOf]; omega
    · obtain rfl : k = n := by omega
      rw [List.take_of_length_le (by omega)] at hq
      have q0 := hq.c0
      have q1 := hq.c1
      have o0 := ho.c0
      have o1 := ho.c1
      have z0 := ho.fz 0
      have z1 := ho.fz 1
      have HO := Lib.hid ho
      have HB := Lib.hid hB
      clear hq ho hB
      go_wp2
      refine bodyPost_ret (results_cell_row rfl _ _ w.heap.size 44 _ (0, 0) _ rfl ((HO.out.set0 _).set1 _) Tryd.underlying44 rfl (size2 _ _)) rfl ⟨rfl, (HB.out.setCell (Nat.le_refl _) _).setCell (Nat.le_refl _) _⟩
set_option maxRecDepth 100000 in
set_option maxHeartbeats 3200000 in
theorem vput_c {w : World} {a : Option Addr} {m cap : Nat} {l : List UInt8} (hl : Bys w a m cap l) (hn : m ≤ 100000) (hT : TabW w) (x y : Int) :
    Calls Tryd.prog 118 #[.slice a m cap, .agg #[.int .i64 x, .int .i64 y]] w (BytesPost (vputS l x y) w) := by
  obtain ⟨i0, hi, hz0, hz1, hz2⟩ := info_parts Tryd.info5
  have hp := Pair.new w 44 x y
  have hb := alloc_below w (.cells #[.int .i64 x, .int .i64 y] 44)
  have hln := hl.len
  have HL := Lib.hid (hl.below hb)
  have HTb := Lib.hid (hT.below hb)
  have HP := Lib.hid hp
  have HB := Lib.hid hb
  have G := vgood_c x y
  have HV := Lib.hid (show vputS l x y = if vgood x y = true then l ++ numB x ++ numB y else l from rfl)
  have l0 := HP.out.c0
  have l1 := HP.out.c1
  clear hp hb hl
  cases hg : vgood x y with
  | false =>
    rw [hg] at G
    have HG := Lib.hid G
    have hv : vputS l x y = l := by rw [HV.out, if_neg (by simp [hg])]
    rw [hv]
    clear hv HV G hg
    have HPut := Lib.hid (fun (W : World) (h : Bys W a m cap l) (hT : TabW W) => put_c h (show m ≤ 1000000 by omega) (-1) (by omega) (by omega) hT)
    rw [numB_none (.inl (by decide)), List.append_nil] at HPut
    go_enter Tryd.func118, Tryd.ntmps118
    go_upto_region 1 with (fail)
    generalize w.alloc (.cells #[.int .i64 x, .int .i64 y] 44) = W1 at *
    go_wp2_with (first
      | (go_at_call 93; (with_reducible refine (HG.out _).mono ?_); rintro e w2 ⟨rfl, hb2⟩)
      | (go_at_call 108; (with_reducible refine (HPut.out _ (HL.out.below hb2) (HTb.out.below hb2)).mono ?_); rintro e w3 ⟨v, rfl, ho, hb3⟩))
    go_ret
    have h2 := HB.out.trans (hb2.mono HB.out.size)
    exact ⟨_, rfl, ho.mono h2.size, h2.trans (hb3.mono h2.size)⟩
  | true =>
    rw [hg] at G
    have HG := Lib.hid G
    have hv : vputS l x y = l ++ numB x ++ numB y := by rw [HV.out, if_pos (by simp [hg])]
    rw [hv]
    obtain ⟨x0, x1, y0, y1⟩ := vgood_bd hg
    have hx8 := numB_length x
    obtain ⟨lx, hlx⟩ : ∃ q, l ++ numB x = q := ⟨_, rfl⟩
    have hxl : lx.length ≤ 1000000 := by rw [← hlx, List.length_append]; omega
    obtain ⟨ly, hly⟩ : ∃ q, lx ++ numB y = q := ⟨_, rfl⟩
    rw [hlx, hly]
    clear hv HV G hg
    go_enter Tryd.func118, Tryd.ntmps118
    go_upto_region 1 with (fail)
    generalize w.alloc (.cells #[.int .i64 x, .int .i64 y] 44) = W1 at *
    go_upto_region 3 with (go_at_call 93; (with_reducible refine (HG.out _).mono ?_); rintro e w2 ⟨rfl, hb2⟩)
    have HP2 := Lib.hid (HP.out.kept hb2)
    have HL2 := Lib.hid (HL.out.below hb2)
    have HT2 := Lib.hid (HTb.out.below hb2)
    have HB2 := Lib.hid (HB.out.trans (hb2.mono HB.out.size))
    clear l0 l1 hb2 HP HL HB
    have HC := Lib.hid (fun W (h : Below w2.heap.size w2 W) => And.intro (HP2.out.kept h).c0 (HP2.out.kept h).c1)
    have HPut := Lib.hid (fun W (h : Below w2.heap.size w2 W) => put_c (HL2.out.below h) (show m ≤ 1000000 by omega) x (by omega) (by omega) (HT2.out.below h))
    rw [hlx] at HPut
    have HPut2 := Lib.hid (fun (W : World) (h : Below w2.heap.size w2 W) (a' : Option Addr) (c' : Nat) (hy : Bys W a' lx.length c' lx) => put_c hy hxl y (by omega) (by omega) (HT2.out.below h))
    rw [hly] at HPut2
    clear hlx hly hln
    refine wp_region_flow [none, none, none, none, some 7, none, none, none, none, none, some 0, some 1, some 2, some 3, some 4, some 5, some 6] (fun i => if i = 7 then .slice none 0 0 else undef) [(fun v _ => v = .slice a m cap), (fun v _ => v = .pointer (some ⟨w.heap.size, 0, none⟩)), (fun v _ => v = .int .i64 x), (fun v W => OwnB W w.heap.size 5 v lx), (fun v _ => v = .pointer (some ⟨w.heap.size, 1, none⟩)), (fun v _ => v = .int .i64 y), (fun v W => OwnB W w.heap.size 5 v ly), (fun v W => OwnB W w.heap.size 5 v ly)] (by kernel_rfl) (by kernel_rfl) rfl rfl rfl ?_ ?_ ?_
    · intro g hg v X Y hX hY hv
      simp only [List.mem_cons, List.not_mem_nil, or_false] at hg
      rcases hg with rfl | rfl | rfl | rfl | rfl | rfl | rfl | rfl
      all_goals first
        | exact hv
        | exact hv.kept hY
    · simp only [flowOps, and_true]
      refine ⟨?_, ?_, ?_, ?_, ?_, ?_, ?_, ?_⟩
      · intro xs W hW hn
        simp only [flowAct, List.zipWith_cons_cons, List.zipWith_nil_left]
        go_wp2_with (fail)
        exact ⟨rfl, _, rfl, Below.refl _ _, rfl⟩
      · intro xs W hW hn
        obtain ⟨p0, p1⟩ := HC.out W hW
        simp only [flowAct, List.zipWith_cons_cons, List.zipWith_nil_left]
        go_wp2_with (fail)
        exact ⟨rfl, _, rfl, Below.refl _ _, rfl⟩
      · intro xs W hW hn
        obtain ⟨p0, p1⟩ := HC.out W hW
        simp [flowNeeds, Region.binds] at hn
        simp only [flowAct, List.zipWith_cons_cons, List.zipWith_nil_left, hn]
        go_wp2_with (fail)
        exact ⟨rfl, _, rfl, Below.refl _ _, rfl⟩
      · intro xs W hW hn
        simp [flowNeeds, Region.binds] at hn
        simp only [flowAct, List.zipWith_cons_cons, List.zipWith_nil_left, hn]
        go_wp2_with (go_at_call 108; (with_reducible refine (HPut.out _ hW).mono ?_); rintro e w9 ⟨v, rfl, ho, hb9⟩)
        exact ⟨rfl, _, rfl, hb9, ho.mono (Nat.le_trans HB2.out.size hW.size)⟩
      · intro xs W hW hn
        obtain ⟨p0, p1⟩ := HC.out W hW
        simp only [flowAct, List.zipWith_cons_cons, List.zipWith_nil_left]
        go_wp2_with (fail)
        exact ⟨rfl, _, rfl, Below.refl _ _, rfl⟩
      · intro xs W hW hn
        obtain ⟨p0, p1⟩ := HC.out W hW
        simp [flowNeeds, Region.binds] at hn
        simp only [flowAct, List.zipWith_cons_cons, List.zipWith_nil_left, hn]
        go_wp2_with (fail)
        exact ⟨rfl, _, rfl, Below.refl _ _, rfl⟩
      · intro xs W hW hn
        simp [flowNeeds, Region.binds] at hn
        obtain ⟨ho3, e5⟩ := hn
        obtain ⟨a', c', e3, hy3⟩ := ho3.bys
        simp only [flowAct, List.zipWith_cons_cons, List.zipWith_nil_left, e3, e5]
        go_wp2_with (go_at_call 108; (with_reducible refine (HPut2.out _ hW _ _ hy3).mono ?_); rintro e w9 ⟨v, rfl, ho, hb9⟩)
        exact ⟨rfl, _, rfl, hb9, ho.mono (Nat.le_trans HB2.out.size hW.size)⟩
      · intro xs W hW hn
        simp [flowNeeds, Region.binds] at hn
        simp only [flowAct, List.zipWith_cons_cons, List.zipWith_nil_left]
        go_wp2_with (fail)
        exact ⟨rfl, _, rfl, Below.refl _ _, hn.1⟩
    · intro xs W hW hall
      simp only [flowAll, and_true, Nat.zero_add, Nat.reduceAdd] at hall
      obtain ⟨-, -, -, -, -, -, -, e7⟩ := hall
      simp only [flowAct, List.zipWith_cons_cons, List.zipWith_nil_left]
      go_wp2
      go_ret
      exact ⟨_, rfl, e7, HB2.out.trans (hW.mono HB2.out.size)⟩
set_option maxHeartbeats 3200000 in
theorem vget_c {w : World} {a : Option Addr} {n cap : Nat} {l : List UInt8} (hl : Bys w a n cap l) :
    Calls Tryd.prog 102 #[.slice a n cap] w (Tells (.tuple #[.agg #[.int .i64 (vgetS l).1.1, .int .i64 (vgetS l).1.2], .int .i64 (vgetS l).2.1, .int .i64 (vgetS l).2.2]) w) := by
  have ho := (Pair.new w 44 0 0).alloc (.cells #[.int .i64 0, .int .i64 0] 44)
  have hv := Pair.second w (.cells #[.int .i64 0, .int .i64 0] 44) 44 0 0
  have hb := second_below w (.cells #[.int .i64 0, .int .i64 0] 44) (.cells #[.int .i64 0, .int .i64 0] 44)
  obtain ⟨a0, hs1, hs2, hl0⟩ := slice_bys hl (q := 0) (by omega)
  have hs1 : ∀ W', (Instr.slice 59 (.slice a n cap) (some (.int .i64 0)) none none).run Tryd.prog W' = .ok (.slice a0 (n - 0) (cap - 0)) W' := hs1
  have hs2 : ∀ W', (Instr.sliceAt 59 (.slice a n cap) (some (.int .i64 0)) none none).run Tryd.prog W' = .ok (.slice a0 (n - 0) (cap - 0)) W' := hs2
  simp only [Nat.sub_zero, List.drop_zero] at hs1 hs2 hl0
  have HR := Lib.hid (fun W (h : Below w.heap.size w W) => get_c (hl0.below h))
  have hok := getS_ok l
  have hlen := hl.len
  have hmx : n ≤ 9223372036854775807 := Nat.le_trans hl.le hl.max
  have HO := Lib.hid ho
  have HVc := Lib.hid hv
  have HB := Lib.hid hb
  clear ho hv hb hl0
  obtain ⟨⟨x, k, f⟩, hx⟩ : ∃ q, getS l = q := ⟨_, rfl⟩
  rw [hx] at HR hok
  simp only at HR hok
  have HS1 := Lib.hid hs1
  have HS2 := Lib.hid hs2
  clear hs1 hs2
  by_cases hf : f = 0
  · subst hf
    obtain ⟨q, rfl, hq1, hq2, x0, x1⟩ := hok rfl
    obtain ⟨a', ht1, ht2, hl2⟩ := slice_bys hl (q := q) (by omega)
    have HR2 := Lib.hid (fun W (h : Below w.heap.size w W) => get_c (hl2.below h))
    have hok2 := getS_ok (l.drop q)
    obtain ⟨⟨y, k2, f2⟩, hy⟩ : ∃ z, getS (l.drop q) = z := ⟨_, rfl⟩
    rw [hy] at HR2 hok2
    simp only at HR2 hok2
    have hq3 : q ≤ n := by omega
    have HT1 := Lib.hid ht1
    have HT2 := Lib.hid ht2
    have hqs : (q : Int) ≤ 9223372036854775807 := by omega
    clear hl hl2 hok ht1 ht2
    by_cases hf2 : f2 = 0
    · subst hf2
      obtain ⟨q2, rfl, hq4, hq5, y0, y1⟩ := hok2 rfl
      have HV := Lib.hid (vget_two hx hy)
      have hsum : ((q : Int) + (q2 : Int)) ≤ 9223372036854775807 := by rw [List.length_drop] at hq5; omega
      have G := vgood_c x y
      clear hok2 hq5 hx hy hlen hmx
      go_enter Tryd.func102, Tryd.ntmps102
      go_upto_region 2 with (fail)
      generalize (w.alloc (.cells #[.int .i64 0, .int .i64 0] 44)).alloc (.cells #[.int .i64 0, .int .i64 0] 44) = W1 at *
      go_wp2
      go_loopw [6, 11] (fun sz i wr => (Pair wr w.heap.size 44 0 0 ∧ Below w.heap.size w wr) ∧ ((i = .int .i64 0 ∧ sz = .int .i64 0 ∧ Pair wr (w.heap.size + 1) 44 0 0) ∨ (i = .int .i64 1 ∧ sz = .int .i64 (q : Int) ∧ Pair wr (w.heap.size + 1) 44 x 0) ∨ (i = .int .i64 2 ∧ sz = .int .i64 ((q : Int) + (q2 : Int)) ∧ Pair wr (w.heap.size + 1) 44 x y))) (fun _ i _ => 2 - (intOf i).toNat)
      case atStart => exact ⟨⟨HO.out, HB.out⟩, .inl ⟨rfl, rfl, HVc.out⟩⟩
      case round =>
        clear HO HB HVc
        obtain ⟨⟨ho, hB⟩, ⟨rfl, rfl, hv⟩ | ⟨rfl, rfl, hv⟩ | ⟨rfl, rfl, hv⟩⟩ := hrel
        · have HV0 := Lib.hid hv
          have HO2 := Lib.hid ho
          have HB2 := Lib.hid hB
          have hs1 := HS1.out
          have hs2 := HS2.out
          have u0 := hv.c0
          have z0 := hv.fz 0
          clear ho hB hv
          go_wp2_with (go_at_call 79; (with_reducible refine (HR.out _ HB2.out).mono ?_); rintro e w1 ⟨rfl, rfl⟩)
          go_roundw
          case rel => exact ⟨⟨HO2.out.other _ _ (by simp), HB2.out.setCell (by simp) _⟩, .inr (.inl ⟨rfl, by simp, HV0.out.set0 _⟩)⟩
          case measure => simp [intOf]
        · have HV0 := Lib.hid hv
          have HO2 := Lib.hid ho
          have HB2 := Lib.hid hB
          have ht1 := HT1.out
          have ht2 := HT2.out
          have u1 := hv.c1
          have z1 := hv.fz 1
          clear ho hB hv
          go_wp2_with (go_at_call 79; (with_reducible refine (HR2.out _ HB2.out).mono ?_); rintro e w1 ⟨rfl, rfl⟩)
          go_roundw
          case rel => exact ⟨⟨HO2.out.other _ _ (by simp), HB2.out.setCell (by simp) _⟩, .inr (.inr ⟨rfl, rfl, HV0.out.set1 _⟩)⟩
          case measure => simp [intOf]
        · have u0 := hv.c0
          have u1 := hv.c1
          have HX2 := Lib.hid hv
          have HO2 := Lib.hid ho
          have HB2 := Lib.hid hB
          clear ho hB hv
          cases hg : vgood x y with
          | true =>
            rw [hg] at G HV
            have HG := Lib.hid G
            have HV3 := Lib.hid (show vgetS l = ((x, y), (q : Int) + (q2 : Int), 0) by rw [HV.out, if_pos rfl])
            clear G hg HV
            go_wp2_with (go_at_call 93; (with_reducible refine (HG.out _).mono ?_); rintro e w3 ⟨rfl, hb3⟩; have y0 := (HX2.out.kept hb3).c0; have y1 := (HX2.out.kept hb3).c1; have o0 := (HO2.out.kept hb3).c0; have o1 := (HO2.out.kept hb3).c1; have z0 := (HO2.out.kept hb3).fz 0; have z1 := (HO2.out.kept hb3).fz 1)
            refine bodyPost_ret (res_cell_tmp2 rfl _ _ w.heap.size 44 _ (0, 0) _ (.int .i64 ((q : Int) + (q2 : Int))) (.int .i64 0) rfl rfl rfl (((HO2.out.kept hb3).set0 _).set1 _) Tryd.underlying44 rfl (size2 _ _)) rfl ⟨by rw [HV3.out], ((HB2.out.trans (hb3.mono HB2.out.size)).setCell (by simp) _).setCell (by simp) _⟩
          | false =>
            rw [hg] at G HV
            have HG := Lib.hid G
            have HV3 := Lib.hid (show vgetS l = ((0, 0), 0, 11) by rw [HV.out, if_neg (by simp)])
            clear G hg HV
            go_wp2_with (go_at_call 93; (with_reducible refine (HG.out _).mono ?_); rintro e w3 ⟨rfl, hb3⟩; have y0 := (HX2.out.kept hb3).c0; have y1 := (HX2.out.kept hb3).c1; have o0 := (HO2.out.kept hb3).c0; have o1 := (HO2.out.kept hb3).c1; have z0 := (HO2.out.kept hb3).fz 0; have z1 := (HO2.out.kept hb3).fz 1)
            refine bodyPost_ret (res_cell_tmp2 rfl _ _ w.heap.size 44 _ (0, 0) _ (.int .i64 0) (.int .i64 11) rfl rfl rfl (((HO2.out.kept hb3).set0 _).set1 _) Tryd.underlying44 rfl (size2 _ _)) rfl ⟨by rw [HV3.out], ((HB2.out.trans (hb3.mono HB2.out.size)).setCell (by simp) _).setCell (by simp) _⟩
    · have hf1 : (f2 != 0) = true := by simpa using hf2
      have HV2 := Lib.hid (vget_err2 hx hy hf2)
      clear hok2 hx hy hlen hf2 hmx
      go_enter Tryd.func102, Tryd.ntmps102
      go_upto_region 2 with (fail)
      generalize (w.alloc (.cells #[.int .i64 0, .int .i64 0] 44)).alloc (.cells #[.int .i64 0, .int .i64 0] 44) = W1 at *
      go_wp2
      go_loopw [6, 11] (fun sz i wr => (Pair wr w.heap.size 44 0 0 ∧ Below w.heap.size w wr) ∧ ((i = .int .i64 0 ∧ sz = .int .i64 0 ∧ Pair wr (w.heap.size + 1) 44 0 0) ∨ (i = .int .i64 1 ∧ sz = .int .i64 (q : Int) ∧ Pair wr (w.heap.size + 1) 44 x 0))) (fun _ i _ => 2 - (intOf i).toNat)
      case atStart => exact ⟨⟨HO.out, HB.out⟩, .inl ⟨rfl, rfl, HVc.out⟩⟩
      case round =>
        clear HO HB HVc
        obtain ⟨⟨ho, hB⟩, ⟨rfl, rfl, hv⟩ | ⟨rfl, rfl, hv⟩⟩ := hrel
        · have HV0 := Lib.hid hv
          have HO2 := Lib.hid ho
          have HB2 := Lib.hid hB
          have hs1 := HS1.out
          have hs2 := HS2.out
          have u0 := hv.c0
          have z0 := hv.fz 0
          clear ho hB hv
          go_wp2_with (go_at_call 79; (with_reducible refine (HR.out _ HB2.out).mono ?_); rintro e w1 ⟨rfl, rfl⟩)
          go_roundw
          case rel => exact ⟨⟨HO2.out.other _ _ (by simp), HB2.out.setCell (by simp) _⟩, .inr (⟨rfl, by simp, HV0.out.set0 _⟩)⟩
          case measure => simp [intOf]
        · have HO2 := Lib.hid ho
          have HB2 := Lib.hid hB
          have ht1 := HT1.out
          have ht2 := HT2.out
          have o0 := ho.c0
          have o1 := ho.c1
          have z0 := ho.fz 0
          have z1 := ho.fz 1
          clear ho hB hv
          go_wp2_with (go_at_call 79; (with_reducible refine (HR2.out _ HB2.out).mono ?_); rintro e w1 ⟨rfl, rfl⟩)
          refine bodyPost_ret (res_cell_tmp2 rfl _ _ w.heap.size 44 _ (0, 0) _ (.int .i64 0) (.int .i64 f2) rfl rfl rfl ((HO2.out.set0 _).set1 _) Tryd.underlying44 rfl (size2 _ _)) rfl ⟨by rw [HV2.out], (HB2.out.setCell (by simp) _).setCell (by simp) _⟩
  · have hf1 : (f != 0) = true := by simpa using hf
    have HV2 := Lib.hid (vget_err1 hx hf)
    clear hok hx hlen hf hl hmx
    go_enter Tryd.func102, Tryd.ntmps102
    go_upto_region 2 with (fail)
    generalize (w.alloc (.cells #[.int .i64 0, .int .i64 0] 44)).alloc (.cells #[.int .i64 0, .int .i64 0] 44) = W1 at *
    go_wp2
    go_loopw [6, 11] (fun sz i wr => (Pair wr w.heap.size 44 0 0 ∧ Below w.heap.size w wr) ∧ (i = .int .i64 0 ∧ sz = .int .i64 0)) (fun _ i _ => 2 - (intOf i).toNat)
    case atStart => exact ⟨⟨HO.out, HB.out⟩, rfl, rfl⟩
    case round =>
      clear HO HB HVc
      obtain ⟨⟨ho, hB⟩, rfl, rfl⟩ := hrel
      have HO2 := Lib.hid ho
      have HB2 := Lib.hid hB
      have hs1 := HS1.out
      have hs2 := HS2.out
      have o0 := ho.c0
      have o1 := ho.c1
      have z0 := ho.fz 0
      have z1 := ho.fz 1
      clear ho hB
      go_wp2_with (go_at_call 79; (with_reducible refine (HR.out _ HB2.out).mono ?_); rintro e w1 ⟨rfl, rfl⟩)
      refine bodyPost_ret (res_cell_tmp2 rfl _ _ w.heap.size 44 _ (0, 0) _ (.int .i64 0) (.int .i64 f) rfl rfl rfl ((HO2.out.set0 _).set1 _) Tryd.underlying44 rfl (size2 _ _)) rfl ⟨by rw [HV2.out], (HB2.out.setCell (by simp) _).setCell (by simp) _⟩
end Go.Proofs.YtkjpmdpljdgcjaaDoor
