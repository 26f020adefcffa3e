/-
  What row and join need beside the stack of cell.
-/
import Derived.Test.YtkjpmdpljdgcjaaDoorKG
import Derived.Test.YtkjpmdpljdgcjaaDoorKB
import Derived.Test.YtkjpmdpljdgcjaaDoorJR
import Derived.Test.YtkjpmdpljdgcjaaDoorBO
import Derived.Lib.MinMax
import Derived.ChangeArms
namespace Go.Proofs.YtkjpmdpljdgcjaaDoor
open Go.RowKit Go Go.Sort Go.Deep
set_option linter.unusedVariables false
set_option maxRecDepth 20000

def sless (n s m t : Int) : Bool := decide (n < m ∨ (n = m ∧ s < t))
set_option maxHeartbeats 1600000 in
theorem rsless_c (n s m t : Int) (w : World) : Calls Tryd.prog 95 #[.agg #[.int .i64 n, .int .i64 s], .agg #[.int .i64 m, .int .i64 t]] w (Tells (.bool (sless n s m t)) w) := by
  have hp := (Pair.new w 48 n s).alloc (.cells #[.int .i64 m, .int .i64 t] 48)
  have hq := Pair.second w (.cells #[.int .i64 n, .int .i64 s] 48) 48 m t
  have hb := second_below w (.cells #[.int .i64 n, .int .i64 s] 48) (.cells #[.int .i64 m, .int .i64 t] 48)
  have h0 := hp.c0
  have h1 := hp.c1
  have k0 := hq.c0
  have k1 := hq.c1
  have HB := Lib.hid hb
  have HV := Lib.hid (show sless n s m t = decide (n < m ∨ (n = m ∧ s < t)) from rfl)
  clear hp hq hb
  by_cases e : n = m
  · subst e
    by_cases l : s < t
    all_goals
      go_enter Tryd.func95, Tryd.ntmps95
      go_wp2
      go_ret
      exact ⟨by rw [HV.out]; simp; try omega, HB.out⟩
  · have e0 : (n != m) = true := by simpa using e
    by_cases l : n < m
    all_goals
      go_enter Tryd.func95, Tryd.ntmps95
      go_wp2
      go_ret
      exact ⟨by rw [HV.out]; simp; try omega, HB.out⟩
set_option maxHeartbeats 1600000 in
theorem sless_c (n s m t : Int) (w : World) : Calls Tryd.prog 90 #[.agg #[.int .i64 n, .int .i64 s], .agg #[.int .i64 m, .int .i64 t]] w (Tells (.bool (sless n s m t)) w) := by
  have hp := (Pair.new w 48 n s).alloc (.cells #[.int .i64 m, .int .i64 t] 48)
  have hq := Pair.second w (.cells #[.int .i64 n, .int .i64 s] 48) 48 m t
  have hb := second_below w (.cells #[.int .i64 n, .int .i64 s] 48) (.cells #[.int .i64 m, .int .i64 t] 48)
  have h0 := hp.c0
  have h1 := hp.c1
  have h2 := hq.c0
  have h3 := hq.c1
  have HB := Lib.hid hb
  have HV := Lib.hid (show sless n s m t = decide (n < m ∨ (n = m ∧ s < t)) from rfl)
  clear hp hq hb
  by_cases e : n = m
  · subst e
    by_cases l : s < t
    · have hv : sless n s n t = true := by rw [HV.out]; simp; omega
      rw [hv]
      clear hv
      go_enter Tryd.func90, Tryd.ntmps90
      go_wp2
      go_ret
      exact ⟨rfl, HB.out⟩
    · have hv : sless n s n t = false := by rw [HV.out]; simp; omega
      rw [hv]
      clear hv
      go_enter Tryd.func90, Tryd.ntmps90
      go_wp2
      go_ret
      exact ⟨rfl, HB.out⟩
  · have ne : (n != m) = true := by simpa using e
    by_cases l : n < m
    · have hv : sless n s m t = true := by rw [HV.out]; simp; omega
      rw [hv]
      clear hv e
      go_enter Tryd.func90, Tryd.ntmps90
      go_wp2
      go_ret
      exact ⟨rfl, HB.out⟩
    · have hv : sless n s m t = false := by rw [HV.out]; simp; omega
      rw [hv]
      clear hv e
      go_enter Tryd.func90, Tryd.ntmps90
      go_wp2
      go_ret
      exact ⟨rfl, HB.out⟩
theorem cell_cells {H : Type} {enc : TypeId × Value → H} {W : World} {base : Nat} {sp held : Bool} {fuel : Nat} {cs : List Value} {x : DataW H × List MemPlace} (h : DataW.trod enc Tryd.prog W base (fun _ => sp) held fuel 50 cs = some x) :
    ∃ (n s a b : Int) (g : Bool) (t : List UInt8) (d e : Int), cs = [.int .i64 n, .int .i64 s, .int .i64 a, .int .i64 b, .bool g, .string (text t), .int .i64 d, .int .i64 e] ∧ IsI64 n ∧ IsI64 s ∧ IsI64 a ∧ IsI64 b ∧ t.length ≤ maxLen ∧ IsI64 d ∧ IsI64 e := by
  obtain ⟨xs, m, _, rfl, hl, hlen, hf⟩ := DataW.trod_struct Tryd.underlying50 h
  have h6 : Tryd.prog.cellsOf 50 = 8 := by kernel_rfl
  have hs : Tryd.prog.cellsOf 48 = 2 := by kernel_rfl
  have hv : Tryd.prog.cellsOf 44 = 2 := by kernel_rfl
  have h4 : Tryd.prog.cellsOf 4 = 1 := by kernel_rfl
  have h9 : Tryd.prog.cellsOf 9 = 1 := by kernel_rfl
  rw [h6] at hl
  match xs, hlen with
  | [y0, y1, y2, y3, y4], _ =>
    have i0 := hf 0 _ rfl
    have i1 := hf 1 _ rfl
    have i2 := hf 2 _ rfl
    have i3 := hf 3 _ rfl
    have i4 := hf 4 _ rfl
    match cs, hl with
    | [c0, c1, c2, c3, c4, c5, c6, c7], _ =>
      have j0 : DataW.trod enc Tryd.prog W base (fun _ => sp) held m 48 (([c0, c1, c2, c3, c4, c5, c6, c7].drop 0).take (Tryd.prog.cellsOf 48)) = some y0 := i0
      have j1 : DataW.trod enc Tryd.prog W base (fun _ => sp) held m 44 (([c0, c1, c2, c3, c4, c5, c6, c7].drop 2).take (Tryd.prog.cellsOf 44)) = some y1 := i1
      have j2 : DataW.trod enc Tryd.prog W base (fun _ => sp) held m 4 (([c0, c1, c2, c3, c4, c5, c6, c7].drop 4).take (Tryd.prog.cellsOf 4)) = some y2 := i2
      have j3 : DataW.trod enc Tryd.prog W base (fun _ => sp) held m 9 (([c0, c1, c2, c3, c4, c5, c6, c7].drop 5).take (Tryd.prog.cellsOf 9)) = some y3 := i3
      have j4 : DataW.trod enc Tryd.prog W base (fun _ => sp) held m 44 (([c0, c1, c2, c3, c4, c5, c6, c7].drop 6).take (Tryd.prog.cellsOf 44)) = some y4 := i4
      rw [hs] at j0
      rw [hv] at j1 j4
      rw [h4] at j2
      rw [h9] at j3
      obtain ⟨n, s, e0, wn, wsx⟩ := stamp_cells (sp := sp) j0
      obtain ⟨a, b, e1, wa, wb⟩ := vec_cells j1
      obtain ⟨g, e2, _⟩ := DataW.trod_bool Tryd.underlying4 j2
      obtain ⟨t, e3, _, wt⟩ := DataW.trod_string Tryd.underlying9 j3
      obtain ⟨d, e, e4, wd, we⟩ := vec_cells j4
      simp at e0 e1 e2 e3 e4
      obtain ⟨rfl, rfl⟩ := e0
      obtain ⟨rfl, rfl⟩ := e1
      subst e2
      subst e3
      obtain ⟨rfl, rfl⟩ := e4
      exact ⟨n, s, a, b, g, t.data.toList, d, e, rfl, wn, wsx, wa, wb, by simpa using wt, wd, we⟩
theorem open_cell {H : Type} {enc : TypeId × Value → H} {W : World} {base : Nat} {v : Value} {x : DataW H} {p : List MemPlace} (hv : Value.okWide Tryd.prog W .any base 50 v)
    (h : DataW.Trod enc Tryd.prog W 0 (fun _ => true) true 50 v x p) : ∃ (n s a b : Int) (g : Bool) (t : List UInt8) (d e : Int), v = .agg #[.int .i64 n, .int .i64 s, .int .i64 a, .int .i64 b, .bool g, .string (text t), .int .i64 d, .int .i64 e] ∧ IsI64 n ∧ IsI64 s ∧ IsI64 a ∧ IsI64 b ∧ t.length ≤ 9223372036854775807 ∧ IsI64 d ∧ IsI64 e := by
  simp only [Value.okWide, Tryd.underlying50] at hv
  obtain ⟨cs, rfl, hs, _⟩ := hv
  obtain ⟨m, hm⟩ := h
  obtain ⟨n, s, a, b, g, t, d, e, hc, h1, h2, h3, h4, h5, h6, h7⟩ := cell_cells (sp := true) hm
  refine ⟨n, s, a, b, g, t, d, e, ?_, h1, h2, h3, h4, by unfold maxLen at h5; exact h5, h6, h7⟩
  congr 1
  apply Array.toList_inj.1
  exact hc
end Go.Proofs.YtkjpmdpljdgcjaaDoor
