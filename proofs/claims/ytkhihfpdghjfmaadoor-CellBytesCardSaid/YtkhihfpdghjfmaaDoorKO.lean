/-
  Cells and writes that came in.
-/
import Derived.Test.YtkhihfpdghjfmaaDoorCP
import Derived.Test.YtkhihfpdghjfmaaDoorBO
import Derived.WideShapes
import Derived.ChangeSame
import Derived.OpenShut
import Derived.Deep.Slices
import Derived.ChangeArms
namespace Go.Proofs.YtkhihfpdghjfmaaDoor
open Go.RowKit Go Go.Sort Go.Deep
set_option linter.unusedVariables false
set_option maxRecDepth 20000

theorem two_list {α : Type} {l : List α} (h : l.length = 2) : ∃ a b, l = [a, b] := by
  match l, h with
  | [a, b], _ => exact ⟨a, b, rfl⟩
theorem ask_cells {H : Type} {enc : TypeId × Value → H} {W : World} {base : Nat} {sp held : Bool} {fuel : Nat} {cs : List Value} {x : DataW H × List MemPlace} (h : DataW.trod enc Tryd.prog W base (fun _ => sp) held fuel 67 cs = some x) :
    ∃ (n s a b : Int) (g : Bool) (t : List UInt8), cs = [.int .i64 n, .int .i64 s, .int .i64 a, .int .i64 b, .bool g, .string (text t)] ∧ IsI64 n ∧ IsI64 s ∧ IsI64 a ∧ IsI64 b ∧ t.length ≤ maxLen := by
  obtain ⟨xs, m, _, rfl, hl, hlen, hf⟩ := DataW.trod_struct Tryd.underlying67 h
  have h6 : Tryd.prog.cellsOf 67 = 6 := by kernel_rfl
  have hs : Tryd.prog.cellsOf 57 = 2 := by kernel_rfl
  have hv : Tryd.prog.cellsOf 59 = 2 := by kernel_rfl
  have h4 : Tryd.prog.cellsOf 4 = 1 := by kernel_rfl
  have h9 : Tryd.prog.cellsOf 9 = 1 := by kernel_rfl
  rw [h6] at hl
  match xs, hlen with
  | [y0, y1, y2, y3], _ =>
    have i0 := hf 0 _ rfl
    have i1 := hf 1 _ rfl
    have i2 := hf 2 _ rfl
    have i3 := hf 3 _ rfl
    match cs, hl with
    | [c0, c1, c2, c3, c4, c5], _ =>
      have j0 : DataW.trod enc Tryd.prog W base (fun _ => sp) held m 57 (([c0, c1, c2, c3, c4, c5].drop 0).take (Tryd.prog.cellsOf 57)) = some y0 := i0
      have j1 : DataW.trod enc Tryd.prog W base (fun _ => sp) held m 59 (([c0, c1, c2, c3, c4, c5].drop 2).take (Tryd.prog.cellsOf 59)) = some y1 := i1
      have j2 : DataW.trod enc Tryd.prog W base (fun _ => sp) held m 4 (([c0, c1, c2, c3, c4, c5].drop 4).take (Tryd.prog.cellsOf 4)) = some y2 := i2
      have j3 : DataW.trod enc Tryd.prog W base (fun _ => sp) held m 9 (([c0, c1, c2, c3, c4, c5].drop 5).take (Tryd.prog.cellsOf 9)) = some y3 := i3
      rw [hs] at j0
      rw [hv] at j1
      rw [h4] at j2
      rw [h9] at j3
      obtain ⟨n, s, e0, wn, wsx⟩ := stamp_cells (sp := sp) j0
      obtain ⟨a, b, e1, wa, wb⟩ := vec_cells j1
      obtain ⟨g, e2, _⟩ := DataW.trod_bool Tryd.underlying4 j2
      obtain ⟨t, e3, _, wt⟩ := DataW.trod_string Tryd.underlying9 j3
      simp at e0 e1 e2 e3
      obtain ⟨rfl, rfl⟩ := e0
      obtain ⟨rfl, rfl⟩ := e1
      subst e2
      subst e3
      exact ⟨n, s, a, b, g, t.data.toList, rfl, wn, wsx, wa, wb, by simpa using wt⟩
theorem cell_cells {H : Type} {enc : TypeId × Value → H} {W : World} {base : Nat} {sp held : Bool} {fuel : Nat} {cs : List Value} {x : DataW H × List MemPlace} (h : DataW.trod enc Tryd.prog W base (fun _ => sp) held fuel 61 cs = some x) :
    ∃ (n s a b : Int) (g : Bool) (t : List UInt8) (d e : Int), cs = [.int .i64 n, .int .i64 s, .int .i64 a, .int .i64 b, .bool g, .string (text t), .int .i64 d, .int .i64 e] ∧ IsI64 n ∧ IsI64 s ∧ IsI64 a ∧ IsI64 b ∧ t.length ≤ maxLen ∧ IsI64 d ∧ IsI64 e := by
  obtain ⟨xs, m, _, rfl, hl, hlen, hf⟩ := DataW.trod_struct Tryd.underlying61 h
  have h6 : Tryd.prog.cellsOf 61 = 8 := by kernel_rfl
  have hs : Tryd.prog.cellsOf 57 = 2 := by kernel_rfl
  have hv : Tryd.prog.cellsOf 59 = 2 := by kernel_rfl
  have h4 : Tryd.prog.cellsOf 4 = 1 := by kernel_rfl
  have h9 : Tryd.prog.cellsOf 9 = 1 := by kernel_rfl
  rw [h6] at hl
  match xs, hlen with
  | [y0, y1, y2, y3, y4], _ =>
    have i0 := hf 0 _ rfl
    have i1 := hf 1 _ rfl
    have i2 := hf 2 _ rfl
    have i3 := hf 3 _ rfl
    have i4 := hf 4 _ rfl
    match cs, hl with
    | [c0, c1, c2, c3, c4, c5, c6, c7], _ =>
      have j0 : DataW.trod enc Tryd.prog W base (fun _ => sp) held m 57 (([c0, c1, c2, c3, c4, c5, c6, c7].drop 0).take (Tryd.prog.cellsOf 57)) = some y0 := i0
      have j1 : DataW.trod enc Tryd.prog W base (fun _ => sp) held m 59 (([c0, c1, c2, c3, c4, c5, c6, c7].drop 2).take (Tryd.prog.cellsOf 59)) = some y1 := i1
      have j2 : DataW.trod enc Tryd.prog W base (fun _ => sp) held m 4 (([c0, c1, c2, c3, c4, c5, c6, c7].drop 4).take (Tryd.prog.cellsOf 4)) = some y2 := i2
      have j3 : DataW.trod enc Tryd.prog W base (fun _ => sp) held m 9 (([c0, c1, c2, c3, c4, c5, c6, c7].drop 5).take (Tryd.prog.cellsOf 9)) = some y3 := i3
      have j4 : DataW.trod enc Tryd.prog W base (fun _ => sp) held m 59 (([c0, c1, c2, c3, c4, c5, c6, c7].drop 6).take (Tryd.prog.cellsOf 59)) = some y4 := i4
      rw [hs] at j0
      rw [hv] at j1 j4
      rw [h4] at j2
      rw [h9] at j3
      obtain ⟨n, s, e0, wn, wsx⟩ := stamp_cells (sp := sp) j0
      obtain ⟨a, b, e1, wa, wb⟩ := vec_cells j1
      obtain ⟨g, e2, _⟩ := DataW.trod_bool Tryd.underlying4 j2
      obtain ⟨t, e3, _, wt⟩ := DataW.trod_string Tryd.underlying9 j3
      obtain ⟨d, e, e4, wd, we⟩ := vec_cells j4
      simp at e0 e1 e2 e3 e4
      obtain ⟨rfl, rfl⟩ := e0
      obtain ⟨rfl, rfl⟩ := e1
      subst e2
      subst e3
      obtain ⟨rfl, rfl⟩ := e4
      exact ⟨n, s, a, b, g, t.data.toList, d, e, rfl, wn, wsx, wa, wb, by simpa using wt, wd, we⟩
theorem open_ask {H : Type} {enc : TypeId × Value → H} {W : World} {base : Nat} {v : Value} {d : DataW H} {p : List MemPlace} (hv : Value.okWide Tryd.prog W .any base 67 v)
    (h : DataW.Trod enc Tryd.prog W 0 (fun _ => true) true 67 v d p) : ∃ (n s a b : Int) (g : Bool) (t : List UInt8), v = .agg #[.int .i64 n, .int .i64 s, .int .i64 a, .int .i64 b, .bool g, .string (text t)] ∧ IsI64 n ∧ IsI64 s ∧ IsI64 a ∧ IsI64 b ∧ t.length ≤ 9223372036854775807 := by
  simp only [Value.okWide, Tryd.underlying67] at hv
  obtain ⟨cs, rfl, hs, _⟩ := hv
  obtain ⟨m, hm⟩ := h
  obtain ⟨n, s, a, b, g, t, hc, h1, h2, h3, h4, h5⟩ := ask_cells (sp := true) hm
  refine ⟨n, s, a, b, g, t, ?_, h1, h2, h3, h4, by unfold maxLen at h5; exact h5⟩
  congr 1
  apply Array.toList_inj.1
  exact hc
theorem open_cell {H : Type} {enc : TypeId × Value → H} {W : World} {base : Nat} {v : Value} {x : DataW H} {p : List MemPlace} (hv : Value.okWide Tryd.prog W .any base 61 v)
    (h : DataW.Trod enc Tryd.prog W 0 (fun _ => true) true 61 v x p) : ∃ (n s a b : Int) (g : Bool) (t : List UInt8) (d e : Int), v = .agg #[.int .i64 n, .int .i64 s, .int .i64 a, .int .i64 b, .bool g, .string (text t), .int .i64 d, .int .i64 e] ∧ IsI64 n ∧ IsI64 s ∧ IsI64 a ∧ IsI64 b ∧ t.length ≤ 9223372036854775807 ∧ IsI64 d ∧ IsI64 e := by
  simp only [Value.okWide, Tryd.underlying61] at hv
  obtain ⟨cs, rfl, hs, _⟩ := hv
  obtain ⟨m, hm⟩ := h
  obtain ⟨n, s, a, b, g, t, d, e, hc, h1, h2, h3, h4, h5, h6, h7⟩ := cell_cells (sp := true) hm
  refine ⟨n, s, a, b, g, t, d, e, ?_, h1, h2, h3, h4, by unfold maxLen at h5; exact h5, h6, h7⟩
  congr 1
  apply Array.toList_inj.1
  exact hc
end Go.Proofs.YtkhihfpdghjfmaaDoor
