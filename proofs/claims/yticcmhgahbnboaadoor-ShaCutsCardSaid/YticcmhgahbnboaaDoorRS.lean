/-
  Slices of byte slices, wherever they lie; the reference's Same.
-/
import Derived.Test.YticcmhgahbnboaaDoorRM
import Derived.Deep.QuietTactic
import Derived.BigQuiet
namespace Go.Proofs.YticcmhgahbnboaaDoor
open Go.RowKit Go
set_option linter.unusedVariables false

/-- A slice of byte slices of the world. -/
structure Rws (w : World) (a : Option Addr) (n cap : Nat) (ls : List (List UInt8)) : Prop where
  len : ls.length = n
  le : n ≤ cap
  max : cap ≤ 9223372036854775807
  adr : cap = 0 ∨ ∃ b off, a = some ⟨b, off, none⟩ ∧ ∀ i, i < n → ∃ ai ni ci, w.cell? ⟨b, off + i, none⟩ = some (.slice ai ni ci) ∧ Bys w ai ni ci (ls.getD i [])
theorem Rws.below {w w' : World} {a : Option Addr} {n cap : Nat} {ls : List (List UInt8)} (h : Rws w a n cap ls) (hb : Below w.heap.size w w') : Rws w' a n cap ls := by
  refine ⟨h.len, h.le, h.max, ?_⟩
  rcases h.adr with h4 | ⟨b, off, rfl, hc⟩
  · exact .inl h4
  · refine .inr ⟨b, off, rfl, fun i hi => ?_⟩
    obtain ⟨ai, ni, ci, h1, h2⟩ := hc i hi
    exact ⟨ai, ni, ci, by rw [hb.cell (World.block_lt_of_cell? w _ h1)]; exact h1, h2.below hb⟩
theorem OwnB.isBys {w : World} {B : Nat} {v : Value} {l : List UInt8} (h : OwnB w B 5 v l) : ∃ a n c, v = .slice a n c ∧ Bys w a n c l := by
  obtain ⟨a, c, hv, hb⟩ := h.bys
  exact ⟨a, _, c, hv, hb⟩
theorem OwnRows.rws {w : World} {B : Nat} {v : Value} {ls : List (List UInt8)} (h : OwnRows w B v ls) : ∃ a cap, v = .slice a ls.length cap ∧ Rws w a ls.length cap ls := by
  obtain ⟨vs, h1, hl, h2⟩ := h
  rw [hl] at h1
  rcases h1.2 with ⟨rfl, hn⟩ | ⟨g, cap, cur, rfl, hb, hg, hnc, hcm, hcs, htake⟩
  · exact ⟨none, 0, by rw [hn], rfl, by omega, by omega, .inl rfl⟩
  · refine ⟨_, cap, rfl, rfl, hnc, by unfold maxLen at hcm; omega, .inr ⟨g, 0, rfl, fun i hi => ?_⟩⟩
    obtain ⟨ai, ni, ci, hv, hbb⟩ := (h2 i hi).isBys
    refine ⟨ai, ni, ci, ?_, hbb⟩
    rw [Nat.zero_add, cell_of_row w g i cur _ (0, 0) hg, ← hv]
    have h3 : (cur.toList.take (ls.length * 1))[i]? = vs[i]? := by rw [htake]
    rw [List.getElem?_take, if_pos (by omega)] at h3
    rw [List.getD_eq_getElem?_getD, ← h3]
    have hlt : i < cur.toList.length := by
      have := congrArg List.length htake
      rw [List.length_take] at this
      omega
    rw [List.getElem?_eq_getElem hlt, Option.getD_some]
    simp at hlt ⊢

theorem take_eq_succ {α : Type} [DecidableEq α] (d : α) (ls ms : List α) (k : Nat) (hl : k < ls.length) (hm : k < ms.length) (h : ls.take k = ms.take k) : (ls.take (k + 1) = ms.take (k + 1)) ↔ ls.getD k d = ms.getD k d := by
  rw [List.take_succ_eq_append_getElem hl, List.take_succ_eq_append_getElem hm, h]
  have e1 : ls.getD k d = ls[k] := by simp [List.getD, hl]
  have e2 : ms.getD k d = ms[k] := by simp [List.getD, hm]
  rw [e1, e2]
  constructor
  · intro h1; exact (List.cons.inj (List.append_cancel_left h1)).1
  · intro h1; rw [h1]
theorem ne_of_getD {α : Type} (d : α) (ls ms : List α) (k : Nat) (h : ¬ ls.getD k d = ms.getD k d) : ¬ ls = ms := by rintro rfl; exact h rfl

theorem text_bne (l m : List UInt8) : ((text l).toList != (text m).toList) = !decide (l = m) := by
  rw [bne, text_beq]

set_option maxRecDepth 100000 in
set_option maxHeartbeats 1600000 in
theorem same_c {w : World} {a b : Option Addr} {n cap m cap2 : Nat} {ls ms : List (List UInt8)} (ha : Rws w a n cap ls) (hb : Rws w b m cap2 ms) :
    Calls Tryd.prog 20 #[.slice a n cap, .slice b m cap2] w (BoolPost (decide (ls = ms)) w) := by
  have hle := ha.le
  have hmax := ha.max
  have hle2 := hb.le
  have hmax2 := hb.max
  have hlen := ha.len
  have hlen2 := hb.len
  by_cases hnm : n = m
  · subst hnm
    have HL := Lib.hid hlen
    have HM := Lib.hid hlen2
    clear hlen hlen2
    have hne : ((n : Int) != n) = false := by simp
    go_enter Tryd.func20, Tryd.ntmps20
    go_wp2
    go_loopw [5] (fun i wr => ∃ k : Nat, k ≤ n ∧ i = .int .i64 k ∧ ls.take k = ms.take k ∧ Below w.heap.size w wr) (fun i _ => n - (intOf i).toNat)
    case atStart => exact ⟨0, by omega, rfl, by simp, Below.refl _ _⟩
    case round =>
      obtain ⟨k, hk, rfl, htk, hbel⟩ := hrel
      have HTK := Lib.hid htk
      clear htk
      by_cases hlt : k < n
      · obtain ⟨ba, oa, rfl, hca⟩ : ∃ b off, a = some ⟨b, off, none⟩ ∧ ∀ i, i < n → ∃ ai ni ci, w.cell? ⟨b, off + i, none⟩ = some (.slice ai ni ci) ∧ Bys w ai ni ci (ls.getD i []) := by
          rcases ha.adr with h | h
          · omega
          · exact h
        obtain ⟨bb, ob, rfl, hcb⟩ : ∃ b' off, b = some ⟨b', off, none⟩ ∧ ∀ i, i < n → ∃ ai ni ci, w.cell? ⟨b', off + i, none⟩ = some (.slice ai ni ci) ∧ Bys w ai ni ci (ms.getD i []) := by
          rcases hb.adr with h | h
          · omega
          · exact h
        obtain ⟨ai, ni, ci, h1, h2⟩ := hca k hlt
        obtain ⟨aj, nj, cj, h3, h4⟩ := hcb k hlt
        have c1 : wr.cell? ⟨ba, oa + k, none⟩ = some (.slice ai ni ci) := by rw [hbel.cell (World.block_lt_of_cell? w _ h1)]; exact h1
        have c2 : wr.cell? ⟨bb, ob + k, none⟩ = some (.slice aj nj cj) := by rw [hbel.cell (World.block_lt_of_cell? w _ h3)]; exact h3
        obtain ⟨x, hx⟩ : ∃ x, ls.getD k [] = x := ⟨_, rfl⟩
        obtain ⟨y, hy⟩ : ∃ y, ms.getD k [] = y := ⟨_, rfl⟩
        rw [hx] at h2
        rw [hy] at h4
        have v1 : ∀ N, (convert 22 9 (.slice ai ni ci)).run Tryd.prog (wr.drewN N) = .ok (.string (text x)) (wr.drewN N) := fun N => conv_bys (h2.below (below_drewN hbel N)) Tryd.underlying22 Tryd.underlying5 Tryd.underlying9
        have v2 : ∀ N, (convert 22 9 (.slice aj nj cj)).run Tryd.prog (wr.drewN N) = .ok (.string (text y)) (wr.drewN N) := fun N => conv_bys (h4.below (below_drewN hbel N)) Tryd.underlying22 Tryd.underlying5 Tryd.underlying9
        have hki : (k : Int) < (n : Int) := by omega
        have HX := Lib.hid hx
        have HY := Lib.hid hy
        clear hca hcb h1 h3 hx hy
        have hbn := text_beq x y
        by_cases hxy : x = y
        · have hbf : ((text x).toList == (text y).toList) = true := by rw [hbn]; simp [hxy]
          have HXY := Lib.hid hxy
          clear hxy hbn
          go_wp2
          go_quiet (fail)
          go_wp2
          go_roundw
          case rel => exact ⟨k + 1, by omega, by go_num, (take_eq_succ [] ls ms k (by rw [HL.out]; exact hlt) (by rw [HM.out]; exact hlt) HTK.out).2 (by rw [HX.out, HY.out, HXY.out]), below_drewN hbel nq⟩
          case measure => simp [intOf]; omega
        · have hbf : ((text x).toList == (text y).toList) = false := by rw [hbn]; simp [hxy]
          have HXY := Lib.hid hxy
          clear hxy hbn
          go_wp2
          go_quiet (fail)
          go_wp2
          go_ret
          exact BoolPost.mk (by rw [eq_comm, decide_eq_false_iff_not]; exact ne_of_getD [] ls ms k (by rw [HX.out, HY.out]; exact HXY.out)) (below_drewN hbel nq)
      · obtain rfl : k = n := by omega
        go_wp2
        go_ret
        exact BoolPost.mk (by rw [eq_comm, decide_eq_true_eq]; have := HTK.out; rwa [List.take_of_length_le (by rw [HL.out]; exact Nat.le_refl _), List.take_of_length_le (by rw [HM.out]; exact Nat.le_refl _)] at this) hbel
  · have hne : ((n : Int) != m) = true := by rw [bne_iff_ne]; omega
    have HN := Lib.hid (show ¬ ls = ms by intro h; rw [h, hlen2] at hlen; omega)
    have hnm2 : ¬ (n : Int) = (m : Int) := by omega
    clear hlen hlen2
    go_enter Tryd.func20, Tryd.ntmps20
    go_wp2
    go_ret
    exact BoolPost.mk (by rw [eq_comm, decide_eq_false_iff_not]; exact HN.out) (Below.refl _ _)
end Go.Proofs.YticcmhgahbnboaaDoor
