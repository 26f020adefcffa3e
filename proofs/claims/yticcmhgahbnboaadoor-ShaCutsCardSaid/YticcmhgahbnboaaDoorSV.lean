/-
  sha.Sum: the digest of parts.
-/
import Derived.Test.YticcmhgahbnboaaDoorSU
import Derived.Test.YticcmhgahbnboaaDoorRS
namespace Go.Proofs.YticcmhgahbnboaaDoor
open Go.RowKit Go
set_option linter.unusedVariables false

theorem flat_take (ls : List (List UInt8)) (k : Nat) (h : k < ls.length) : (ls.take (k + 1)).flatten = (ls.take k).flatten ++ ls.getD k [] := by
  rw [List.take_add_one, List.flatten_append, List.getD_eq_getElem?_getD, List.getElem?_eq_getElem h]
  simp
theorem flat_len (ls : List (List UInt8)) (k : Nat) : ((ls.take k).flatten).length ≤ ls.flatten.length := by
  conv => rhs; rw [← List.take_append_drop k ls, List.flatten_append, List.length_append]
  omega

set_option maxRecDepth 100000 in
set_option maxHeartbeats 3200000 in
theorem shasum_c {w : World} {a : Option Addr} {n cap : Nat} {ls : List (List UInt8)} (hT : TabS w) (ha : Rws w a n cap ls) (hlim : ls.flatten.length ≤ 900000) :
    Calls Tryd.prog 24 #[.slice a n cap] w (ValPost (.agg (u8v (digS (lastS ls.flatten))).toArray) w) := by
  have hb0 : Below w.heap.size w (w.alloc (.cells #[.int .u8 0, .int .u8 0, .int .u8 0, .int .u8 0, .int .u8 0, .int .u8 0, .int .u8 0, .int .u8 0, .int .u8 0, .int .u8 0, .int .u8 0, .int .u8 0, .int .u8 0, .int .u8 0, .int .u8 0, .int .u8 0, .int .u8 0, .int .u8 0, .int .u8 0, .int .u8 0, .int .u8 0, .int .u8 0, .int .u8 0, .int .u8 0, .int .u8 0, .int .u8 0, .int .u8 0, .int .u8 0, .int .u8 0, .int .u8 0, .int .u8 0, .int .u8 0] 46)) := (Below.refl w.heap.size w).alloc (Nat.le_refl _) _
  have hO0 : RowB (w.alloc (.cells #[.int .u8 0, .int .u8 0, .int .u8 0, .int .u8 0, .int .u8 0, .int .u8 0, .int .u8 0, .int .u8 0, .int .u8 0, .int .u8 0, .int .u8 0, .int .u8 0, .int .u8 0, .int .u8 0, .int .u8 0, .int .u8 0, .int .u8 0, .int .u8 0, .int .u8 0, .int .u8 0, .int .u8 0, .int .u8 0, .int .u8 0, .int .u8 0, .int .u8 0, .int .u8 0, .int .u8 0, .int .u8 0, .int .u8 0, .int .u8 0, .int .u8 0, .int .u8 0] 46)) w.heap.size 46 (List.replicate 32 0) := heap_alloc_new w _
  have hT0 := hT.below hb0
  have hE0 : (w.alloc (.cells #[.int .u8 0, .int .u8 0, .int .u8 0, .int .u8 0, .int .u8 0, .int .u8 0, .int .u8 0, .int .u8 0, .int .u8 0, .int .u8 0, .int .u8 0, .int .u8 0, .int .u8 0, .int .u8 0, .int .u8 0, .int .u8 0, .int .u8 0, .int .u8 0, .int .u8 0, .int .u8 0, .int .u8 0, .int .u8 0, .int .u8 0, .int .u8 0, .int .u8 0, .int .u8 0, .int .u8 0, .int .u8 0, .int .u8 0, .int .u8 0, .int .u8 0, .int .u8 0] 46)).heap.size = w.heap.size + 1 := World.size_alloc _ _
  have hln := ha.len
  have hnle := ha.le
  have hnm := ha.max
  have HA := Lib.hid ha
  go_enter Tryd.func24, Tryd.ntmps24
  go_upto_region 3 with (first
    | (go_at_call 26; (with_reducible refine (new_c hT0).mono ?_); rintro e w1 ⟨rfl, hS1, hb1⟩))
  rw [hE0] at hS1
  have hO1 := hO0.kept hb1
  have hB1 := hb0.trans (hb1.mono (by rw [hE0]; omega))
  clear hO0 hb1 hb0 hT0 hE0
  go_loopw [9] (fun i wr => ∃ k : Nat, k ≤ n ∧ i = .int .i64 k ∧ (∃ r wt, St wr (w.heap.size + 1) r wt ((ls.take k).flatten).length ∧ Came r wt (ls.take k).flatten) ∧ RowB wr w.heap.size 46 (List.replicate 32 0) ∧ Below w.heap.size w wr) (fun i _ => n - (intOf i).toNat)
  case atStart => exact ⟨0, by omega, rfl, ⟨_, _, hS1, Came.nil _⟩, hO1, hB1⟩
  case round =>
    clear hS1 hO1 hB1
    obtain ⟨k, hk, rfl, ⟨r, wt, hS, hC⟩, hO, hB⟩ := hrel
    by_cases hlt : k < n
    · have hki : (k : Int) < (n : Int) := by omega
      obtain ⟨b, off, rfl, hcell⟩ : ∃ b off, a = some ⟨b, off, none⟩ ∧ ∀ i, i < n → ∃ ai ni ci, w.cell? ⟨b, off + i, none⟩ = some (.slice ai ni ci) ∧ Bys w ai ni ci (ls.getD i []) := by
        rcases HA.out.adr with h0 | h
        · omega
        · exact h
      obtain ⟨ai, ni, ci, hci, hbi⟩ := hcell k hlt
      have hsep : 0 < ni → ∀ b' off', ai = some ⟨b', off', none⟩ → b' ≠ w.heap.size + 1 := by
        intro hp b' off' e
        rcases hbi.adr with h0 | ⟨b2, off2, e2, hc2⟩
        · have := hbi.le; omega
        · have h9 : b2 < w.heap.size := World.block_lt_of_cell? w _ (hc2 0 hp)
          rw [e2] at e
          injection e with e
          injection e with e1
          omega
      have hcw : wr.cell? ⟨b, off + k, none⟩ = some (.slice ai ni ci) := by rw [hB.cell (World.block_lt_of_cell? w _ hci)]; exact hci
      have hbw := hbi.below hB
      have hfl := flat_take ls k (by omega)
      have hfn := flat_len ls (k + 1)
      have hnl : ((ls.take k).flatten).length + ni ≤ 1000000 := by
        rw [hfl, List.length_append, hbi.len] at hfn; omega
      have HADD := Lib.hid (add_c (hT.below hB) hS hC hbw hsep hnl)
      rw [← hfl] at HADD
      have HO := Lib.hid hO
      have HB := Lib.hid hB
      have hlw := hO.lt
      have HSZ := Lib.hid hS.lt
      clear hcell hci hbi hbw hsep hfl hfn hnl hS hC hO hB hlw
      go_wp2_with (first
        | (go_at_call 27; (with_reducible refine (HADD.out).mono ?_); rintro e w4 ⟨rfl, ⟨r', wt', hS4, hC4⟩, hG4⟩))
      have HS4 := Lib.hid hS4
      have HC4 := Lib.hid hC4
      have HG4 := Lib.hid hG4
      clear hS4 hC4 hG4
      go_roundw
      case rel =>
        refine ⟨k + 1, by omega, rfl, ⟨_, _, HS4.out, HC4.out⟩, ?_, ?_⟩
        · exact (HG4.out.block _ (by have := HO.out.lt; exact this) (by simp)).trans HO.out
        · exact HB.out.trans ⟨HG4.out.os, HG4.out.tape, HG4.out.output, HG4.out.size, fun i hi => HG4.out.block i (by have := HB.out.size; omega) (by simp; omega)⟩
      case measure => simp [intOf]; omega
    · obtain rfl : k = n := by omega
      rw [List.take_of_length_le (by omega)] at hS hC
      have HSUM := Lib.hid (ssum_c (hT.below hB) hS hC hlim)
      obtain ⟨L, hL⟩ : ∃ L, digS (lastS ls.flatten) = L := ⟨_, rfl⟩
      have hlen : L.length = 32 := by rw [← hL]; exact digS_length _
      rw [hL] at HSUM
      have hm := size_dig L hlen
      have hsz : (u8v L).length = 32 := by rw [u8v_length]; exact hlen
      have HO := Lib.hid hO
      have HB := Lib.hid hB
      clear hS hC hO hB
      go_wp2_with (first
        | (go_at_call 29; (with_reducible refine (HSUM.out).mono ?_); rintro e w5 ⟨rfl, hb5⟩; have hst := (HO.out.kept hb5).store L (by rw [hlen]; simp)))
      have HCL := Lib.hid (show RowB _ w.heap.size 46 L from (HO.out.kept hb5).setRow L)
      have HBN := Lib.hid (show Below w.heap.size w (w5.setRow w.heap.size (u8v L).toArray) from below_setRow (HB.out.trans (hb5.mono HB.out.size)) (Nat.le_refl _) _)
      refine bodyPost_ret (results_cell_row rfl _ _ w.heap.size 46 (u8v L).toArray (0, 0) _ rfl HCL.out Tryd.underlying46 rfl hm) rfl ⟨?_, HBN.out⟩
      rw [hL]
end Go.Proofs.YticcmhgahbnboaaDoor
