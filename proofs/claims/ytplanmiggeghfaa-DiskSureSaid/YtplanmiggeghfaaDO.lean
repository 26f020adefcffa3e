/-
  Disk: the program's Names.
-/
import Derived.Test.YtplanmiggeghfaaDL
import Derived.Test.YtplanmiggeghfaaDC
import Derived.Test.YtplanmiggeghfaaDS
import Derived.Sort.OwnSorted
import Derived.Sort.KeysCollected
import Derived.Shelf.Abstract
namespace Go.Proofs.Ytplanmiggeghfaa
open Go.RowKit Go Go.Sort Go.Maps Go.WideMaps
set_option linter.unusedVariables false
set_option maxRecDepth 20000

theorem infoD9 : (Try.prog.info? 9).map (fun i => (i.zero, i.size, i.bytes)) = some (some (.string ⟨#[]⟩), 1, 16) := by kernel_rfl
/-- A slice of texts of the call's own. -/
def OwnT (w : World) (B : Nat) (v : Value) (L : List (List UInt8)) : Prop := w.ownsRow B 9 1 v L.length (L.map encStr)
def NamesPost (L : List (List UInt8)) (w : World) (e : Ending) (w' : World) : Prop := ∃ v, e = .returned v ∧ OwnT w' w.heap.size v L ∧ Below w.heap.size w w'
theorem names_sorted {L ns : List (List UInt8)} (hp : ns.Perm L) (ha : L.Pairwise (fun a b => Op.bytesLess a b = true)) : ns.mergeSort (fun x y => decide (x ≤ y)) = L := by
  refine List.Perm.eq_of_pairwise (le := fun x y => decide (x ≤ y) = true) (fun a b _ _ h1 h2 => ?_) ?_ ?_ ((List.mergeSort_perm _ _).trans hp)
  · simp only [decide_eq_true_eq] at h1 h2
    exact List.le_antisymm h1 h2
  · refine List.pairwise_mergeSort (fun a b c h1 h2 => ?_) (fun a b => ?_) ns
    · simp only [decide_eq_true_eq] at *; exact List.le_trans h1 h2
    · simp only [Bool.or_eq_true, decide_eq_true_eq]; exact List.le_total a b
  · refine ha.imp fun {a b} h => ?_
    rw [bytesLess_eq] at h
    simp only [decide_eq_true_eq] at h ⊢
    exact List.le_of_lt h
set_option maxRecDepth 100000 in
set_option maxHeartbeats 6400000 in
theorem dnames_c {w : World} {q m : Nat} {pv : Value} {FS : List Fl} {st : Ds} (h : DiskIn w q m pv FS st) : Calls Try.prog 32 #[.pointer (some ⟨q, 0, none⟩)] w (NamesPost (st.F.map Fi.nm) w) := by
  obtain ⟨i0, hi, hz0, hz1, hz2⟩ := info_parts infoD9
  have c0 := h.cs.1
  have HD := Lib.hid h
  have HM := Lib.hid h.map
  have HN := Lib.hid h.names
  have HL := Lib.hid (show (FS.map (fun x => x.f.nm)) = st.F.map Fi.nm by rw [← h.pr, List.map_map]; rfl)
  have HAS := Lib.hid (show (st.F.map Fi.nm).Pairwise (fun a b => Op.bytesLess a b = true) by rw [List.pairwise_map]; exact h.ok.asc)
  have HLN := Lib.hid (show FS.length ≤ 64 by have := h.ok.len; rw [← h.pr] at this; simpa using this)
  have HBL := Lib.hid h.map.lt
  clear h
  go_enter Try.func32, Try.ntmps32
  go_wp2_with (first
    | (go_at_call 64; (with_reducible refine (dmade_c HD.out).mono ?_); rintro e9 w9 ⟨rfl, rfl⟩)
    | (at_range; refine wpList_range_own _ rfl _ 82 rfl 9 94 klawD Try.underlying82 ptrElem m FS.length (mapD FS) rfl HM.out ?_; intro w0 hrg0 hg0 hs0)
    | go_in)
  go_frame
  go_loopw [3] (fun s wr => ∃ (left : Lit → Bool) (cnt : Nat) (ns : List (List UInt8)), wr.ranges Try.prog 9 ptrElem m w.heap.size FS.length (mapD FS) left cnt ∧ OwnT wr w.heap.size s ns ∧ ns.Perm ((doneL left FS).map fun x => x.f.nm) ∧ Below w.heap.size w wr) (fun _ wr => wr.rangeLeft m w.heap.size)
  case atStart => exact ⟨_, _, [], hrg0, World.ownsRow_nil _ _ _ _, by rw [doneL_start]; exact List.Perm.refl _, ⟨hg0.os, hg0.tape, hg0.output, hg0.size, fun k hk => hg0.block k hk (by simp)⟩⟩
  case round =>
    obtain ⟨left, cnt, ns, hrg, hrow, hp, hb⟩ := hrel
    have HRG := Lib.hid hrg
    have HB := Lib.hid hb
    have HROW := Lib.hid hrow
    have HP := Lib.hid hp
    clear hb hrow hp
    go_wp2_with (first
      | (at_next; refine wpList_next_ranges _ rfl _ rfl 9 klawD ptrElem (fun v : Value => v) (fun v : Value => v) (fun key kl _ => ⟨key, rfl⟩) (fun v y _ => ⟨v, rfl⟩) m w.heap.size FS.length _ _ _ rfl hrg ?_ ?_)
      | go_in)
    · intro hc0 hl0
      have hp := HP.out
      rw [doneL_end hl0, HL.out] at hp
      have HSO := Lib.hid (names_sorted hp HAS.out)
      have HLE := Lib.hid (show ns.length = (st.F.map Fi.nm).length from hp.length_eq)
      clear hp hrg
      rcases HROW.out.2 with ⟨rfl, hz⟩ | ⟨g, cap, cur, rfl, hbase, hb9, h1, h2, h3, h4⟩
      · have hs := Try.slices_Sort_string_none none 0 wr
        go_wp2_with (go_at_call 71; (with_reducible refine hs.mono ?_); rintro e7 w7 ⟨rfl, rfl⟩)
        go_ret
        have h0 : st.F.map Fi.nm = [] := List.length_eq_zero_iff.1 (by rw [← HLE.out]; exact hz)
        exact ⟨_, rfl, by rw [h0]; exact World.ownsRow_nil _ _ _ _, HB.out⟩
      · have hH : Holds encStr wr g 0 ns.toArray := holds_of_block hb9 (by simpa using h4)
        have hgl : g < wr.heap.size := (Array.getElem?_eq_some_iff.1 hb9).1
        have hs := Try.slices_Sort_string g 0 cap ns wr hH hgl (by have h8 := HLE.out; rw [← HL.out, List.length_map] at h8; have := HLN.out; omega)
        have HC := Lib.hid (And.intro hbase (And.intro hb9 (And.intro h1 (And.intro h2 h3))))
        clear hH hgl hbase hb9 h1 h2 h3 h4
        go_wp2_with (go_at_call 71; (with_reducible refine hs.mono ?_); rintro e7 w7 ⟨rfl, nn, os, rfl⟩)
        go_ret
        obtain ⟨hbase, hb9, h1, h2, h3⟩ := HC.out
        refine ⟨_, rfl, ?_, HB.out.grown (grownBy_sorted _) HB.out.size (fun j hj => by cases hj; exact hbase)⟩
        have := ownsRow_sorted (os := os) (n := nn) (ts := ns.mergeSort fun x y => decide (x ≤ y)) (ss := ns) (by simp) hbase hb9 h1 h2 h3
        rw [HSO.out, HLE.out] at this
        unfold OwnT
        rw [HLE.out, HSO.out]
        exact this
    · intro key v kl yd yp w2 cnt2 hkey hlk hv hat hrg2 hlt hg2 hs2 hen
      obtain ⟨A, x, C, e, rfl, rfl, rfl⟩ := entryD (y := (yd, yp)) hkey hv hat
      have hrow2 : w2.ownsRow w.heap.size 9 1 _ ns.length (ns.map encStr) := World.ownsRow.kept HROW.out hg2 (Or.inr (row_ne_iter HROW.out hrg).symm)
      have hB2 := rg_below HB.out hg2 (Nat.le_refl _)
      have hpm := (doneL_step (left := left) (x := x) (A := A) (C := C) (by rw [← e]; exact HN.out) hlk).map fun x => x.f.nm
      rw [← e] at hpm
      have HPM := Lib.hid (show (ns ++ [x.f.nm]).Perm ((doneL (fun z => left z && !z.sameKey (.string x.f.nm)) FS).map fun x => x.f.nm) from
        ((HP.out.append_right [x.f.nm]).trans (List.perm_append_comm)).trans hpm.symm)
      have hnl : ns.length ≤ 64 := by
        have h8 := HP.out.length_eq
        rw [List.length_map] at h8
        have := List.length_filter_le (fun y : Fl => !left (.string y.f.nm)) FS
        have := HLN.out
        unfold doneL at h8
        omega
      obtain ⟨xn, hxn⟩ : ∃ z, x.f.nm = z := ⟨_, rfl⟩
      rw [hxn] at HPM hen ⊢
      have HXN := Lib.hid hxn
      have HR2 := Lib.hid hrg2
      have HLT := Lib.hid hlt
      have HROW2 := Lib.hid hrow2
      have HB2 := Lib.hid hB2
      have hbz := HB2.out.size
      have HXE := Lib.hid (show (Value.string (text xn)) = encStr xn from rfl)
      clear hs2 hpm hrow2 hB2 hrg2 hlt hg2 hat hv hlk hkey hrg e hxn
      go_wp2_with (first
        | (at_builtin; refine wpList_append_own _ rfl _ _ 52 rfl w.heap.size 9 i0 (.string ⟨#[]⟩) 1 16 Try.underlying52 hi hz0 hz1 hz2 rfl (by decide) _ _ _ rfl (World.ownsRow.alloc HROW2.out _) ⟨w2.heap.size, 0, none⟩ 1 1 [encStr xn] rfl rfl (cell_one_new _ _ _) (by simp [Value.oneCell', encStr]) (by unfold maxLen at *; omega) (by omega) (by simp; omega) ?_; intro v' w3 hown' hg3 hnil3; have HO3 := Lib.hid hown'; have HG3 := Lib.hid hg3; clear hown' hg3 hnil3)
        | go_in)
      try go_frame
      have hrg3 := (HR2.out.alloc _).kept HG3.out (row_ne_low HROW2.out HBL.out) (row_ne_iter HROW2.out HR2.out)
      have HR3 := Lib.hid hrg3
      clear hrg3 hbz
      go_roundw
      case rel =>
        refine ⟨_, cnt2, ns ++ [xn], HR3.out, by unfold OwnT; simpa using HO3.out, by rw [HXN.out]; exact HPM.out, ?_⟩
        exact (HB2.out.alloc (by have := HB2.out.size; omega) _).grown HG3.out (by have := HB2.out.size; simp; omega) (fun j hj => (HROW2.out.lt j hj).1)
      case measure => rw [HR3.out.left_eq, HRG.out.left_eq]; exact HLT.out
end Go.Proofs.Ytplanmiggeghfaa
