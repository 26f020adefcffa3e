/-
  Disk: the reference: Used, counted.
-/
import Derived.Test.YtplanmiggeghfaaDH
import Derived.Shelf.Abstract
namespace Go.Proofs.Ytplanmiggeghfaa
open Go.RowKit Go Go.Sort Go.Maps Go.WideMaps
set_option linter.unusedVariables false
set_option maxRecDepth 20000

theorem takeFr_snoc {l : List Fr} {i : Nat} (hi : i < l.length) : l.take (i + 1) = l.take i ++ [l.getD i Fr.zero] := by
  rw [List.take_add_one, List.getElem?_eq_getElem hi, List.getD_eq_getElem?_getD, List.getElem?_eq_getElem hi]
  rfl
theorem RefIn.mem {w : World} {q : Nat} {fv : Value} {FS : List Fr} {st : Ds} (h : RefIn w q fv FS st) {i : Nat} (hi : i < FS.length) : (FS.getD i Fr.zero) ∈ FS ∧ (FS.getD i Fr.zero).f.b.length ≤ 1048576 ∧ (FS.getD i Fr.zero).f.su ≤ (FS.getD i Fr.zero).f.b.length ∧ ∃ a c, (FS.getD i Fr.zero).v = .slice a (FS.getD i Fr.zero).f.b.length c ∧ Bys w a (FS.getD i Fr.zero).f.b.length c (FS.getD i Fr.zero).f.b := by
  have hm : (FS.getD i Fr.zero) ∈ FS := by
    rw [List.getD_eq_getElem?_getD, List.getElem?_eq_getElem hi]
    exact List.getElem_mem _
  obtain ⟨h1, h2, -⟩ := h.ok.each _ (by rw [← h.pr]; exact List.mem_map.2 ⟨_, hm, rfl⟩)
  obtain ⟨a, c, e, hb⟩ := (h.own _ hm).bys
  exact ⟨hm, h1, h2, a, c, e, hb⟩
theorem rsum_le {w : World} {q : Nat} {fv : Value} {FS : List Fr} {st : Ds} (h : RefIn w q fv FS st) (k : Nat) : ((FS.take k).map fun x => x.f.b.length).sum ≤ 67108864 := by
  have hl : FS.length ≤ 64 := by have := h.ok.len; rw [← h.pr] at this; simpa using this
  have := sum_len_le (L := (FS.take k).map fun x => x.f.b.length) (c := 1048576) (n := 64) (fun x hx => by
    obtain ⟨y, hy, rfl⟩ := List.mem_map.1 hx
    exact (h.ok.each y.f (by rw [← h.pr]; exact List.mem_map.2 ⟨y, List.mem_of_mem_take hy, rfl⟩)).1) (by rw [List.length_map, List.length_take]; omega)
  omega
set_option maxRecDepth 100000 in
set_option maxHeartbeats 6400000 in
theorem rused_c {w : World} {q : Nat} {fv : Value} {FS : List Fr} {st : Ds} (h : RefIn w q fv FS st) : Calls Try.prog 57 #[.pointer (some ⟨q, 0, none⟩)] w (Tells (.int .i64 (usedF st.F : Int)) w) := by
  have hu : usedF st.F = (FS.map fun x => x.f.b.length).sum := by unfold usedF; rw [← h.pr, List.map_map]; rfl
  rw [hu]
  obtain ⟨a, cap, rfl, hle, hmax, hat⟩ := h.at
  obtain ⟨n, hn⟩ : ∃ n, FS.length = n := ⟨_, rfl⟩
  have HD := Lib.hid h
  have HN := Lib.hid hn
  rw [hn] at hle hat
  have HAT := Lib.hid hat
  have HC := Lib.hid (show ∀ W, Below w.heap.size w W → W.cell? ⟨q, 1, none⟩ = some (.slice a n cap) from fun W hb => by have := (h.below hb).cs.2.1; rwa [hn] at this)
  clear h hn hat hu
  go_enter Try.func57, Try.ntmps57
  go_wp2
  go_loopw [3, 4] (fun v j wr => ∃ i : Nat, i ≤ n ∧ j = .int .i64 (i : Int) ∧ v = .int .i64 ((((FS.take i).map fun x => x.f.b.length).sum : Nat) : Int) ∧ Below w.heap.size w wr) (fun _ j _ => n - (intOf j).toNat)
  case atStart => exact ⟨0, by omega, rfl, rfl, Below.refl _ _⟩
  case round =>
    obtain ⟨i, hi, rfl, rfl, hb⟩ := hrel
    have HB := Lib.hid hb
    have c1 := HC.out _ hb
    clear hb
    by_cases hlt : i < n
    · have hii : (i : Int) < (n : Int) := by omega
      have hic : (i : Int) < (cap : Int) := by omega
      obtain ⟨b, off, rfl, hat⟩ := HAT.out i hlt
      have c2 := (hat wr HB.out).2.1
      obtain ⟨hm, hl1, -, xa, xc, hxv, hxb⟩ := HD.out.mem (i := i) (by have := HN.out; omega)
      rw [hxv] at c2
      have hs := rsum_le HD.out i
      have hsn : ((FS.take (i + 1)).map fun x => x.f.b.length).sum = ((FS.take i).map fun x => x.f.b.length).sum + (FS.getD i Fr.zero).f.b.length := by
        rw [takeFr_snoc (by have := HN.out; omega), List.map_append, List.sum_append]; simp
      obtain ⟨S, hS⟩ : ∃ z, ((FS.take i).map fun x => x.f.b.length).sum = z := ⟨_, rfl⟩
      obtain ⟨m, hml⟩ : ∃ z, (FS.getD i Fr.zero).f.b.length = z := ⟨_, rfl⟩
      rw [hS, hml] at hsn
      rw [hS] at hs ⊢
      rw [hml] at c2 hl1
      have hw : IntKind.i64.wrap ((S : Int) + (m : Int)) = ((S + m : Nat) : Int) := by rw [IntKind.wrap_i64]; omega
      have HSN := Lib.hid hsn
      have HW := Lib.hid (show (S : Int) + (m : Int) = ((S + m : Nat) : Int) by omega)
      clear hat hm hxv hxb hsn hS hml
      go_wp2
      go_roundw
      case rel => exact ⟨i + 1, by omega, by go_num, by rw [HSN.out]; first | rfl | (congr 1; exact HW.out), HB.out⟩
      case measure => simp [intOf]; omega
    · obtain rfl : i = n := by omega
      have HT := Lib.hid (show FS.take i = FS from List.take_of_length_le (by have := HN.out; omega))
      rw [HT.out]
      go_wp2
      go_ret
      exact ⟨rfl, HB.out⟩
/-- What 'counted' leaves. -/
def Ds.tick (st : Ds) : Ds := { st with ops := wr64 (st.ops + 1), pn := if st.plan = true then st.pn - 1 else st.pn }
theorem rcounted_no {w : World} {q : Nat} {fv : Value} {FS : List Fr} {st : Ds} (h : RefIn w q fv FS st) (hp : st.plan = true) (hn : st.pn = 0) : Calls Try.prog 75 #[.pointer (some ⟨q, 0, none⟩)] w (fun e w' => e = .returned (.bool false) ∧ w = w') := by
  obtain ⟨c0, c1, c2, c3, c4, c5, c6, c7⟩ := h.cs
  rw [hp] at c5
  rw [hn] at c6
  clear h hp hn
  go_enter Try.func75, Try.ntmps75
  go_wp2
  go_ret
  exact ⟨rfl, rfl⟩
end Go.Proofs.Ytplanmiggeghfaa
