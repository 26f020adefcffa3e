/-
  Disk: the reference: find by its place; Read.
-/
import Derived.Test.YtplanmiggeghfaaDR1
import Derived.Shelf.Abstract
namespace Go.Proofs.Ytplanmiggeghfaa
open Go.RowKit Go Go.Sort Go.Maps Go.WideMaps
set_option linter.unusedVariables false
set_option maxRecDepth 20000

theorem RefIn.look {w : World} {q : Nat} {fv : Value} {FS : List Fr} {st : Ds} (h : RefIn w q fv FS st) (nm : List UInt8) : (lookF st.F nm = none ∧ ∀ j, j < FS.length → (FS.getD j Fr.zero).f.nm ≠ nm) ∨ ∃ i, i < FS.length ∧ (FS.getD i Fr.zero).f.nm = nm ∧ lookF st.F nm = some (FS.getD i Fr.zero).f := by
  cases hf : lookF st.F nm with
  | none =>
    refine .inl ⟨rfl, fun j hj he => ?_⟩
    unfold lookF at hf
    rw [List.find?_eq_none] at hf
    exact hf _ (by rw [← h.pr]; exact List.mem_map.2 ⟨_, (h.mem hj).1, rfl⟩) (by simpa using he)
  | some f =>
    unfold lookF at hf
    have h1 := List.find?_some hf
    have h2 := List.mem_of_find?_eq_some hf
    rw [← h.pr] at h2
    obtain ⟨x, hx, rfl⟩ := List.mem_map.1 h2
    obtain ⟨i, hi, e⟩ := List.getElem_of_mem hx
    have e2 : FS.getD i Fr.zero = x := by rw [List.getD_eq_getElem?_getD, List.getElem?_eq_getElem hi, ← e]; rfl
    exact .inr ⟨i, hi, by rw [e2]; simpa using h1, by rw [e2]⟩
theorem RefIn.one {w : World} {q : Nat} {fv : Value} {FS : List Fr} {st : Ds} (h : RefIn w q fv FS st) {i j : Nat} (hi : i < FS.length) (hj : j < FS.length) (he : (FS.getD i Fr.zero).f.nm = (FS.getD j Fr.zero).f.nm) : i = j := by
  have hp : FS.Pairwise (fun a b => a.f.nm ≠ b.f.nm) := by
    have := h.ok.asc
    rw [← h.pr, List.pairwise_map] at this
    exact this.imp less_ne
  rw [List.getD_eq_getElem?_getD, List.getElem?_eq_getElem hi, List.getD_eq_getElem?_getD, List.getElem?_eq_getElem hj] at he
  rw [List.pairwise_iff_getElem] at hp
  rcases Nat.lt_trichotomy i j with h1 | h1 | h1
  · exact absurd he (hp i j hi hj h1)
  · exact h1
  · exact absurd he.symm (hp j i hj hi h1)
theorem rfind_none {w : World} {q : Nat} {fv : Value} {FS : List Fr} {st : Ds} (h : RefIn w q fv FS st) (nm : List UInt8) (hf : ∀ j, j < FS.length → (FS.getD j Fr.zero).f.nm ≠ nm) : Calls Try.prog 60 #[.pointer (some ⟨q, 0, none⟩), .string (text nm)] w (Tells (.int .i64 (-1)) w) :=
  (rfind_c h nm).mono fun e w' ⟨hb, hc⟩ => by
    rcases hc with ⟨he, -⟩ | ⟨i, hi, -, hnm, -⟩
    · exact ⟨he, hb⟩
    · exact absurd hnm (hf i hi)
theorem rfind_some {w : World} {q : Nat} {fv : Value} {FS : List Fr} {st : Ds} (h : RefIn w q fv FS st) (nm : List UInt8) {i : Nat} (hi : i < FS.length) (hnm : (FS.getD i Fr.zero).f.nm = nm) : Calls Try.prog 60 #[.pointer (some ⟨q, 0, none⟩), .string (text nm)] w (Tells (.int .i64 (i : Int)) w) :=
  (rfind_c h nm).mono fun e w' ⟨hb, hc⟩ => by
    rcases hc with ⟨-, -, hno⟩ | ⟨j, hj, he, hnm2, -⟩
    · exact absurd hnm (hno i hi)
    · obtain rfl := h.one hi hj (hnm.trans hnm2.symm)
      exact ⟨he, hb⟩
set_option maxRecDepth 100000 in
set_option maxHeartbeats 6400000 in
theorem rread_c {w : World} {q : Nat} {st : Ds} {F : Nat → Prop} (hk : Rk w q st F) (nm : List UInt8) : Calls Try.prog 20 #[.pointer (some ⟨q, 0, none⟩), .string (text nm)] w (ReadPost w (st.read nm).1 (st.read nm).2) := by
  obtain ⟨i0, hi0, hz0, hz1, hz2⟩ := info_parts infoD5
  obtain ⟨fv, FS, h, rfl⟩ := hk
  have c2 := h.cs.2.2.1
  cases hon : st.on with
  | false =>
    have HR := Lib.hid (show st.read nm = (none, 150) by unfold Ds.read; rw [if_pos hon])
    rw [HR.out]
    rw [hon] at c2
    clear h hon
    go_enter Try.func20, Try.ntmps20
    go_wp2
    go_ret2
    exact ⟨_, rfl, Below.refl _ _, rfl⟩
  | true =>
    rw [hon] at c2
    rcases h.look nm with ⟨hl, hno⟩ | ⟨i, hi, hnm, hl⟩
    · have HR := Lib.hid (show st.read nm = (none, 152) by unfold Ds.read; rw [if_neg (by simp [hon]), hl])
      rw [HR.out]
      have HFN := Lib.hid (rfind_none h nm hno)
      obtain ⟨tx, htx⟩ : ∃ s, text nm = s := ⟨_, rfl⟩
      rw [htx] at HFN ⊢
      clear htx hi0 hz0 hz1 hz2 h hl hno hon
      go_enter Try.func20, Try.ntmps20
      go_wp2_with (go_at_call 60; (with_reducible refine HFN.out.mono ?_); rintro e9 w9 ⟨rfl, hb9⟩; have HB9 := Lib.hid hb9; clear hb9)
      go_ret2
      exact ⟨_, rfl, HB9.out, rfl⟩
    · have HR := Lib.hid (show st.read nm = (some (FS.getD i Fr.zero).f.b, 0) by unfold Ds.read; rw [if_neg (by simp [hon]), hl])
      rw [HR.out]
      have HFN := Lib.hid (rfind_some h nm hi hnm)
      obtain ⟨a, cap, hfv, hle, hmax, hat⟩ := h.at
      obtain ⟨b, off, rfl, hat2⟩ := hat i hi
      obtain ⟨-, hl1, -, xa, xc, hxv, hxb⟩ := h.mem hi
      have HC := Lib.hid (fun W (hb : Below w.heap.size w W) => And.intro ((h.below hb).cs.2.1.trans (by rw [hfv])) (((hat2 W hb).2.1).trans (by rw [hxv])))
      obtain ⟨l, hlb⟩ : ∃ z, (FS.getD i Fr.zero).f.b = z := ⟨_, rfl⟩
      obtain ⟨n, hn⟩ : ∃ z, FS.length = z := ⟨_, rfl⟩
      rw [hlb] at HC hl1 hxb ⊢
      rw [hn] at HC hi hle
      have HXB := Lib.hid hxb
      have hii : (i : Int) < (n : Int) := by omega
      have hic : (i : Int) < (cap : Int) := by omega
      have hi0n : ¬ (i : Int) < 0 := by omega
      obtain ⟨tx, htx⟩ : ∃ s, text nm = s := ⟨_, rfl⟩
      rw [htx] at HFN ⊢
      clear htx h hl hon hnm hat hat2 hfv hxv hxb hlb hn
      go_enter Try.func20, Try.ntmps20
      go_wp2_with (first
        | (go_at_call 60; (with_reducible refine HFN.out.mono ?_); rintro e9 w9 ⟨rfl, hb9⟩; have HB9 := Lib.hid hb9; have hal := alloc_below w9 (.cells #[] 5); have HAL := Lib.hid (hb9.trans (hal.mono hb9.size)); obtain ⟨k1, k2⟩ := HC.out _ HAL.out; have HOE := Lib.hid (OwnB.empty w9 w.heap.size 5 hb9.size); clear hb9 hal)
        | (refine wpList_append_bysA rfl _ _ 30 rfl (base := w.heap.size) (e := 5) (k := []) (l := l) (i := i0) (z := .int .u8 0) Try.underlying30 hi0 hz0 hz1 hz2 rfl rfl HOE.out rfl (HXB.out.below HAL.out) (by simp; omega) HAL.out.size ?_; intro v7 w7 ho7 hg7 ha7; have HO7 := Lib.hid ho7; have HG7 := Lib.hid hg7; clear ho7 hg7 ha7 k1 k2))
      go_ret2
      refine ⟨_, rfl, HAL.out.grown HG7.out HAL.out.size (fun k hk => (HOE.out.lt k hk).1), by simpa using HO7.out⟩
end Go.Proofs.Ytplanmiggeghfaa
