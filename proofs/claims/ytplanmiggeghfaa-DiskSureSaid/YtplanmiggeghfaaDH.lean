/-
  Disk: the reference: find, Used.
-/
import Derived.Test.YtplanmiggeghfaaDG
import Derived.Shelf.Abstract
namespace Go.Proofs.Ytplanmiggeghfaa
open Go.RowKit Go Go.Sort Go.Maps Go.WideMaps
set_option linter.unusedVariables false
set_option maxRecDepth 20000

theorem findIdx_F {FS : List Fr} (nm : List UInt8) (i : Nat) (hi : i < FS.length) (h : ∀ j, j < i → (FS.getD j Fr.zero).f.nm ≠ nm) (he : (FS.getD i Fr.zero).f.nm = nm) : lookF (FS.map Fr.f) nm = some (FS.getD i Fr.zero).f := by
  induction FS generalizing i with
  | nil => simp at hi
  | cons x r ih =>
    unfold lookF
    rw [List.map_cons, List.find?_cons]
    cases i with
    | zero =>
      have he' : x.f.nm = nm := he
      simp [he']
    | succ i =>
      have hx : x.f.nm ≠ nm := h 0 (by omega)
      have : (x.f.nm == nm) = false := by simpa using hx
      rw [this]
      exact ih i (by simpa using hi) (fun j hj => h (j + 1) (by omega)) he
theorem findNone_F {FS : List Fr} (nm : List UInt8) (h : ∀ j, j < FS.length → (FS.getD j Fr.zero).f.nm ≠ nm) : lookF (FS.map Fr.f) nm = none := by
  unfold lookF
  rw [List.find?_eq_none]
  intro f hf
  obtain ⟨x, hx, rfl⟩ := List.mem_map.1 hf
  obtain ⟨j, hj, rfl⟩ := List.getElem_of_mem hx
  have := h j hj
  rw [List.getD_eq_getElem?_getD, List.getElem?_eq_getElem hj] at this
  simpa using this
/-- The cells of a file in the list. -/
theorem RefIn.at {w : World} {q : Nat} {fv : Value} {FS : List Fr} {st : Ds} (h : RefIn w q fv FS st) : ∃ a cap, fv = .slice a FS.length cap ∧ FS.length ≤ cap ∧ cap ≤ 9223372036854775807 ∧ ∀ i, i < FS.length → ∃ b off, a = some ⟨b, off, none⟩ ∧ ∀ W, Below w.heap.size w W → W.cell? ⟨b, off + i * 3, none⟩ = some (.string (text (FS.getD i Fr.zero).f.nm)) ∧ W.cell? ⟨b, off + i * 3 + 1, none⟩ = some (FS.getD i Fr.zero).v ∧ W.cell? ⟨b, off + i * 3 + 2, none⟩ = some (.int .i64 ((FS.getD i Fr.zero).f.su : Int)) := by
  obtain ⟨a, cap, e, hl⟩ := h.list.ls (z := Fr.zero) fr_size
  exact ⟨a, cap, e, hl.le, hl.max, fun i hi => by
    obtain ⟨b, off, e2, hat⟩ := hl.at hi
    exact ⟨b, off, e2, fun W hb => ⟨hat W hb 0 _ rfl, hat W hb 1 _ rfl, hat W hb 2 _ rfl⟩⟩⟩
set_option maxRecDepth 100000 in
set_option maxHeartbeats 6400000 in
theorem rfind_c {w : World} {q : Nat} {fv : Value} {FS : List Fr} {st : Ds} (h : RefIn w q fv FS st) (nm : List UInt8) : Calls Try.prog 60 #[.pointer (some ⟨q, 0, none⟩), .string (text nm)] w
    (fun e w' => Below w.heap.size w w' ∧ ((e = .returned (.int .i64 (-1)) ∧ lookF st.F nm = none ∧ (∀ j, j < FS.length → (FS.getD j Fr.zero).f.nm ≠ nm)) ∨ ∃ i : Nat, i < FS.length ∧ e = .returned (.int .i64 (i : Int)) ∧ (FS.getD i Fr.zero).f.nm = nm ∧ lookF st.F nm = some (FS.getD i Fr.zero).f)) := by
  obtain ⟨a, cap, rfl, hle, hmax, hat⟩ := h.at
  obtain ⟨n, hn⟩ : ∃ n, FS.length = n := ⟨_, rfl⟩
  have HD := Lib.hid h
  have HN := Lib.hid hn
  have HPR := Lib.hid h.pr
  rw [hn] at hle hat
  have HAT := Lib.hid hat
  obtain ⟨ty, hty⟩ : ∃ s, text nm = s := ⟨_, rfl⟩
  have HTY := Lib.hid hty
  rw [hty]
  have HC := Lib.hid (show ∀ W, Below w.heap.size w W → W.cell? ⟨q, 1, none⟩ = some (.slice a n cap) from fun W hb => by have := (h.below hb).cs.2.1; rwa [hn] at this)
  clear h hn hat hty
  go_enter Try.func60, Try.ntmps60
  go_wp2
  go_loopw [5] (fun j wr => ∃ i : Nat, i ≤ n ∧ j = .int .i64 (i : Int) ∧ (∀ j, j < i → (FS.getD j Fr.zero).f.nm ≠ nm) ∧ Below w.heap.size w wr) (fun j _ => n - (intOf j).toNat)
  case atStart => exact ⟨0, by omega, rfl, fun j hj => by omega, Below.refl _ _⟩
  case round =>
    obtain ⟨i, hi, rfl, hno, hb⟩ := hrel
    have HB := Lib.hid hb
    have HNO := Lib.hid hno
    have c1 := HC.out _ hb
    have k1 := cell_regrown c1
    clear hb hno
    by_cases hlt : i < n
    · have hii : (i : Int) < (n : Int) := by omega
      have hic : (i : Int) < (cap : Int) := by omega
      obtain ⟨b, off, rfl, hat⟩ := HAT.out i hlt
      have HF := Lib.hid (fun W hb => (hat W hb).1)
      clear hat
      obtain ⟨x, hx⟩ : ∃ z, text (FS.getD i Fr.zero).f.nm = z := ⟨_, rfl⟩
      have HX := Lib.hid hx
      clear hx
      by_cases he : (FS.getD i Fr.zero).f.nm = nm
      · have hxy : x = ty := by rw [← HX.out, ← HTY.out, he]
        subst hxy
        have HE := Lib.hid he
        clear he
        have c2 := HF.out wr HB.out
        rw [HX.out] at c2
        clear k1
        go_wp2
        go_ret
        refine ⟨HB.out, .inr ⟨i, by have := HN.out; omega, rfl, HE.out, ?_⟩⟩
        rw [← HPR.out]
        exact findIdx_F nm i (by have := HN.out; omega) HNO.out HE.out
      · have hnb : (x.toList == ty.toList) = false := by
          rw [← HX.out, ← HTY.out, ByteArray.toList_eq, ByteArray.toList_eq, beq_eq_false_iff_ne]
          exact fun h => he (by simpa [text] using h)
        have HE := Lib.hid (show ∀ j, j < i + 1 → (FS.getD j Fr.zero).f.nm ≠ nm from fun j hj => by
          by_cases hji : j = i
          · subst hji; exact he
          · exact HNO.out j (by omega))
        clear he
        have c2 := HF.out wr HB.out
        rw [HX.out] at c2
        clear k1
        go_wp2
        go_roundw
        case rel => exact ⟨i + 1, by omega, by go_num, HE.out, HB.out⟩
        case measure => simp [intOf]; omega
    · obtain rfl : i = n := by omega
      go_wp2
      go_ret
      refine ⟨HB.out, .inl ⟨rfl, ?_, fun j hj => HNO.out j (by have := HN.out; omega)⟩⟩
      rw [← HPR.out]
      exact findNone_F nm (fun j hj => HNO.out j (by have := HN.out; omega))
end Go.Proofs.Ytplanmiggeghfaa
