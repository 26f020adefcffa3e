/-
  Disk: the reference: Names.
-/
import Derived.Test.YtplanmiggeghfaaDK
import Derived.Shelf.Abstract
namespace Go.Proofs.Ytplanmiggeghfaa
open Go.RowKit Go Go.Sort Go.Maps Go.WideMaps
set_option linter.unusedVariables false
set_option maxRecDepth 20000

set_option maxRecDepth 100000 in
set_option maxHeartbeats 6400000 in
theorem rnames_c {w : World} {q : Nat} {fv : Value} {FS : List Fr} {st : Ds} (h : RefIn w q fv FS st) : Calls Try.prog 30 #[.pointer (some ⟨q, 0, none⟩)] w (NamesPost (st.F.map Fi.nm) w) := by
  obtain ⟨i0, hi0, hz0, hz1, hz2⟩ := info_parts infoD9
  have hu : st.F.map Fi.nm = FS.map fun x => x.f.nm := by rw [← h.pr, List.map_map]; rfl
  rw [hu]
  obtain ⟨a, cap, rfl, hle, hmax, hat⟩ := h.at
  obtain ⟨n, hn⟩ : ∃ n, FS.length = n := ⟨_, rfl⟩
  have hn64 : n ≤ 64 := by have := h.ok.len; rw [← h.pr, List.length_map] at this; omega
  have HD := Lib.hid h
  have HN := Lib.hid hn
  rw [hn] at hle hat
  have HAT := Lib.hid hat
  have HC := Lib.hid (show ∀ W, Below w.heap.size w W → W.cell? ⟨q, 1, none⟩ = some (.slice a n cap) from fun W hb => by have := (h.below hb).cs.2.1; rwa [hn] at this)
  clear h hn hat hu
  go_enter Try.func30, Try.ntmps30
  go_wp2
  go_loopw [3, 4] (fun v j wr => ∃ i : Nat, i ≤ n ∧ j = .int .i64 (i : Int) ∧ OwnT wr w.heap.size v ((FS.take i).map fun x => x.f.nm) ∧ Below w.heap.size w wr) (fun _ j _ => n - (intOf j).toNat)
  case atStart => exact ⟨0, by omega, rfl, World.ownsRow_nil _ _ _ _, Below.refl _ _⟩
  case round =>
    obtain ⟨i, hi, rfl, hrow, hb⟩ := hrel
    have HB := Lib.hid hb
    have HROW := Lib.hid hrow
    have c1 := HC.out _ hb
    clear hb hrow
    by_cases hlt : i < n
    · have hii : (i : Int) < (n : Int) := by omega
      have hic : (i : Int) < (cap : Int) := by omega
      obtain ⟨b, off, rfl, hat⟩ := HAT.out i hlt
      have c2 := (hat wr HB.out).1
      have HSN := Lib.hid (show (FS.take (i + 1)).map (fun x => x.f.nm) = (FS.take i).map (fun x => x.f.nm) ++ [(FS.getD i Fr.zero).f.nm] by
        rw [takeFr_snoc (by have := HN.out; omega), List.map_append]; rfl)
      have hnl : ((FS.take i).map fun x => x.f.nm).length = i := by rw [List.length_map, List.length_take]; have := HN.out; omega
      obtain ⟨ns, hns⟩ : ∃ z, (FS.take i).map (fun x => x.f.nm) = z := ⟨_, rfl⟩
      obtain ⟨xn, hxn⟩ : ∃ z, (FS.getD i Fr.zero).f.nm = z := ⟨_, rfl⟩
      rw [hns] at HROW HSN hnl
      rw [hxn] at HSN c2
      have hns64 : ns.length ≤ 64 := by omega
      have HXE := Lib.hid (show (Value.string (text xn)) = encStr xn from rfl)
      have hbz := HB.out.size
      clear hat hns hxn hnl
      go_wp2_with (first
        | (at_builtin; refine wpList_append_own _ rfl _ _ 52 rfl w.heap.size 9 i0 (.string ⟨#[]⟩) 1 16 Try.underlying52 hi0 hz0 hz1 hz2 rfl (by decide) _ _ _ rfl (World.ownsRow.alloc HROW.out _) ⟨wr.heap.size, 0, none⟩ 1 1 [encStr xn] rfl rfl (cell_one_new _ _ _) (by simp [Value.oneCell', encStr]) (by unfold maxLen at *; omega) (by omega) (by simp; omega) ?_; intro v' w3 hown' hg3 hnil3; have HO3 := Lib.hid hown'; have HG3 := Lib.hid hg3; clear hown' hg3 hnil3)
        | go_in)
      try go_frame
      clear hbz
      go_roundw
      case rel =>
        refine ⟨i + 1, by omega, by go_num, by rw [HSN.out]; unfold OwnT; simpa using HO3.out, ?_⟩
        exact (HB.out.alloc (by have := HB.out.size; omega) _).grown HG3.out (by have := HB.out.size; simp; omega) (fun j hj => (HROW.out.lt j hj).1)
      case measure => simp [intOf]; omega
    · obtain rfl : i = n := by omega
      have HT := Lib.hid (show FS.take i = FS from List.take_of_length_le (by have := HN.out; omega))
      rw [HT.out] at HROW
      go_wp2
      go_ret
      exact ⟨_, rfl, HROW.out, HB.out⟩
end Go.Proofs.Ytplanmiggeghfaa
