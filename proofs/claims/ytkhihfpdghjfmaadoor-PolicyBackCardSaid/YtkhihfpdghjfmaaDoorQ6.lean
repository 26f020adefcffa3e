/-
  Policy: the reference's bytes and Encode.
-/
import Derived.Test.YtkhihfpdghjfmaaDoorQ5
import Derived.Test.YtkhihfpdghjfmaaDoorTX
import Derived.Test.YtkhihfpdghjfmaaDoorDT
namespace Go.Proofs.YtkhihfpdghjfmaaDoor
open Go.RowKit Go Go.Sort
set_option linter.unusedVariables false
set_option maxRecDepth 20000

theorem pbytes_step (n : Nat) (l : List Grp) (k : Nat) (h : k < l.length) : numB (n : Int) ++ (l.take (k + 1)).flatMap oneB = putTextS (numB (n : Int) ++ (l.take k).flatMap oneB) (l.getD k ([], 0)).1 ++ numB (l.getD k ([], 0)).2 := by
  have e : l[k] = l.getD k ([], 0) := by rw [List.getD_eq_getElem?_getD, List.getElem?_eq_getElem h]; rfl
  rw [List.take_succ_eq_append_getElem h, e]
  simp [oneB, putTextS, List.flatMap_append]

set_option maxRecDepth 100000 in
set_option maxHeartbeats 3200000 in
theorem rpbytes_c {w : World} {a : Option Addr} {n cap : Nat} {l : List Grp} (hl : Grs w a n cap l) (hn4 : n ≤ 4) (hs : ∀ g ∈ l, g.1.length ≤ 12 ∧ (g.2 = 1 ∨ g.2 = 2)) :
    Calls Tryd.prog 47 #[.slice a n cap] w (BytesPost (pbytesS l) w) := by
  have hln := hl.len
  have hle := hl.le
  have hmx := hl.max
  have HL := Lib.hid hl
  have hnil : Bys w none 0 0 [] := ⟨rfl, Nat.le_refl _, by omega, .inl rfl⟩
  have HP0 := Lib.hid (rput_c hnil (by omega) (n : Int) (by omega) (by omega))
  have hb8 := numB_length (n : Int)
  have HF := Lib.hid (show pbytesS l = numB (l.length : Int) ++ l.flatMap oneB from rfl)
  rw [hln] at HF
  clear hl hnil
  go_enter Tryd.func47, Tryd.ntmps47
  go_upto_region 3 with (go_at_call 76; (with_reducible refine (HP0.out).mono ?_); rintro e w1 ⟨v1, rfl, ho1, hb1⟩)
  rw [List.nil_append] at ho1
  go_loopw [3, 4] (fun v i wr => ∃ k : Nat, k ≤ n ∧ i = .int .i64 k ∧ OwnB wr w.heap.size 5 v (numB (n : Int) ++ (l.take k).flatMap oneB) ∧ (numB (n : Int) ++ (l.take k).flatMap oneB).length ≤ 8 + 40 * k ∧ Below w.heap.size w wr) (fun _ i _ => n - (intOf i).toNat)
  case atStart => exact ⟨0, by omega, rfl, by simpa using ho1, by simpa using hb8, hb1⟩
  case round =>
    clear ho1 hb1
    obtain ⟨k, hk, rfl, ho, hacc, hB⟩ := hrel
    by_cases hlt : k < n
    · have hki : (k : Int) < (n : Int) := by omega
      have hki2 : (k : Int) < (cap : Int) := by omega
      obtain ⟨b, off, rfl, hat⟩ := HL.out.at hlt
      have hst := pbytes_step n l k (by omega)
      have hnm := hs _ (show l.getD k ([], 0) ∈ l by rw [List.getD_eq_getElem?_getD, List.getElem?_eq_getElem (by omega)]; exact List.getElem_mem _)
      obtain ⟨⟨s, p⟩, hg⟩ : ∃ g, l.getD k ([], 0) = g := ⟨_, rfl⟩
      rw [hg] at hat hst hnm
      simp only at hat hnm hst
      obtain ⟨acc, hac⟩ : ∃ q, numB (n : Int) ++ (l.take k).flatMap oneB = q := ⟨_, rfl⟩
      rw [hac] at hst hacc ho
      obtain ⟨a', c', rfl, hy⟩ := ho.bys
      obtain ⟨lt, hlt2⟩ : ∃ q, putTextS acc s = q := ⟨_, rfl⟩
      rw [hlt2] at hst
      obtain ⟨lf, hlf⟩ : ∃ q, lt ++ numB p = q := ⟨_, rfl⟩
      rw [hlf] at hst
      have hs8 := numB_length (s.length : Int)
      have hp8 := numB_length p
      have hltl : lt.length ≤ acc.length + 20 := by rw [← hlt2]; unfold putTextS; simp only [List.length_append]; omega
      have hlfl : lf.length ≤ 8 + 40 * (k + 1) := by rw [← hlf, List.length_append]; omega
      have HST := Lib.hid hst
      have HLF := Lib.hid hlfl
      have HB := Lib.hid hB
      have HAT := Lib.hid (fun W (h : Below wr.heap.size wr W) => hat W (hB.trans (h.mono hB.size)))
      have hpt := fun W (h : Below wr.heap.size wr W) => rputtext_c (hy.below h) (text s) (by omega) (by rw [text_len]; omega)
      have hsd : (text s).data.toList = s := by simp [text]
      simp only [hsd, hlt2] at hpt
      have HPT := Lib.hid hpt
      have hpp := fun (W : World) (a2 : Option Addr) (c2 : Nat) (hy2 : Bys W a2 lt.length c2 lt) => rput_c hy2 (by omega) p (by omega) (by omega)
      simp only [hlf] at hpp
      have HPP := Lib.hid hpp
      have HBs := Lib.hid hB.size
      have hkn2 : k + 1 ≤ n := by omega
      have HK := Lib.hid hkn2
      clear hat hst hg hac hacc ho hy hlt2 hlf hs8 hp8 hltl hlfl hpt hpp hsd hB hnm hkn2 hb8
      go_wp2
      refine wp_region_flow_tail 13 [none, none, none, none, none, none, none, none, none, none, none, none, none, none, some 0, some 1, some 2, some 3, some 4, some 5, some 6, some 7, some 8, some 9, some 10, some 11, some 12, none] (fun i => [u14, u15, u16, u17, u18, u19, u20, u21, u22, u23, u24, u25, u26].getD i undef) [(fun v _ => v = .slice a' acc.length c'), (fun v _ => v = .slice (some ⟨b, off, none⟩) n cap), (fun v _ => v = .int .i64 (k : Int)), (fun v _ => v = .pointer (some ⟨b, off + k * 2, none⟩)), (fun v _ => v = .pointer (some ⟨b, off + k * 2, none⟩)), (fun v _ => v = .string (text s)), (fun v W => OwnB W w.heap.size 5 v lt), (fun v _ => v = .slice (some ⟨b, off, none⟩) n cap), (fun v _ => v = .int .i64 (k : Int)), (fun v _ => v = .pointer (some ⟨b, off + k * 2, none⟩)), (fun v _ => v = .pointer (some ⟨b, off + k * 2 + 1, none⟩)), (fun v _ => v = .int .i64 p), (fun v W => OwnB W w.heap.size 5 v lf)] (fun _ => False) (by kernel_rfl) (by kernel_rfl) (by kernel_rfl) rfl rfl rfl ?_ ?_ ?_
      · intro g hg v X Y hX hY hv
        simp only [List.mem_cons, List.not_mem_nil, or_false] at hg
        rcases hg with rfl | rfl | rfl | rfl | rfl | rfl | rfl | rfl | rfl | rfl | rfl | rfl | rfl
        all_goals first
          | exact hv
          | exact hv.kept hY
      · simp only [flowOpsF, List.take_succ_cons, List.take_zero, and_true]
        refine ⟨?_, ?_, ?_, ?_, ?_, ?_, ?_, ?_, ?_, ?_, ?_, ?_, ?_⟩
        · intro xs W hW hn
          simp only [flowAct, List.zipWith_cons_cons, List.zipWith_nil_left]
          go_wp2_with (fail)
          exact ⟨rfl, _, rfl, Below.refl _ _, rfl, fun h => h.elim⟩
        · intro xs W hW hn
          simp only [flowAct, List.zipWith_cons_cons, List.zipWith_nil_left]
          go_wp2_with (fail)
          exact ⟨rfl, _, rfl, Below.refl _ _, rfl, fun h => h.elim⟩
        · intro xs W hW hn
          simp only [flowAct, List.zipWith_cons_cons, List.zipWith_nil_left]
          go_wp2_with (fail)
          exact ⟨rfl, _, rfl, Below.refl _ _, rfl, fun h => h.elim⟩
        · intro xs W hW hn
          obtain ⟨c0, c1⟩ := HAT.out W hW
          simp [flowNeeds, Region.binds] at hn
          simp only [flowAct, List.zipWith_cons_cons, List.zipWith_nil_left]
          try simp only [hn]
          go_wp2_with (fail)
          exact ⟨rfl, _, rfl, Below.refl _ _, rfl, fun h => h.elim⟩
        · intro xs W hW hn
          simp [flowNeeds, Region.binds] at hn
          simp only [flowAct, List.zipWith_cons_cons, List.zipWith_nil_left]
          try simp only [hn]
          go_wp2_with (fail)
          exact ⟨rfl, _, rfl, Below.refl _ _, rfl, fun h => h.elim⟩
        · intro xs W hW hn
          obtain ⟨c0, c1⟩ := HAT.out W hW
          simp [flowNeeds, Region.binds] at hn
          simp only [flowAct, List.zipWith_cons_cons, List.zipWith_nil_left]
          try simp only [hn]
          go_wp2_with (fail)
          exact ⟨rfl, _, rfl, Below.refl _ _, rfl, fun h => h.elim⟩
        · intro xs W hW hn
          simp [flowNeeds, Region.binds] at hn
          simp only [flowAct, List.zipWith_cons_cons, List.zipWith_nil_left]
          simp only [hn]
          go_wp2_with (go_at_call 79; (with_reducible refine (HPT.out _ hW).mono ?_); rintro e w9 ⟨v, rfl, ho, hb9⟩)
          exact ⟨rfl, _, rfl, hb9, ho.mono (Nat.le_trans HBs.out hW.size), fun h => h.elim⟩
        · intro xs W hW hn
          simp only [flowAct, List.zipWith_cons_cons, List.zipWith_nil_left]
          go_wp2_with (fail)
          exact ⟨rfl, _, rfl, Below.refl _ _, rfl, fun h => h.elim⟩
        · intro xs W hW hn
          simp only [flowAct, List.zipWith_cons_cons, List.zipWith_nil_left]
          go_wp2_with (fail)
          exact ⟨rfl, _, rfl, Below.refl _ _, rfl, fun h => h.elim⟩
        · intro xs W hW hn
          obtain ⟨c0, c1⟩ := HAT.out W hW
          simp [flowNeeds, Region.binds] at hn
          simp only [flowAct, List.zipWith_cons_cons, List.zipWith_nil_left]
          try simp only [hn]
          go_wp2_with (fail)
          exact ⟨rfl, _, rfl, Below.refl _ _, rfl, fun h => h.elim⟩
        · intro xs W hW hn
          simp [flowNeeds, Region.binds] at hn
          simp only [flowAct, List.zipWith_cons_cons, List.zipWith_nil_left]
          try simp only [hn]
          go_wp2_with (fail)
          exact ⟨rfl, _, rfl, Below.refl _ _, rfl, fun h => h.elim⟩
        · intro xs W hW hn
          obtain ⟨c0, c1⟩ := HAT.out W hW
          simp [flowNeeds, Region.binds] at hn
          simp only [flowAct, List.zipWith_cons_cons, List.zipWith_nil_left]
          try simp only [hn]
          go_wp2_with (fail)
          exact ⟨rfl, _, rfl, Below.refl _ _, rfl, fun h => h.elim⟩
        · intro xs W hW hn
          simp [flowNeeds, Region.binds] at hn
          simp only [flowAct, List.zipWith_cons_cons, List.zipWith_nil_left]
          obtain ⟨ho3, e5⟩ := hn
          obtain ⟨a2, c2, e3, hy3⟩ := ho3.bys
          simp only [e3, e5]
          go_wp2_with (go_at_call 76; (with_reducible refine (HPP.out _ _ _ hy3).mono ?_); rintro e w9 ⟨v, rfl, ho, hb9⟩)
          exact ⟨rfl, _, rfl, hb9, ho.mono (Nat.le_trans HBs.out hW.size), fun h => h.elim⟩
      · intro xs W hW hall hfr
        clear hfr
        simp only [flowAll, and_true, Nat.zero_add, Nat.reduceAdd] at hall
        obtain ⟨-, -, -, -, -, -, -, -, -, -, -, -, e13⟩ := hall
        simp only [flowAct, List.zipWith_cons_cons, List.zipWith_nil_left, List.drop_succ_cons, List.drop_zero]
        go_wp2
        go_roundw
        case rel => exact ⟨k + 1, HK.out, rfl, by rw [HST.out]; exact e13, by rw [HST.out]; exact HLF.out, HB.out.trans (hW.mono HB.out.size)⟩
        case measure => simp [intOf]; omega
    · obtain rfl : k = n := by omega
      rw [List.take_of_length_le (by omega)] at ho
      have HO := Lib.hid ho
      have HB := Lib.hid hB
      clear ho hB hacc hb8
      go_wp2
      go_ret
      exact ⟨_, rfl, by rw [HF.out]; exact HO.out, HB.out⟩
end Go.Proofs.YtkhihfpdghjfmaaDoor
