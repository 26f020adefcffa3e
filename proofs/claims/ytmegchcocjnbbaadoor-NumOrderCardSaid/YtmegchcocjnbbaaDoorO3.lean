/-
  NumOrder, case 3 of 7.
-/
import Derived.Test.YtmegchcocjnbbaaDoorRP
import Derived.Test.YtmegchcocjnbbaaDoorOM
import Derived.Test.YtmegchcocjnbbaaDoorRd
import Derived.WalkKit
import Derived.Below
import Derived.Lib.Hide
namespace Go.Proofs.YtmegchcocjnbbaaDoor
open Go.RowKit
set_option linter.unusedVariables false

set_option maxHeartbeats 1600000 in
theorem ord_3 {w : World} (hT : TabW w) (a0 a1 : Int) (hm : -9223372036854775808 ≤ a0 ∧ a0 ≤ 9223372036854775807) (hn : -9223372036854775808 ≤ a1 ∧ a1 ≤ 9223372036854775807) (A0 : 0 ≤ a0) (A1 : a0 ≤ 4611686018427387903) (h : a1 < 0) :
    Calls Tryd.prog 7 #[.int .i64 a0, .int .i64 a1] w fun e w' => e = .returned (.bool true) ∧ Below w.heap.size w w' := by
  have hdw : Below w.heap.size w w.drew := (Below.refl _ _).drew
  have hTd := hT.below hdw
  have h64 : sizeS 64 = 2 := by decide
  obtain ⟨la, HA⟩ : ∃ la, Hid (numB a0 = la) := ⟨_, rfl⟩
  obtain ⟨lb, HB⟩ : ∃ lb, Hid (numB a1 = lb) := ⟨_, rfl⟩
  have hp := (numB_len A0 A1).2
  rw [HA.out] at hp
  have hsa0 : ¬ (text la).size = 0 := by rw [text_size]; omega
  have n0 : ¬ a0 < 0 := by omega
  have n1 : ¬ 4611686018427387903 < a0 := by omega
  clear hp
  have hs0 : (text lb).size = 0 := by rw [← HB.out, numB_none (.inl h)]; rfl
  go_enter Tryd.func7, Tryd.ntmps7
  go_wp2
  refine wp_region_any (by kernel_rfl) ?_
  try (change wpAny _ _ _ _ _ _ _ (World.drew _))
  refine wpAny_take (i := 0) (v := ?_) rfl (by kernel_rfl) (by kernel_rfl) (by kernel_rfl) (fun _ _ _ h => h) (Or.inl ⟨by rfl, ?_⟩) ?_
  case refine_2 => (intro w; go_simp; try with_reducible rfl)
  try simp only [Act.put, List.getElem_toArray, List.getElem_cons_zero, List.setIfInBounds_toArray, List.set_cons_zero, List.set_cons_succ]
  refine wpAny_take (i := 3) (v := ?_) rfl (by kernel_rfl) (by kernel_rfl) (by kernel_rfl) (fun _ _ _ h => h) (Or.inl ⟨by rfl, ?_⟩) ?_
  case refine_2 => (intro w; go_simp; try with_reducible rfl)
  try simp only [Act.put, List.getElem_toArray, List.getElem_cons_succ, List.getElem_cons_zero, List.setIfInBounds_toArray, List.set_cons_zero, List.set_cons_succ]
  refine wpAny_ready (rs := [1]) (by kernel_rfl) (by simp) ?_
  refine AllReady.cons rfl (fun K hK => ?_) ?_
  · go_simp
    go_wp2_with (go_at_call 9; refine (put_c (show Bys _ none 0 0 [] from ⟨rfl, Nat.le_refl _, by omega, .inl rfl⟩) (by omega) a0 hm.1 hm.2 hTd).mono ?_; rintro e w1 ⟨v1, rfl, ho1, hbv1⟩; rw [List.nil_append, HA.out] at ho1; obtain ⟨av1, c1, rfl, hb1⟩ := ho1.bys; have k1 := conv_bys (P := Tryd.prog) hb1 Tryd.underlying22 Tryd.underlying5 Tryd.underlying9; have hw1 : Below w.heap.size w w1 := hdw.trans (hbv1.mono hdw.size); have hT1 := hTd.below hbv1)
    try (refine hK _ _ ?_)
    try clear hK K
    refine wpAny_ready (rs := [2, 4]) (by kernel_rfl) (by simp) ?_
    refine AllReady.cons rfl (fun K hK => ?_) ?_
    · go_simp
      try (refine hK _ _ ?_)
      try clear hK K
      refine wpAny_ready (rs := [4]) (by kernel_rfl) (by simp) ?_
      refine AllReady.cons rfl (fun K hK => ?_) ?_
      · go_simp
        go_wp2_with (go_at_call 9; refine (put_c (show Bys _ none 0 0 [] from ⟨rfl, Nat.le_refl _, by omega, .inl rfl⟩) (by omega) a1 hn.1 hn.2 hT1).mono ?_; rintro e w2 ⟨v2, rfl, ho2, hbv2⟩; rw [List.nil_append, HB.out] at ho2; obtain ⟨av2, c2, rfl, hb2⟩ := ho2.bys; have k2 := conv_bys (P := Tryd.prog) hb2 Tryd.underlying22 Tryd.underlying5 Tryd.underlying9; have k3 := conv_bys (P := Tryd.prog) (hb1.below hbv2) Tryd.underlying22 Tryd.underlying5 Tryd.underlying9; have hw2 : Below w.heap.size w w2 := hw1.trans (hbv2.mono hw1.size))
        try (refine hK _ _ ?_)
        try clear hK K
        refine wpAny_take (i := 6) (v := ?_) rfl (by kernel_rfl) (by kernel_rfl) (by kernel_rfl) (fun _ _ _ h => h) (Or.inl ⟨by rfl, ?_⟩) ?_
        case refine_2 => (intro w; go_simp; try with_reducible rfl)
        try simp only [Act.put, List.getElem_toArray, List.getElem_cons_succ, List.getElem_cons_zero, List.setIfInBounds_toArray, List.set_cons_zero, List.set_cons_succ]
        refine wpAny_ready (rs := [5]) (by kernel_rfl) (by simp) ?_
        refine AllReady.cons rfl (fun K hK => ?_) ?_
        · go_simp
          try (refine hK _ _ ?_)
          try clear hK K
          refine wpAny_take (i := 7) (v := ?_) rfl (by kernel_rfl) (by kernel_rfl) (by kernel_rfl) (fun _ _ _ h => h) (Or.inl ⟨by rfl, ?_⟩) ?_
          case refine_2 => (intro w; go_simp; try with_reducible rfl)
          try simp only [Act.put, List.getElem_toArray, List.getElem_cons_succ, List.getElem_cons_zero, List.setIfInBounds_toArray, List.set_cons_zero, List.set_cons_succ]
          refine wpAny_done (by kernel_rfl) ?_ _
          go_wp2_with (go_at_call 8; refine (size_c _ (by omega) (by omega) _).mono ?_; rintro e w' ⟨rfl, rfl⟩)
          go_ret
          exact ⟨rfl, by assumption⟩
        exact AllReady.nil
      exact AllReady.nil
    refine AllReady.cons rfl (fun K hK => ?_) ?_
    · go_simp
      go_wp2_with (go_at_call 9; refine (put_c (show Bys _ none 0 0 [] from ⟨rfl, Nat.le_refl _, by omega, .inl rfl⟩) (by omega) a1 hn.1 hn.2 hT1).mono ?_; rintro e w2 ⟨v2, rfl, ho2, hbv2⟩; rw [List.nil_append, HB.out] at ho2; obtain ⟨av2, c2, rfl, hb2⟩ := ho2.bys; have k2 := conv_bys (P := Tryd.prog) hb2 Tryd.underlying22 Tryd.underlying5 Tryd.underlying9; have k3 := conv_bys (P := Tryd.prog) (hb1.below hbv2) Tryd.underlying22 Tryd.underlying5 Tryd.underlying9; have hw2 : Below w.heap.size w w2 := hw1.trans (hbv2.mono hw1.size))
      try (refine hK _ _ ?_)
      try clear hK K
      refine wpAny_ready (rs := [2, 5]) (by kernel_rfl) (by simp) ?_
      refine AllReady.cons rfl (fun K hK => ?_) ?_
      · go_simp
        try (refine hK _ _ ?_)
        try clear hK K
        refine wpAny_take (i := 6) (v := ?_) rfl (by kernel_rfl) (by kernel_rfl) (by kernel_rfl) (fun _ _ _ h => h) (Or.inl ⟨by rfl, ?_⟩) ?_
        case refine_2 => (intro w; go_simp; try with_reducible rfl)
        try simp only [Act.put, List.getElem_toArray, List.getElem_cons_succ, List.getElem_cons_zero, List.setIfInBounds_toArray, List.set_cons_zero, List.set_cons_succ]
        refine wpAny_ready (rs := [5]) (by kernel_rfl) (by simp) ?_
        refine AllReady.cons rfl (fun K hK => ?_) ?_
        · go_simp
          try (refine hK _ _ ?_)
          try clear hK K
          refine wpAny_take (i := 7) (v := ?_) rfl (by kernel_rfl) (by kernel_rfl) (by kernel_rfl) (fun _ _ _ h => h) (Or.inl ⟨by rfl, ?_⟩) ?_
          case refine_2 => (intro w; go_simp; try with_reducible rfl)
          try simp only [Act.put, List.getElem_toArray, List.getElem_cons_succ, List.getElem_cons_zero, List.setIfInBounds_toArray, List.set_cons_zero, List.set_cons_succ]
          refine wpAny_done (by kernel_rfl) ?_ _
          go_wp2_with (go_at_call 8; refine (size_c _ (by omega) (by omega) _).mono ?_; rintro e w' ⟨rfl, rfl⟩)
          go_ret
          exact ⟨rfl, by assumption⟩
        exact AllReady.nil
      refine AllReady.cons rfl (fun K hK => ?_) ?_
      · go_simp
        try (refine hK _ _ ?_)
        try clear hK K
        refine wpAny_ready (rs := [2]) (by kernel_rfl) (by simp) ?_
        refine AllReady.cons rfl (fun K hK => ?_) ?_
        · go_simp
          try (refine hK _ _ ?_)
          try clear hK K
          refine wpAny_take (i := 6) (v := ?_) rfl (by kernel_rfl) (by kernel_rfl) (by kernel_rfl) (fun _ _ _ h => h) (Or.inl ⟨by rfl, ?_⟩) ?_
          case refine_2 => (intro w; go_simp; try with_reducible rfl)
          try simp only [Act.put, List.getElem_toArray, List.getElem_cons_succ, List.getElem_cons_zero, List.setIfInBounds_toArray, List.set_cons_zero, List.set_cons_succ]
          refine wpAny_take (i := 7) (v := ?_) rfl (by kernel_rfl) (by kernel_rfl) (by kernel_rfl) (fun _ _ _ h => h) (Or.inl ⟨by rfl, ?_⟩) ?_
          case refine_2 => (intro w; go_simp; try with_reducible rfl)
          try simp only [Act.put, List.getElem_toArray, List.getElem_cons_succ, List.getElem_cons_zero, List.setIfInBounds_toArray, List.set_cons_zero, List.set_cons_succ]
          refine wpAny_done (by kernel_rfl) ?_ _
          go_wp2_with (go_at_call 8; refine (size_c _ (by omega) (by omega) _).mono ?_; rintro e w' ⟨rfl, rfl⟩)
          go_ret
          exact ⟨rfl, by assumption⟩
        exact AllReady.nil
      exact AllReady.nil
    exact AllReady.nil
  exact AllReady.nil
end Go.Proofs.YtmegchcocjnbbaaDoor
