/-
  frame.Wrap and the reference's: a body's frame, in new memory.
-/
import Derived.Test.YticcmhgahbnboaaDoorFM
import Derived.Test.YticcmhgahbnboaaDoorRP
import Derived.Test.YticcmhgahbnboaaDoorTb
namespace Go.Proofs.YticcmhgahbnboaaDoor
open Go.RowKit
set_option linter.unusedVariables false

set_option maxRecDepth 100000 in
set_option maxHeartbeats 800000 in
theorem wrap_c {w : World} {a : Option Addr} {n cap : Nat} {l : List UInt8} (hb : Bys w a n cap l) (hn : n ≤ 100000) (hT : TabW w) :
    Calls Tryd.prog 14 #[.slice a n cap] w (BytesPost (wrapS l) w) := by
  obtain ⟨i0, hi, hz0, hz1, hz2⟩ := info_parts Tryd.info5
  obtain rfl : l.length = n := hb.len
  have hd : decide ((1048576 : Int) < (l.length : Int)) = false := by simp; omega
  have hb1 : Bys (w.alloc (.cells #[.int .u8 181] 5)) (some ⟨w.heap.size, 0, none⟩) 1 1 [181] := one_bys w 5 181 181 rfl
  have hal : Below w.heap.size w (w.alloc (.cells #[.int .u8 181] 5)) := (Below.refl _ _).alloc (Nat.le_refl _) _
  have hTa := hT.below hal
  have hW := wrapS_short (l := l) (by omega)
  have hsz : w.heap.size ≤ (w.alloc (.cells #[.int .u8 181] 5)).heap.size := by simp
  obtain ⟨k, hkk, hk9⟩ : ∃ k, [181] ++ numB (l.length : Int) = k ∧ k.length ≤ 9 := ⟨_, rfl, by have := numB_length (l.length : Int); simp; omega⟩
  rw [hkk] at hW
  have HW := Lib.hid hW
  have HK := Lib.hid hkk
  have hlk : k.length + l.length ≤ 140737488355328 := by omega
  have hlf : k.length + l.length ≤ 1000000 := by omega
  clear hW hkk
  go_enter Tryd.func14, Tryd.ntmps14
  go_wp2_with (first
    | (go_at_call 35; refine (put_some hb1 (by omega) (l.length : Int) (by omega) (by omega) hTa).mono ?_; rintro e w1 ⟨v1, rfl, ho1, hbv1⟩; rw [HK.out] at ho1; have hbb := hb.below (hal.trans (hbv1.mono hsz)))
    | (at_builtin; refine wpList_append_bys rfl (.tmp 9) (.tmp 10) 22 rfl Tryd.underlying22 hi hz0 hz1 hz2 rfl rfl ho1 rfl hbb hlk hbv1.size ?_; intro v2 w2 ho2 hg2; obtain ⟨av2, c2, hv2, hb2⟩ := ho2.bys; rw [List.length_append] at hv2 hb2; subst hv2)
    | (go_at_call 34; refine (fix_c hb2 hlf).mono ?_; rintro e w3 ⟨v3, rfl, ho3, hbv3⟩))
  go_ret
  have b2 : Below w.heap.size w w2 := (hal.trans (hbv1.mono (by simp))).grown hg2 (by have := hbv1.size; simp at this; omega) (fun k hk => by have := (ho1.lt k hk).1; simp at this; omega)
  exact ⟨v3, rfl, by rw [HW.out]; exact ho3.mono b2.size, b2.trans (hbv3.mono b2.size)⟩

set_option maxRecDepth 100000 in
set_option maxHeartbeats 400000 in
theorem wrap_big {w : World} {a : Option Addr} {n cap : Nat} (hn : 1048576 < n) (h63 : n ≤ 9223372036854775807) :
    Calls Tryd.prog 14 #[.slice a n cap] w (fun e w' => e = .returned (.slice none 0 0) ∧ w = w') := by
  have hd : decide ((1048576 : Int) < (n : Int)) = true := by simp; omega
  go_enter Tryd.func14, Tryd.ntmps14
  go_wp2
  go_ret
  exact ⟨rfl, rfl⟩

set_option maxRecDepth 100000 in
set_option maxHeartbeats 800000 in
theorem rwrap_c {w : World} {a : Option Addr} {n cap : Nat} {l : List UInt8} (hb : Bys w a n cap l) (hn : n ≤ 100000) :
    Calls Tryd.prog 15 #[.slice a n cap] w (BytesPost (wrapS l) w) := by
  obtain ⟨i0, hi, hz0, hz1, hz2⟩ := info_parts Tryd.info5
  obtain rfl : l.length = n := hb.len
  have hd : decide ((1048576 : Int) < (l.length : Int)) = false := by simp; omega
  have hb1 : Bys (w.alloc (.cells #[.int .u8 181] 5)) (some ⟨w.heap.size, 0, none⟩) 1 1 [181] := one_bys w 5 181 181 rfl
  have hal : Below w.heap.size w (w.alloc (.cells #[.int .u8 181] 5)) := (Below.refl _ _).alloc (Nat.le_refl _) _
  have hW := wrapS_short (l := l) (by omega)
  have hsz : w.heap.size ≤ (w.alloc (.cells #[.int .u8 181] 5)).heap.size := by simp
  obtain ⟨k, hkk, hk9⟩ : ∃ k, [181] ++ numB (l.length : Int) = k ∧ k.length ≤ 9 := ⟨_, rfl, by have := numB_length (l.length : Int); simp; omega⟩
  rw [hkk] at hW
  have HW := Lib.hid hW
  have HK := Lib.hid hkk
  have hlk : k.length + l.length ≤ 140737488355328 := by omega
  have hlf : k.length + l.length ≤ 1000000 := by omega
  clear hW hkk
  go_enter Tryd.func15, Tryd.ntmps15
  go_wp2_with (first
    | (go_at_call 37; refine (rput_c hb1 (by omega) (l.length : Int) (by omega) (by omega)).mono ?_; rintro e w1 ⟨v1, rfl, ho1, hbv1⟩; rw [HK.out] at ho1; have hbb := hb.below (hal.trans (hbv1.mono hsz)))
    | (at_builtin; refine wpList_append_bys rfl (.tmp 9) (.tmp 10) 22 rfl Tryd.underlying22 hi hz0 hz1 hz2 rfl rfl ho1 rfl hbb hlk hbv1.size ?_; intro v2 w2 ho2 hg2; obtain ⟨av2, c2, hv2, hb2⟩ := ho2.bys; rw [List.length_append] at hv2 hb2; subst hv2)
    | (go_at_call 36; refine (rfix_c hb2 hlf).mono ?_; rintro e w3 ⟨v3, rfl, ho3, hbv3⟩))
  go_ret
  have b2 : Below w.heap.size w w2 := (hal.trans (hbv1.mono (by simp))).grown hg2 (by have := hbv1.size; simp at this; omega) (fun k hk => by have := (ho1.lt k hk).1; simp at this; omega)
  exact ⟨v3, rfl, by rw [HW.out]; exact ho3.mono b2.size, b2.trans (hbv3.mono b2.size)⟩

set_option maxRecDepth 100000 in
set_option maxHeartbeats 400000 in
theorem rwrap_big {w : World} {a : Option Addr} {n cap : Nat} (hn : 1048576 < n) (h63 : n ≤ 9223372036854775807) :
    Calls Tryd.prog 15 #[.slice a n cap] w (fun e w' => e = .returned (.slice none 0 0) ∧ w = w') := by
  have hd : decide ((1048576 : Int) < (n : Int)) = true := by simp; omega
  go_enter Tryd.func15, Tryd.ntmps15
  go_wp2
  go_ret
  exact ⟨rfl, rfl⟩
end Go.Proofs.YticcmhgahbnboaaDoor
