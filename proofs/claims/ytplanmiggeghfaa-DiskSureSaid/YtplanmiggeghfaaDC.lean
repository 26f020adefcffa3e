/-
  Disk: the program's methods on a disk that no call made.
-/
import Derived.Test.YtplanmiggeghfaaD9
import Derived.Shelf.Abstract
namespace Go.Proofs.Ytplanmiggeghfaa
open Go.RowKit Go Go.Sort Go.Maps Go.WideMaps
set_option linter.unusedVariables false
set_option maxRecDepth 20000

theorem dmake_nil (w : World) (s : ByteArray) : Calls Try.prog 27 #[.pointer none, .string s] w (fun e w' => e = .returned (.int .i64 1) ∧ Below w.heap.size w w') := by
  have hb := second_below w (.cells #[.pointer none] 23) (.cells #[.string s] 9)
  have hv0 := heapB (heap_alloc_new w (.cells #[.pointer none] 23)) (alloc_below _ (.cells #[.string s] 9))
  have hv1 := heap_alloc_new (w.alloc (.cells #[.pointer none] 23)) (.cells #[.string s] 9)
  rw [World.size_alloc] at hv1
  have HV0 := Lib.hid hv0
  have HV1 := Lib.hid hv1
  clear hv0 hv1
  have HB := Lib.hid hb
  clear hb
  go_enter Try.func27, Try.ntmps27
  go_upto_region 1 with (fail)
  try have v0 := var_c HV0.out
  try have v1 := var_c HV1.out
  generalize (w.alloc (.cells #[.pointer none] 23)).alloc (.cells #[.string s] 9) = W1 at *
  go_wp2_with (go_at_call 61; (with_reducible refine (dready_nil _).mono ?_); rintro e9 w9 ⟨rfl, rfl⟩)
  go_ret
  first
    | exact ⟨rfl, HB.out⟩
    | exact ⟨rfl, HB.out.trans ((alloc_below _ _).mono HB.out.size)⟩
theorem dappend_nil (w : World) (s : ByteArray) (ab : Option Addr) (bl cb : Nat) : Calls Try.prog 28 #[.pointer none, .string s, .slice ab bl cb] w (fun e w' => e = .returned (.int .i64 1) ∧ Below w.heap.size w w') := by
  have hb := alloc_below w (.cells #[.slice ab bl cb] 30)
  have hv0 := heap_alloc_new w (.cells #[.slice ab bl cb] 30)
  have HV0 := Lib.hid hv0
  clear hv0
  have HB := Lib.hid hb
  clear hb
  go_enter Try.func28, Try.ntmps28
  go_upto_region 1 with (fail)
  try have v0 := var_c HV0.out
  generalize w.alloc (.cells #[.slice ab bl cb] 30) = W1 at *
  go_wp2_with (go_at_call 59; (with_reducible refine (dfind_nil _ _).mono ?_); rintro e9 w9 ⟨rfl, rfl⟩)
  go_ret
  first
    | exact ⟨rfl, HB.out⟩
    | exact ⟨rfl, HB.out.trans ((alloc_below _ _).mono HB.out.size)⟩
theorem dsync_nil (w : World) (s : ByteArray) : Calls Try.prog 29 #[.pointer none, .string s] w (fun e w' => e = .returned (.int .i64 1) ∧ Below w.heap.size w w') := by
  have hb := Below.refl w.heap.size w
  have HB := Lib.hid hb
  clear hb
  go_enter Try.func29, Try.ntmps29
  go_wp2_with (go_at_call 59; (with_reducible refine (dfind_nil _ _).mono ?_); rintro e9 w9 ⟨rfl, rfl⟩)
  go_ret
  first
    | exact ⟨rfl, HB.out⟩
    | exact ⟨rfl, HB.out.trans ((alloc_below _ _).mono HB.out.size)⟩
theorem dcut_nil (w : World) (s : ByteArray) (n : Int) : Calls Try.prog 51 #[.pointer none, .string s, .int .i64 n] w (fun e w' => e = .returned (.int .i64 1) ∧ Below w.heap.size w w') := by
  have hb := alloc_below w (.cells #[.int .i64 n] 3)
  have hv0 := heap_alloc_new w (.cells #[.int .i64 n] 3)
  have HV0 := Lib.hid hv0
  clear hv0
  have HB := Lib.hid hb
  clear hb
  go_enter Try.func51, Try.ntmps51
  go_upto_region 1 with (fail)
  try have v0 := var_c HV0.out
  generalize w.alloc (.cells #[.int .i64 n] 3) = W1 at *
  go_wp2_with (go_at_call 59; (with_reducible refine (dfind_nil _ _).mono ?_); rintro e9 w9 ⟨rfl, rfl⟩)
  go_ret
  first
    | exact ⟨rfl, HB.out⟩
    | exact ⟨rfl, HB.out.trans ((alloc_below _ _).mono HB.out.size)⟩
theorem ddrop_nil (w : World) (s : ByteArray) : Calls Try.prog 26 #[.pointer none, .string s] w (fun e w' => e = .returned (.int .i64 1) ∧ Below w.heap.size w w') := by
  have hb := second_below w (.cells #[.pointer none] 23) (.cells #[.string s] 9)
  have hv0 := heapB (heap_alloc_new w (.cells #[.pointer none] 23)) (alloc_below _ (.cells #[.string s] 9))
  have hv1 := heap_alloc_new (w.alloc (.cells #[.pointer none] 23)) (.cells #[.string s] 9)
  rw [World.size_alloc] at hv1
  have HV0 := Lib.hid hv0
  have HV1 := Lib.hid hv1
  clear hv0 hv1
  have HB := Lib.hid hb
  clear hb
  go_enter Try.func26, Try.ntmps26
  go_upto_region 1 with (fail)
  try have v0 := var_c HV0.out
  try have v1 := var_c HV1.out
  generalize (w.alloc (.cells #[.pointer none] 23)).alloc (.cells #[.string s] 9) = W1 at *
  go_wp2_with (go_at_call 59; (with_reducible refine (dfind_nil _ _).mono ?_); rintro e9 w9 ⟨rfl, rfl⟩)
  go_ret
  first
    | exact ⟨rfl, HB.out⟩
    | exact ⟨rfl, HB.out.trans ((alloc_below _ _).mono HB.out.size)⟩
theorem dread_nil (w : World) (s : ByteArray) : Calls Try.prog 19 #[.pointer none, .string s] w (fun e w' => e = .returned (.tuple #[.slice none 0 0, .int .i64 1]) ∧ Below w.heap.size w w') := by
  have hb := Below.refl w.heap.size w
  have HB := Lib.hid hb
  clear hb
  go_enter Try.func19, Try.ntmps19
  go_wp2_with (go_at_call 59; (with_reducible refine (dfind_nil _ _).mono ?_); rintro e9 w9 ⟨rfl, rfl⟩)
  go_ret2
  first
    | exact ⟨rfl, HB.out⟩
    | exact ⟨rfl, HB.out.trans ((alloc_below _ _).mono HB.out.size)⟩
theorem dfail_nil (w : World) (n : Int) : Calls Try.prog 22 #[.pointer none, .int .i64 n] w (fun e w' => e = .returned (.int .i64 1) ∧ Below w.heap.size w w') := by
  have hb := Below.refl w.heap.size w
  have HB := Lib.hid hb
  clear hb
  go_enter Try.func22, Try.ntmps22
  go_wp2_with (go_at_call 61; (with_reducible refine (dready_nil _).mono ?_); rintro e9 w9 ⟨rfl, rfl⟩)
  go_ret
  first
    | exact ⟨rfl, HB.out⟩
    | exact ⟨rfl, HB.out.trans ((alloc_below _ _).mono HB.out.size)⟩
theorem dnames_nil (w : World)  : Calls Try.prog 32 #[.pointer none] w (fun e w' => e = .returned (.slice none 0 0) ∧ Below w.heap.size w w') := by
  have hb := Below.refl w.heap.size w
  have HB := Lib.hid hb
  clear hb
  go_enter Try.func32, Try.ntmps32
  go_wp2_with (go_at_call 64; (with_reducible refine (dmade_nil _).mono ?_); rintro e9 w9 ⟨rfl, rfl⟩)
  go_ret
  first
    | exact ⟨rfl, HB.out⟩
    | exact ⟨rfl, HB.out.trans ((alloc_below _ _).mono HB.out.size)⟩
theorem dused_nil (w : World)  : Calls Try.prog 56 #[.pointer none] w (fun e w' => e = .returned (.int .i64 0) ∧ Below w.heap.size w w') := by
  have hb := Below.refl w.heap.size w
  have HB := Lib.hid hb
  clear hb
  go_enter Try.func56, Try.ntmps56
  go_wp2_with (go_at_call 64; (with_reducible refine (dmade_nil _).mono ?_); rintro e9 w9 ⟨rfl, rfl⟩)
  go_ret
  first
    | exact ⟨rfl, HB.out⟩
    | exact ⟨rfl, HB.out.trans ((alloc_below _ _).mono HB.out.size)⟩
theorem dmake_un {w : World} {q : Nat} (h : UnD w q) (s : ByteArray) : Calls Try.prog 27 #[.pointer (some ⟨q, 0, none⟩), .string s] w (fun e w' => e = .returned (.int .i64 1) ∧ Below w.heap.size w w') := by
  have hb := second_below w (.cells #[.pointer (some ⟨q, 0, none⟩)] 23) (.cells #[.string s] 9)
  have hv0 := heapB (heap_alloc_new w (.cells #[.pointer (some ⟨q, 0, none⟩)] 23)) (alloc_below _ (.cells #[.string s] 9))
  have hv1 := heap_alloc_new (w.alloc (.cells #[.pointer (some ⟨q, 0, none⟩)] 23)) (.cells #[.string s] 9)
  rw [World.size_alloc] at hv1
  have HV0 := Lib.hid hv0
  have HV1 := Lib.hid hv1
  clear hv0 hv1
  have HU := Lib.hid (show UnD ((w.alloc (.cells #[.pointer (some ⟨q, 0, none⟩)] 23)).alloc (.cells #[.string s] 9)) q from (hb.block q (Array.getElem?_eq_some_iff.1 h).1).trans h)
  clear h
  have HB := Lib.hid hb
  clear hb
  go_enter Try.func27, Try.ntmps27
  go_upto_region 1 with (fail)
  try have v0 := var_c HV0.out
  try have v1 := var_c HV1.out
  generalize (w.alloc (.cells #[.pointer (some ⟨q, 0, none⟩)] 23)).alloc (.cells #[.string s] 9) = W1 at *
  go_wp2_with (go_at_call 61; (with_reducible refine (dready_un HU.out).mono ?_); rintro e9 w9 ⟨rfl, rfl⟩)
  go_ret
  first
    | exact ⟨rfl, HB.out⟩
    | exact ⟨rfl, HB.out.trans ((alloc_below _ _).mono HB.out.size)⟩
theorem dappend_un {w : World} {q : Nat} (h : UnD w q) (s : ByteArray) (ab : Option Addr) (bl cb : Nat) : Calls Try.prog 28 #[.pointer (some ⟨q, 0, none⟩), .string s, .slice ab bl cb] w (fun e w' => e = .returned (.int .i64 1) ∧ Below w.heap.size w w') := by
  have hb := alloc_below w (.cells #[.slice ab bl cb] 30)
  have hv0 := heap_alloc_new w (.cells #[.slice ab bl cb] 30)
  have HV0 := Lib.hid hv0
  clear hv0
  have HU := Lib.hid (show UnD (w.alloc (.cells #[.slice ab bl cb] 30)) q from (hb.block q (Array.getElem?_eq_some_iff.1 h).1).trans h)
  clear h
  have HB := Lib.hid hb
  clear hb
  go_enter Try.func28, Try.ntmps28
  go_upto_region 1 with (fail)
  try have v0 := var_c HV0.out
  generalize w.alloc (.cells #[.slice ab bl cb] 30) = W1 at *
  go_wp2_with (go_at_call 59; (with_reducible refine (dfind_un HU.out _).mono ?_); rintro e9 w9 ⟨rfl, rfl⟩)
  go_ret
  first
    | exact ⟨rfl, HB.out⟩
    | exact ⟨rfl, HB.out.trans ((alloc_below _ _).mono HB.out.size)⟩
theorem dsync_un {w : World} {q : Nat} (h : UnD w q) (s : ByteArray) : Calls Try.prog 29 #[.pointer (some ⟨q, 0, none⟩), .string s] w (fun e w' => e = .returned (.int .i64 1) ∧ Below w.heap.size w w') := by
  have hb := Below.refl w.heap.size w
  have HU := Lib.hid (show UnD (w) q from (hb.block q (Array.getElem?_eq_some_iff.1 h).1).trans h)
  clear h
  have HB := Lib.hid hb
  clear hb
  go_enter Try.func29, Try.ntmps29
  go_wp2_with (go_at_call 59; (with_reducible refine (dfind_un HU.out _).mono ?_); rintro e9 w9 ⟨rfl, rfl⟩)
  go_ret
  first
    | exact ⟨rfl, HB.out⟩
    | exact ⟨rfl, HB.out.trans ((alloc_below _ _).mono HB.out.size)⟩
theorem dcut_un {w : World} {q : Nat} (h : UnD w q) (s : ByteArray) (n : Int) : Calls Try.prog 51 #[.pointer (some ⟨q, 0, none⟩), .string s, .int .i64 n] w (fun e w' => e = .returned (.int .i64 1) ∧ Below w.heap.size w w') := by
  have hb := alloc_below w (.cells #[.int .i64 n] 3)
  have hv0 := heap_alloc_new w (.cells #[.int .i64 n] 3)
  have HV0 := Lib.hid hv0
  clear hv0
  have HU := Lib.hid (show UnD (w.alloc (.cells #[.int .i64 n] 3)) q from (hb.block q (Array.getElem?_eq_some_iff.1 h).1).trans h)
  clear h
  have HB := Lib.hid hb
  clear hb
  go_enter Try.func51, Try.ntmps51
  go_upto_region 1 with (fail)
  try have v0 := var_c HV0.out
  generalize w.alloc (.cells #[.int .i64 n] 3) = W1 at *
  go_wp2_with (go_at_call 59; (with_reducible refine (dfind_un HU.out _).mono ?_); rintro e9 w9 ⟨rfl, rfl⟩)
  go_ret
  first
    | exact ⟨rfl, HB.out⟩
    | exact ⟨rfl, HB.out.trans ((alloc_below _ _).mono HB.out.size)⟩
theorem ddrop_un {w : World} {q : Nat} (h : UnD w q) (s : ByteArray) : Calls Try.prog 26 #[.pointer (some ⟨q, 0, none⟩), .string s] w (fun e w' => e = .returned (.int .i64 1) ∧ Below w.heap.size w w') := by
  have hb := second_below w (.cells #[.pointer (some ⟨q, 0, none⟩)] 23) (.cells #[.string s] 9)
  have hv0 := heapB (heap_alloc_new w (.cells #[.pointer (some ⟨q, 0, none⟩)] 23)) (alloc_below _ (.cells #[.string s] 9))
  have hv1 := heap_alloc_new (w.alloc (.cells #[.pointer (some ⟨q, 0, none⟩)] 23)) (.cells #[.string s] 9)
  rw [World.size_alloc] at hv1
  have HV0 := Lib.hid hv0
  have HV1 := Lib.hid hv1
  clear hv0 hv1
  have HU := Lib.hid (show UnD ((w.alloc (.cells #[.pointer (some ⟨q, 0, none⟩)] 23)).alloc (.cells #[.string s] 9)) q from (hb.block q (Array.getElem?_eq_some_iff.1 h).1).trans h)
  clear h
  have HB := Lib.hid hb
  clear hb
  go_enter Try.func26, Try.ntmps26
  go_upto_region 1 with (fail)
  try have v0 := var_c HV0.out
  try have v1 := var_c HV1.out
  generalize (w.alloc (.cells #[.pointer (some ⟨q, 0, none⟩)] 23)).alloc (.cells #[.string s] 9) = W1 at *
  go_wp2_with (go_at_call 59; (with_reducible refine (dfind_un HU.out _).mono ?_); rintro e9 w9 ⟨rfl, rfl⟩)
  go_ret
  first
    | exact ⟨rfl, HB.out⟩
    | exact ⟨rfl, HB.out.trans ((alloc_below _ _).mono HB.out.size)⟩
theorem dread_un {w : World} {q : Nat} (h : UnD w q) (s : ByteArray) : Calls Try.prog 19 #[.pointer (some ⟨q, 0, none⟩), .string s] w (fun e w' => e = .returned (.tuple #[.slice none 0 0, .int .i64 1]) ∧ Below w.heap.size w w') := by
  have hb := Below.refl w.heap.size w
  have HU := Lib.hid (show UnD (w) q from (hb.block q (Array.getElem?_eq_some_iff.1 h).1).trans h)
  clear h
  have HB := Lib.hid hb
  clear hb
  go_enter Try.func19, Try.ntmps19
  go_wp2_with (go_at_call 59; (with_reducible refine (dfind_un HU.out _).mono ?_); rintro e9 w9 ⟨rfl, rfl⟩)
  go_ret2
  first
    | exact ⟨rfl, HB.out⟩
    | exact ⟨rfl, HB.out.trans ((alloc_below _ _).mono HB.out.size)⟩
theorem dfail_un {w : World} {q : Nat} (h : UnD w q) (n : Int) : Calls Try.prog 22 #[.pointer (some ⟨q, 0, none⟩), .int .i64 n] w (fun e w' => e = .returned (.int .i64 1) ∧ Below w.heap.size w w') := by
  have hb := Below.refl w.heap.size w
  have HU := Lib.hid (show UnD (w) q from (hb.block q (Array.getElem?_eq_some_iff.1 h).1).trans h)
  clear h
  have HB := Lib.hid hb
  clear hb
  go_enter Try.func22, Try.ntmps22
  go_wp2_with (go_at_call 61; (with_reducible refine (dready_un HU.out).mono ?_); rintro e9 w9 ⟨rfl, rfl⟩)
  go_ret
  first
    | exact ⟨rfl, HB.out⟩
    | exact ⟨rfl, HB.out.trans ((alloc_below _ _).mono HB.out.size)⟩
theorem dnames_un {w : World} {q : Nat} (h : UnD w q)  : Calls Try.prog 32 #[.pointer (some ⟨q, 0, none⟩)] w (fun e w' => e = .returned (.slice none 0 0) ∧ Below w.heap.size w w') := by
  have hb := Below.refl w.heap.size w
  have HU := Lib.hid (show UnD (w) q from (hb.block q (Array.getElem?_eq_some_iff.1 h).1).trans h)
  clear h
  have HB := Lib.hid hb
  clear hb
  go_enter Try.func32, Try.ntmps32
  go_wp2_with (go_at_call 64; (with_reducible refine (dmade_un HU.out).mono ?_); rintro e9 w9 ⟨rfl, rfl⟩)
  go_ret
  first
    | exact ⟨rfl, HB.out⟩
    | exact ⟨rfl, HB.out.trans ((alloc_below _ _).mono HB.out.size)⟩
theorem dused_un {w : World} {q : Nat} (h : UnD w q)  : Calls Try.prog 56 #[.pointer (some ⟨q, 0, none⟩)] w (fun e w' => e = .returned (.int .i64 0) ∧ Below w.heap.size w w') := by
  have hb := Below.refl w.heap.size w
  have HU := Lib.hid (show UnD (w) q from (hb.block q (Array.getElem?_eq_some_iff.1 h).1).trans h)
  clear h
  have HB := Lib.hid hb
  clear hb
  go_enter Try.func56, Try.ntmps56
  go_wp2_with (go_at_call 64; (with_reducible refine (dmade_un HU.out).mono ?_); rintro e9 w9 ⟨rfl, rfl⟩)
  go_ret
  first
    | exact ⟨rfl, HB.out⟩
    | exact ⟨rfl, HB.out.trans ((alloc_below _ _).mono HB.out.size)⟩
end Go.Proofs.Ytplanmiggeghfaa
