/-
  Disk: acts that came in; DiskNobody's walk.
-/
import Derived.Test.YtpndpmgbnnpciaaDL
import Derived.Test.YtpndpmgbnnpciaaDC
namespace Go.Proofs.Ytpndpmgbnnpciaa
open Go.RowKit Go Go.Sort Go.Maps Go.WideMaps
set_option linter.unusedVariables false
set_option maxRecDepth 20000

/-- An act that came in. -/
structure Dc where
  kd : Int
  nm : List UInt8
  v : Value
  l : List UInt8
  n : Int
  kp : Int
def Dc.zero : Dc := ⟨0, [], .slice none 0 0, [], 0, 0⟩
def Dc.arr (a : Dc) : Array Value := #[.int .i64 a.kd, .string (text a.nm), a.v, .int .i64 a.n, .int .i64 a.kp]
theorem dc_size (a : Dc) : a.arr.size = 5 := rfl
theorem dact_cells {W : World} {q : Nat} {v0 v1 v2 v3 v4 : Value} (h : W.heap[q]? = some (.cells #[v0, v1, v2, v3, v4] 32 (0, 0))) :
    W.cell? ⟨q, 0, none⟩ = some v0 ∧ W.cell? ⟨q, 1, none⟩ = some v1 ∧ W.cell? ⟨q, 2, none⟩ = some v2 ∧ W.cell? ⟨q, 3, none⟩ = some v3 ∧ W.cell? ⟨q, 4, none⟩ = some v4 := by
  refine ⟨?_, ?_, ?_, ?_, ?_⟩ <;> (rw [cell_of_row W q _ _ _ (0, 0) h]; rfl)
theorem dused_nil2 (w : World) : Calls Try.prog 32 #[.pointer none] w (fun e w' => e = .returned (.int .i64 0) ∧ w = w') := by
  go_enter Try.func32, Try.ntmps32
  go_wp2_with (go_at_call 67; (with_reducible refine (dmade_nil _).mono ?_); rintro e9 w9 ⟨rfl, rfl⟩)
  go_ret
  exact ⟨rfl, rfl⟩
theorem dnames_nil2 (w : World) : Calls Try.prog 31 #[.pointer none] w (fun e w' => e = .returned (.slice none 0 0) ∧ w = w') := by
  go_enter Try.func31, Try.ntmps31
  go_wp2_with (go_at_call 67; (with_reducible refine (dmade_nil _).mono ?_); rintro e9 w9 ⟨rfl, rfl⟩)
  go_ret
  exact ⟨rfl, rfl⟩
theorem dused_un2 {w : World} {q : Nat} (h : UnD w q) : Calls Try.prog 32 #[.pointer (some ⟨q, 0, none⟩)] w (fun e w' => e = .returned (.int .i64 0) ∧ w = w') := by
  have HU := Lib.hid h
  clear h
  go_enter Try.func32, Try.ntmps32
  go_wp2_with (go_at_call 67; (with_reducible refine (dmade_un HU.out).mono ?_); rintro e9 w9 ⟨rfl, rfl⟩)
  go_ret
  exact ⟨rfl, rfl⟩
theorem dnames_un2 {w : World} {q : Nat} (h : UnD w q) : Calls Try.prog 31 #[.pointer (some ⟨q, 0, none⟩)] w (fun e w' => e = .returned (.slice none 0 0) ∧ w = w') := by
  have HU := Lib.hid h
  clear h
  go_enter Try.func31, Try.ntmps31
  go_wp2_with (go_at_call 67; (with_reducible refine (dmade_un HU.out).mono ?_); rintro e9 w9 ⟨rfl, rfl⟩)
  go_ret
  exact ⟨rfl, rfl⟩
set_option maxRecDepth 100000 in
set_option maxHeartbeats 6400000 in
theorem dnobody_walk (w : World) (kd n kp : Int) (s : ByteArray) (x : Option Addr) (m cap : Nat) :
    Calls Try.prog 7 #[.agg #[.int .i64 kd, .string s, .slice x m cap, .int .i64 n, .int .i64 kp]] w (Tells (.bool true) w) := by
  have hb1 := ((alloc_below w (.cells #[.int .i64 kd, .string s, .slice x m cap, .int .i64 n, .int .i64 kp] 32)).alloc (by simp) (.cells #[.map none, .int .i64 0, .bool false, .int .i64 0, .int .i64 0, .pointer none] 61)).alloc (by simp; omega) (.cells #[.pointer none, .pointer (some ⟨w.heap.size + 1, 0, none⟩)] 23)
  have e0 := heapB (heapB (heap_alloc_new w (.cells #[.int .i64 kd, .string s, .slice x m cap, .int .i64 n, .int .i64 kp] 32)) (alloc_below _ (.cells #[.map none, .int .i64 0, .bool false, .int .i64 0, .int .i64 0, .pointer none] 61))) (alloc_below _ (.cells #[.pointer none, .pointer (some ⟨w.heap.size + 1, 0, none⟩)] 23))
  have e1 := heapB (heap_alloc_new (w.alloc (.cells #[.int .i64 kd, .string s, .slice x m cap, .int .i64 n, .int .i64 kp] 32)) (.cells #[.map none, .int .i64 0, .bool false, .int .i64 0, .int .i64 0, .pointer none] 61)) (alloc_below _ (.cells #[.pointer none, .pointer (some ⟨w.heap.size + 1, 0, none⟩)] 23))
  have e2 := heap_alloc_new ((w.alloc (.cells #[.int .i64 kd, .string s, .slice x m cap, .int .i64 n, .int .i64 kp] 32)).alloc (.cells #[.map none, .int .i64 0, .bool false, .int .i64 0, .int .i64 0, .pointer none] 61)) (.cells #[.pointer none, .pointer (some ⟨w.heap.size + 1, 0, none⟩)] 23)
  simp only [World.size_alloc] at e1 e2
  go_enter Try.func7, Try.ntmps7
  go_upto_region 2 with (fail)
  obtain ⟨B, hB⟩ : ∃ q, w.heap.size = q := ⟨_, rfl⟩
  rw [hB] at e0 e1 e2 hb1 ⊢
  have HBe := Lib.hid hB
  obtain ⟨W1, hW1⟩ : ∃ X, ((w.alloc (.cells #[.int .i64 kd, .string s, .slice x m cap, .int .i64 n, .int .i64 kp] 32)).alloc (.cells #[.map none, .int .i64 0, .bool false, .int .i64 0, .int .i64 0, .pointer none] 61)).alloc (.cells #[.pointer none, .pointer (some ⟨B + 1, 0, none⟩)] 23) = X := ⟨_, rfl⟩
  rw [hW1] at e0 e1 e2 hb1 ⊢
  have HB1 := Lib.hid hb1
  have HE0 := Lib.hid (fun W (h : Below W1.heap.size W1 W) => dact_cells (heapB e0 h))
  have HE1 := Lib.hid (fun W (h : Below W1.heap.size W1 W) => (show UnD W (B + 1) from heapB e1 h))
  have HE2 := Lib.hid (fun W (h : Below W1.heap.size W1 W) => heapB e2 h)
  clear e0 e1 e2 hb1 hW1 hB
  go_loopw [11] (fun j wr => ∃ i : Nat, i ≤ 2 ∧ j = .int .i64 (i : Int) ∧ Below W1.heap.size W1 wr) (fun j _ => 2 - (intOf j).toNat)
  case atStart => exact ⟨0, by omega, rfl, Below.refl _ _⟩
  case round =>
    obtain ⟨i, hi, rfl, hb⟩ := hrel
    have hs := HE2.out wr hb
    rcases (by omega : i = 0 ∨ i = 1 ∨ i = 2) with rfl | rfl | rfl
    · have p0 : wr.cell? ⟨B + 1 + 1, 0, none⟩ = some (.pointer none) := by rw [cell_of_row _ (B + 1 + 1) 0 _ _ (0, 0) hs]; rfl
      obtain ⟨-, a1, a2, a3, a4⟩ := HE0.out wr hb
      have HB := Lib.hid hb
      clear hs hb
      go_wp2_with (first
        | (go_at_call 20; (with_reducible refine (dread_nil _ _).mono ?_); rintro e2 w2 ⟨rfl, hb2⟩; have HB := Lib.hid (HB.out.trans (hb2.mono HB.out.size)); clear hb2; try clear a1 a2 a3 a4; obtain ⟨-, a1, a2, a3, a4⟩ := HE0.out w2 HB.out)
        | (go_at_call 28; (with_reducible refine (dmake_nil _ _).mono ?_); rintro e3 w3 ⟨rfl, hb3⟩; have HB := Lib.hid (HB.out.trans (hb3.mono HB.out.size)); clear hb3; try clear a1 a2 a3 a4; obtain ⟨-, a1, a2, a3, a4⟩ := HE0.out w3 HB.out)
        | (go_at_call 29; (with_reducible refine (dappend_nil _ _ _ _ _).mono ?_); rintro e4 w4 ⟨rfl, hb4⟩; have HB := Lib.hid (HB.out.trans (hb4.mono HB.out.size)); clear hb4; try clear a1 a2 a3 a4; obtain ⟨-, a1, a2, a3, a4⟩ := HE0.out w4 HB.out)
        | (go_at_call 30; (with_reducible refine (dsync_nil _ _).mono ?_); rintro e5 w5 ⟨rfl, hb5⟩; have HB := Lib.hid (HB.out.trans (hb5.mono HB.out.size)); clear hb5; try clear a1 a2 a3 a4; obtain ⟨-, a1, a2, a3, a4⟩ := HE0.out w5 HB.out)
        | (go_at_call 35; (with_reducible refine (dcut_nil _ _ _).mono ?_); rintro e6 w6 ⟨rfl, hb6⟩; have HB := Lib.hid (HB.out.trans (hb6.mono HB.out.size)); clear hb6; try clear a1 a2 a3 a4; obtain ⟨-, a1, a2, a3, a4⟩ := HE0.out w6 HB.out)
        | (go_at_call 27; (with_reducible refine (ddrop_nil _ _).mono ?_); rintro e7 w7 ⟨rfl, hb7⟩; have HB := Lib.hid (HB.out.trans (hb7.mono HB.out.size)); clear hb7; try clear a1 a2 a3 a4; obtain ⟨-, a1, a2, a3, a4⟩ := HE0.out w7 HB.out)
        | (go_at_call 39; (with_reducible refine (darm_nil  _ _ _).mono ?_); rintro e8 w8 ⟨rfl, rfl⟩)
        | (go_at_call 23; (with_reducible refine (dfail_nil _ _).mono ?_); rintro e9 w9 ⟨rfl, hb9⟩; have HB := Lib.hid (HB.out.trans (hb9.mono HB.out.size)); clear hb9; try clear a1 a2 a3 a4; obtain ⟨-, a1, a2, a3, a4⟩ := HE0.out w9 HB.out)
        | (go_at_call 25; (with_reducible refine (dpower_nil _).mono ?_); rintro e10 w10 ⟨rfl, rfl⟩)
        | (go_at_call 31; (with_reducible refine (dnames_nil2 _).mono ?_); rintro e11 w11 ⟨rfl, rfl⟩)
        | (go_at_call 32; (with_reducible refine (dused_nil2 _).mono ?_); rintro e12 w12 ⟨rfl, rfl⟩)
        | (go_at_call 33; (with_reducible refine (dops_nil _).mono ?_); rintro e13 w13 ⟨rfl, rfl⟩)
        | (go_at_call 38; (with_reducible refine (dfails_nil _).mono ?_); rintro e14 w14 ⟨rfl, rfl⟩)
        | (go_at_call 34; (with_reducible refine (don_nil _).mono ?_); rintro e15 w15 ⟨rfl, rfl⟩))
      go_roundw
      case rel => exact ⟨1, by omega, by go_num, HB.out⟩
      case measure => simp [intOf]
    · have p0 : wr.cell? ⟨B + 1 + 1, 1, none⟩ = some (.pointer (some ⟨B + 1, 0, none⟩)) := by rw [cell_of_row _ (B + 1 + 1) 1 _ _ (0, 0) hs]; rfl
      obtain ⟨-, a1, a2, a3, a4⟩ := HE0.out wr hb
      have HB := Lib.hid hb
      clear hs hb
      go_wp2_with (first
        | (go_at_call 20; (with_reducible refine (dread_un (HE1.out _ HB.out) _).mono ?_); rintro e2 w2 ⟨rfl, hb2⟩; have HB := Lib.hid (HB.out.trans (hb2.mono HB.out.size)); clear hb2; try clear a1 a2 a3 a4; obtain ⟨-, a1, a2, a3, a4⟩ := HE0.out w2 HB.out)
        | (go_at_call 28; (with_reducible refine (dmake_un (HE1.out _ HB.out) _).mono ?_); rintro e3 w3 ⟨rfl, hb3⟩; have HB := Lib.hid (HB.out.trans (hb3.mono HB.out.size)); clear hb3; try clear a1 a2 a3 a4; obtain ⟨-, a1, a2, a3, a4⟩ := HE0.out w3 HB.out)
        | (go_at_call 29; (with_reducible refine (dappend_un (HE1.out _ HB.out) _ _ _ _).mono ?_); rintro e4 w4 ⟨rfl, hb4⟩; have HB := Lib.hid (HB.out.trans (hb4.mono HB.out.size)); clear hb4; try clear a1 a2 a3 a4; obtain ⟨-, a1, a2, a3, a4⟩ := HE0.out w4 HB.out)
        | (go_at_call 30; (with_reducible refine (dsync_un (HE1.out _ HB.out) _).mono ?_); rintro e5 w5 ⟨rfl, hb5⟩; have HB := Lib.hid (HB.out.trans (hb5.mono HB.out.size)); clear hb5; try clear a1 a2 a3 a4; obtain ⟨-, a1, a2, a3, a4⟩ := HE0.out w5 HB.out)
        | (go_at_call 35; (with_reducible refine (dcut_un (HE1.out _ HB.out) _ _).mono ?_); rintro e6 w6 ⟨rfl, hb6⟩; have HB := Lib.hid (HB.out.trans (hb6.mono HB.out.size)); clear hb6; try clear a1 a2 a3 a4; obtain ⟨-, a1, a2, a3, a4⟩ := HE0.out w6 HB.out)
        | (go_at_call 27; (with_reducible refine (ddrop_un (HE1.out _ HB.out) _).mono ?_); rintro e7 w7 ⟨rfl, hb7⟩; have HB := Lib.hid (HB.out.trans (hb7.mono HB.out.size)); clear hb7; try clear a1 a2 a3 a4; obtain ⟨-, a1, a2, a3, a4⟩ := HE0.out w7 HB.out)
        | (go_at_call 39; (with_reducible refine (darm_un (HE1.out _ HB.out) _ _).mono ?_); rintro e8 w8 ⟨rfl, rfl⟩)
        | (go_at_call 23; (with_reducible refine (dfail_un (HE1.out _ HB.out) _).mono ?_); rintro e9 w9 ⟨rfl, hb9⟩; have HB := Lib.hid (HB.out.trans (hb9.mono HB.out.size)); clear hb9; try clear a1 a2 a3 a4; obtain ⟨-, a1, a2, a3, a4⟩ := HE0.out w9 HB.out)
        | (go_at_call 25; (with_reducible refine (dpower_un (HE1.out _ HB.out)).mono ?_); rintro e10 w10 ⟨rfl, rfl⟩)
        | (go_at_call 31; (with_reducible refine (dnames_un2 (HE1.out _ HB.out)).mono ?_); rintro e11 w11 ⟨rfl, rfl⟩)
        | (go_at_call 32; (with_reducible refine (dused_un2 (HE1.out _ HB.out)).mono ?_); rintro e12 w12 ⟨rfl, rfl⟩)
        | (go_at_call 33; (with_reducible refine (dops_un (HE1.out _ HB.out)).mono ?_); rintro e13 w13 ⟨rfl, rfl⟩)
        | (go_at_call 38; (with_reducible refine (dfails_un (HE1.out _ HB.out)).mono ?_); rintro e14 w14 ⟨rfl, rfl⟩)
        | (go_at_call 34; (with_reducible refine (don_un (HE1.out _ HB.out)).mono ?_); rintro e15 w15 ⟨rfl, rfl⟩))
      go_roundw
      case rel => exact ⟨2, by omega, by go_num, HB.out⟩
      case measure => simp [intOf]
    · have HB := Lib.hid (HB1.out.trans (hb.mono (by have h8 := HBe.out; have h9 := HB1.out.size; omega)))
      clear hs hb
      go_wp2_with (go_at_call 17; (with_reducible refine (dlives_c _).mono ?_); rintro e8 w8 ⟨rfl, hb8⟩)
      go_ret
      exact ⟨rfl, by rw [HBe.out]; exact HB.out.trans (hb8.mono (by have h8 := HBe.out; have h9 := HB.out.size; omega))⟩
end Go.Proofs.Ytpndpmgbnnpciaa
