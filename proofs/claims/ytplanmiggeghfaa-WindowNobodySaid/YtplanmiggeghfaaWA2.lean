/-
  Window: New of both; isMade, Reset, Ack, Sent, Open, gather of the program.
-/
import Derived.Test.YtplanmiggeghfaaWA1
import Derived.Shelf.Abstract
namespace Go.Proofs.Ytplanmiggeghfaa
open Go.RowKit Go Go.Sort
set_option linter.unusedVariables false
set_option maxRecDepth 20000

theorem wimade_nil (w : World) : Calls Try.prog 72 #[.pointer none] w (fun e w' => e = .returned (.bool false) ∧ w = w') := by
  go_enter Try.func72, Try.ntmps72
  go_wp2
  go_ret
  exact ⟨rfl, rfl⟩
theorem wimade_c {w : World} {g : Nat} {q : Wn} (h : Wnd w g 79 q) (b : Bool) (hb : (q.k != 0) = b) : Calls Try.prog 72 #[.pointer (some ⟨g, 0, none⟩)] w (fun e w' => e = .returned (.bool b) ∧ w = w') := by
  obtain ⟨c0, -, -, -, -⟩ := h.cs
  obtain ⟨k, t, a, s, l⟩ := q
  simp only at c0 hb
  clear h
  cases b
  · obtain rfl : k = 0 := by simpa using hb
    go_enter Try.func72, Try.ntmps72
    go_wp2
    go_ret
    exact ⟨rfl, rfl⟩
  · go_enter Try.func72, Try.ntmps72
    go_wp2
    go_ret
    exact ⟨rfl, rfl⟩
/-- A new window. -/
def NewPost (ty : TypeId) (k t : Int) (w : World) (e : Ending) (w' : World) : Prop := ∃ g, e = .returned (.tuple #[.pointer (some ⟨g, 0, none⟩), .int .i64 0]) ∧ w.heap.size ≤ g ∧ Wnd w' g ty ⟨k, t, 0, 0, 0⟩ ∧ Below w.heap.size w w'
theorem wnew_bad (k t : Int) (w : World) (h : newOk k t = false) : Calls Try.prog 34 #[.int .i64 k, .int .i64 t] w (fun e w' => e = .returned (.tuple #[.pointer none, .int .i64 2]) ∧ w = w') := by
  unfold newOk at h
  simp only [decide_eq_false_iff_not] at h
  by_cases h1 : k < 1
  · clear h
    go_enter Try.func34, Try.ntmps34
    go_wp2
    go_ret2
    exact ⟨rfl, rfl⟩
  · by_cases h2 : 16 < k
    · clear h
      go_enter Try.func34, Try.ntmps34
      go_wp2
      go_ret2
      exact ⟨rfl, rfl⟩
    · by_cases h3 : t < 1
      · clear h
        go_enter Try.func34, Try.ntmps34
        go_wp2
        go_ret2
        exact ⟨rfl, rfl⟩
      · have h4 : 64 < t := by omega
        clear h
        go_enter Try.func34, Try.ntmps34
        go_wp2
        go_ret2
        exact ⟨rfl, rfl⟩
theorem wnew_c (k t : Int) (w : World) (h : newOk k t = true) : Calls Try.prog 34 #[.int .i64 k, .int .i64 t] w (NewPost 79 k t w) := by
  unfold newOk at h
  simp only [decide_eq_true_eq] at h
  have h1 : ¬ k < 1 := by omega
  have h2 : ¬ 16 < k := by omega
  have h3 : ¬ t < 1 := by omega
  have h4 : ¬ 64 < t := by omega
  clear h
  go_enter Try.func34, Try.ntmps34
  go_wp2
  go_ret2
  exact ⟨_, rfl, Nat.le_refl _, Wnd.new w 79 ⟨k, t, 0, 0, 0⟩, alloc_below _ _⟩
theorem rwnew_bad (k t : Int) (w : World) (h : newOk k t = false) : Calls Try.prog 35 #[.int .i64 k, .int .i64 t] w (fun e w' => e = .returned (.tuple #[.pointer none, .int .i64 2]) ∧ w = w') := by
  unfold newOk at h
  simp only [decide_eq_false_iff_not] at h
  by_cases h1 : k < 1
  · clear h
    go_enter Try.func35, Try.ntmps35
    go_wp2
    go_ret2
    exact ⟨rfl, rfl⟩
  · by_cases h2 : 16 < k
    · clear h
      go_enter Try.func35, Try.ntmps35
      go_wp2
      go_ret2
      exact ⟨rfl, rfl⟩
    · by_cases h3 : t < 1
      · clear h
        go_enter Try.func35, Try.ntmps35
        go_wp2
        go_ret2
        exact ⟨rfl, rfl⟩
      · have h4 : 64 < t := by omega
        clear h
        go_enter Try.func35, Try.ntmps35
        go_wp2
        go_ret2
        exact ⟨rfl, rfl⟩
theorem rwnew_c (k t : Int) (w : World) (h : newOk k t = true) : Calls Try.prog 35 #[.int .i64 k, .int .i64 t] w (NewPost 67 k t w) := by
  unfold newOk at h
  simp only [decide_eq_true_eq] at h
  have h1 : ¬ k < 1 := by omega
  have h2 : ¬ 16 < k := by omega
  have h3 : ¬ t < 1 := by omega
  have h4 : ¬ 64 < t := by omega
  clear h
  go_enter Try.func35, Try.ntmps35
  go_wp2
  go_ret2
  exact ⟨_, rfl, Nat.le_refl _, Wnd.new w 67 ⟨k, t, 0, 0, 0⟩, alloc_below _ _⟩
theorem wack_nil (w : World) : Calls Try.prog 41 #[.pointer none] w (fun e w' => e = .returned (.int .i64 0) ∧ w = w') := by
  go_enter Try.func41, Try.ntmps41
  go_wp2_with (go_at_call 72; (with_reducible refine (wimade_nil _).mono ?_); rintro e1 w1 ⟨rfl, rfl⟩)
  go_ret
  exact ⟨rfl, rfl⟩
theorem wack_un {w : World} {g : Nat} {q : Wn} (h : Wnd w g 79 q) (hk : (q.k != 0) = false) : Calls Try.prog 41 #[.pointer (some ⟨g, 0, none⟩)] w (fun e w' => e = .returned (.int .i64 0) ∧ w = w') := by
  have HI := Lib.hid (wimade_c h false hk)
  clear h hk
  go_enter Try.func41, Try.ntmps41
  go_wp2_with (go_at_call 72; (with_reducible refine (HI.out).mono ?_); rintro e1 w1 ⟨rfl, rfl⟩)
  go_ret
  exact ⟨rfl, rfl⟩
theorem wack_c {w : World} {g : Nat} {q : Wn} (h : Wnd w g 79 q) (hk : (q.k != 0) = true) : Calls Try.prog 41 #[.pointer (some ⟨g, 0, none⟩)] w (fun e w' => e = .returned (.int .i64 q.a) ∧ w = w') := by
  have HI := Lib.hid (wimade_c h true hk)
  obtain ⟨c0, c1, c2, c3, c4⟩ := h.cs
  clear h hk c0 c1 c4
  go_enter Try.func41, Try.ntmps41
  go_wp2_with (go_at_call 72; (with_reducible refine (HI.out).mono ?_); rintro e1 w1 ⟨rfl, rfl⟩)
  go_ret
  exact ⟨rfl, rfl⟩
theorem wsent_nil (w : World) : Calls Try.prog 42 #[.pointer none] w (fun e w' => e = .returned (.int .i64 0) ∧ w = w') := by
  go_enter Try.func42, Try.ntmps42
  go_wp2_with (go_at_call 72; (with_reducible refine (wimade_nil _).mono ?_); rintro e1 w1 ⟨rfl, rfl⟩)
  go_ret
  exact ⟨rfl, rfl⟩
theorem wsent_un {w : World} {g : Nat} {q : Wn} (h : Wnd w g 79 q) (hk : (q.k != 0) = false) : Calls Try.prog 42 #[.pointer (some ⟨g, 0, none⟩)] w (fun e w' => e = .returned (.int .i64 0) ∧ w = w') := by
  have HI := Lib.hid (wimade_c h false hk)
  clear h hk
  go_enter Try.func42, Try.ntmps42
  go_wp2_with (go_at_call 72; (with_reducible refine (HI.out).mono ?_); rintro e1 w1 ⟨rfl, rfl⟩)
  go_ret
  exact ⟨rfl, rfl⟩
theorem wsent_c {w : World} {g : Nat} {q : Wn} (h : Wnd w g 79 q) (hk : (q.k != 0) = true) : Calls Try.prog 42 #[.pointer (some ⟨g, 0, none⟩)] w (fun e w' => e = .returned (.int .i64 q.s) ∧ w = w') := by
  have HI := Lib.hid (wimade_c h true hk)
  obtain ⟨c0, c1, c2, c3, c4⟩ := h.cs
  clear h hk c0 c1 c4
  go_enter Try.func42, Try.ntmps42
  go_wp2_with (go_at_call 72; (with_reducible refine (HI.out).mono ?_); rintro e1 w1 ⟨rfl, rfl⟩)
  go_ret
  exact ⟨rfl, rfl⟩
theorem wopen_nil (w : World) : Calls Try.prog 43 #[.pointer none] w (fun e w' => e = .returned (.int .i64 0) ∧ w = w') := by
  go_enter Try.func43, Try.ntmps43
  go_wp2_with (first | (go_at_call 42; (with_reducible refine (wsent_nil _).mono ?_); rintro e1 w1 ⟨rfl, rfl⟩) | (go_at_call 41; (with_reducible refine (wack_nil _).mono ?_); rintro e2 w2 ⟨rfl, rfl⟩))
  go_ret
  exact ⟨rfl, rfl⟩
theorem wopen_un {w : World} {g : Nat} {q : Wn} (h : Wnd w g 79 q) (hk : (q.k != 0) = false) : Calls Try.prog 43 #[.pointer (some ⟨g, 0, none⟩)] w (fun e w' => e = .returned (.int .i64 0) ∧ w = w') := by
  have HS := Lib.hid (wsent_un h hk)
  have HA := Lib.hid (wack_un h hk)
  clear h hk
  go_enter Try.func43, Try.ntmps43
  go_wp2_with (first | (go_at_call 42; (with_reducible refine HS.out.mono ?_); rintro e1 w1 ⟨rfl, rfl⟩) | (go_at_call 41; (with_reducible refine HA.out.mono ?_); rintro e2 w2 ⟨rfl, rfl⟩))
  go_ret
  exact ⟨rfl, rfl⟩
theorem wopen_c {w : World} {g : Nat} {q : Wn} (h : Wnd w g 79 q) (ho : q.Ok) : Calls Try.prog 43 #[.pointer (some ⟨g, 0, none⟩)] w (fun e w' => e = .returned (.int .i64 (q.s - q.a)) ∧ w = w') := by
  have hk : (q.k != 0) = true := by have := ho.k0; simp; omega
  have HS := Lib.hid (wsent_c h hk)
  have HA := Lib.hid (wack_c h hk)
  have hw : IntKind.i64.wrap (q.s - q.a) = q.s - q.a := by
    have := ho.s0; have := ho.s1; have := ho.k1
    rw [IntKind.wrap_i64]; omega
  clear h hk ho
  go_enter Try.func43, Try.ntmps43
  go_wp2_with (first | (go_at_call 42; (with_reducible refine HS.out.mono ?_); rintro e1 w1 ⟨rfl, rfl⟩) | (go_at_call 41; (with_reducible refine HA.out.mono ?_); rintro e2 w2 ⟨rfl, rfl⟩))
  go_ret
  exact ⟨rfl, rfl⟩
theorem wreset_nil (w : World) : Calls Try.prog 37 #[.pointer none] w (fun e w' => e = .returned (.int .i64 1) ∧ w = w') := by
  go_enter Try.func37, Try.ntmps37
  go_wp2_with (go_at_call 72; (with_reducible refine (wimade_nil _).mono ?_); rintro e1 w1 ⟨rfl, rfl⟩)
  go_ret
  exact ⟨rfl, rfl⟩
theorem wreset_un {w : World} {g : Nat} {q : Wn} (h : Wnd w g 79 q) (hk : (q.k != 0) = false) : Calls Try.prog 37 #[.pointer (some ⟨g, 0, none⟩)] w (fun e w' => e = .returned (.int .i64 1) ∧ w = w') := by
  have HI := Lib.hid (wimade_c h false hk)
  clear h hk
  go_enter Try.func37, Try.ntmps37
  go_wp2_with (go_at_call 72; (with_reducible refine (HI.out).mono ?_); rintro e1 w1 ⟨rfl, rfl⟩)
  go_ret
  exact ⟨rfl, rfl⟩
theorem wreset_c {w : World} {g : Nat} {q : Wn} (h : Wnd w g 79 q) (hk : (q.k != 0) = true) : Calls Try.prog 37 #[.pointer (some ⟨g, 0, none⟩)] w (fun e w' => e = .returned (.int .i64 0) ∧ Wnd w' g 79 q.back ∧ But g w w') := by
  have HI := Lib.hid (wimade_c h true hk)
  obtain ⟨c0, c1, c2, c3, c4⟩ := h.cs
  have z3 := h.fz 3
  have HW := Lib.hid h
  clear h hk c0 c1 c4
  go_enter Try.func37, Try.ntmps37
  go_wp2_with (go_at_call 72; (with_reducible refine (HI.out).mono ?_); rintro e1 w1 ⟨rfl, rfl⟩)
  go_ret
  exact ⟨rfl, HW.out.set3 q.a, (But.of (Below.refl _ _)).set 3 _⟩
/-- gather's end, as a value. -/
def endV (hi : Int) : Value := .func (.func 74) #[.int .i64 hi] #[]
theorem wpassed_c (hi n : Int) (w : World) : Calls Try.prog 74 #[.int .i64 hi, .int .i64 n] w (fun e w' => e = .returned (.bool (decide (hi < n))) ∧ w = w') := by
  go_enter Try.func74, Try.ntmps74
  go_wp2
  go_ret
  exact ⟨rfl, rfl⟩
def GatherPost (first : Int) (n : Nat) (w : World) (e : Ending) (w' : World) : Prop := ∃ v, e = .returned v ∧ Below w.heap.size w w' ∧ OwnN w' w.heap.size v (ups first n)
set_option maxHeartbeats 3200000 in
theorem wgather_c (first hi : Int) (n : Nat) (w : World) (hn : (hi - first + 1).toNat = n) (h0 : 0 ≤ first) (h1 : first ≤ 4611686018427387904) (h2 : n ≤ 1000) :
    Calls Try.prog 73 #[.int .i64 first, endV hi] w (GatherPost first n w) := by
  unfold endV
  go_enter Try.func73, Try.ntmps73
  go_wp2
  go_step3
  go_wp2
  go_step3
  go_wp2
  go_loopw [5, 6] (fun v i wr => ∃ j : Nat, j ≤ n ∧ i = .int .i64 (first + (j : Int)) ∧ OwnN wr w.heap.size v (ups first j) ∧ Below w.heap.size w wr) (fun _ i _ => n - (intOf i - first).toNat)
  case atStart => exact ⟨0, by omega, by simp, OwnN.nil _ _, Below.refl _ _⟩
  case round =>
    obtain ⟨j, hj, rfl, hv, hb⟩ := hrel
    have HV := Lib.hid hv
    have HB := Lib.hid hb
    clear hv hb
    obtain ⟨i, hi9⟩ : ∃ i, first + (j : Int) = i := ⟨_, rfl⟩
    have HI := Lib.hid hi9
    have HJ := Lib.hid (show j ≤ 1000 from by omega)
    by_cases hlt : j < n
    · have hnp : ¬ hi < first + (j : Int) := by omega
      rw [hi9] at hnp ⊢
      have hw : IntKind.i64.wrap (i + 1) = i + 1 := by rw [IntKind.wrap_i64]; omega
      have HU := Lib.hid (ups_length first j)
      clear hi9
      go_wp2_with (first
        | (go_at_call 74; (with_reducible refine (wpassed_c _ _ _).mono ?_); rintro e1 w1 ⟨rfl, rfl⟩)
        | (refine wpList_append_int rfl _ _ rfl rfl HV.out rfl (by rw [HU.out]; have := HJ.out; omega) HB.out.size ?_; intro v7 w7 ho7 hg7; have HO7 := Lib.hid ho7; have HG7 := Lib.hid hg7; clear ho7 hg7))
      go_roundw
      case rel => exact ⟨j + 1, by omega, by rw [← HI.out]; congr 1; omega, by rw [ups_succ, HI.out]; exact HO7.out, (HB.out.alloc HB.out.size _).grown HG7.out (by have := HB.out.size; simp; omega) (fun k hk => (HV.out.lt k hk).1)⟩
      case measure => simp [intOf]; have := HI.out; omega
    · have hp : hi < first + (j : Int) := by omega
      obtain rfl : j = n := by omega
      rw [hi9] at hp ⊢
      clear hi9
      go_wp2_with (go_at_call 74; (with_reducible refine (wpassed_c _ _ _).mono ?_); rintro e1 w1 ⟨rfl, rfl⟩)
      go_ret
      exact ⟨_, rfl, HB.out, HV.out⟩
end Go.Proofs.Ytplanmiggeghfaa
