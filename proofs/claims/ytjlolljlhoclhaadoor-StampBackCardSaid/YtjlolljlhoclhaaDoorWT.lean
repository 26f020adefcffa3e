/-
  Stamp: the program's letters and texts.
-/
import Derived.Test.YtjlolljlhoclhaaDoorWN
import Derived.Test.YtjlolljlhoclhaaDoorIL
import Derived.Lib.LaidTab
namespace Go.Proofs.YtjlolljlhoclhaaDoor
open Go.RowKit Go Go.Sort
set_option linter.unusedVariables false

def sletter (s : Int) : List UInt8 := if s = 1 then [97] else if s = 2 then [98] else []
set_option maxHeartbeats 800000 in
theorem letter_c (s : Int) (w : World) : Calls Tryd.prog 43 #[.int .i64 s] w (Tells (.string ⟨(sletter s).toArray⟩) w) := by
  unfold sletter
  by_cases h1 : s = 1
  · subst h1
    go_enter Tryd.func43, Tryd.ntmps43
    go_wp2
    go_ret
    exact ⟨rfl, Below.refl _ _⟩
  · rw [if_neg h1]
    have e1 : (s == 1) = false := by simpa using h1
    by_cases h2 : s = 2
    · subst h2
      go_enter Tryd.func43, Tryd.ntmps43
      go_wp2
      go_ret
      exact ⟨rfl, Below.refl _ _⟩
    · rw [if_neg h2]
      have e2 : (s == 2) = false := by simpa using h2
      clear h1 h2
      go_enter Tryd.func43, Tryd.ntmps43
      go_wp2
      go_ret
      exact ⟨rfl, Below.refl _ _⟩

theorem tells_grown_at {P : Program} {f : FuncId} {args : Array Value} {w : World} {v : Value} (h : ∀ d os, Calls P f args (grow (redrawn w d) os) (Tells v (grow (redrawn w d) os))) (d : Nat) (os : Array Obj) :
    Calls P f args (grow (redrawn w d) os) fun e w'' => e = .returned v ∧ ∃ p : Regrown, w'' = grow (redrawn w p.d) p.os :=
  Calls.regrown_of (h d os)

theorem itoa_six (w : World) : Calls Tryd.prog 42 #[.int .i64 6] w (Tells (.string ⟨#[54]⟩) w) := by
  refine (Tryd.strconv_Itoa_small 6 (by decide) w).mono ?_
  rintro e w' ⟨rfl, rfl⟩
  exact ⟨by rw [Lib.decDigits_one (by decide)]; rfl, Below.refl _ _⟩

set_option maxRecDepth 100000 in
set_option maxHeartbeats 1600000 in
theorem six_c (w : World) : Calls Tryd.prog 25 #[.agg #[.int .i64 6, .int .i64 2]] w (Tells (.string ⟨#[54, 98]⟩) w) := by
  have hp := Pair.new w 23 6 2
  have hb := alloc_below w (.cells #[.int .i64 6, .int .i64 2] 23)
  have hEQ := stamp_eqb 6 2 0 0 false rfl
  have hEG := stamp_eqg
  have HG := Lib.hid (sgood_c 6 2)
  rw [show sgood 6 2 = true by decide] at HG
  have HI := Lib.hid (fun (w : World) => tells_grown (w := w) itoa_six)
  have HL := Lib.hid (fun (w : World) => tells_grown (w := w) (letter_c 2))
  rw [show sletter 2 = [98] by decide] at HL
  have p0 := hp.c0
  have p1 := hp.c1
  have HP := Lib.hid hp
  have HB := Lib.hid hb
  clear hp hb
  go_enter Tryd.func25, Tryd.ntmps25
  go_upto_region 5 with (go_at_call 11; (with_reducible refine (HG.out _).mono ?_); rintro e w2 ⟨rfl, hb2⟩; have q0 := (HP.out.kept hb2).c0; have q1 := (HP.out.kept hb2).c1)
  have k0 := cell_regrown q0
  have k1 := cell_regrown q1
  have HB2 := Lib.hid (HB.out.trans (hb2.mono HB.out.size))
  clear q0 q1 p0 p1 hb2
  refine wp_region_quiet_below (by kernel_rfl) (by kernel_rfl) ?_
  repeat (go_big_quiet_step (first | with_reducible exact HI.out _ _ _ | with_reducible exact HL.out _ _ _))
  refine wpQuiet_nil ?_
  intro _ hw'
  obtain ⟨⟨dq, osq⟩, hw''⟩ := hw'
  subst hw''
  have hB4 := below_regrown w2 dq osq
  go_wp2
  go_ret
  exact ⟨rfl, HB2.out.trans (hB4.mono HB2.out.size)⟩

theorem stampOk : StampOk := ⟨sgood_c, sless_c, slater_c, snext_c, six_c⟩
end Go.Proofs.YtjlolljlhoclhaaDoor
