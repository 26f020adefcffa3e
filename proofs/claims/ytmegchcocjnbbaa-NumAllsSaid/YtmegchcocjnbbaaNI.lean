/-
  The reference's Ints: two slices of ints that read as the same numbers are told to be the same.
-/
import Derived.Test.YtmegchcocjnbbaaNA
import Derived.WalkSmall
namespace Go.Proofs.Ytmegchcocjnbbaa
open Go.RowKit
set_option linter.unusedVariables false

/-- A slice of ints reads as zs. -/
def Reads (w : World) (a : Option Addr) (cap : Nat) (zs : List Int) : Prop :=
  zs.length ≤ cap ∧ cap ≤ 9223372036854775807 ∧ (cap = 0 ∨ ∃ b off, a = some ⟨b, off, none⟩ ∧ ∀ i, i < zs.length → w.cell? ⟨b, off + i, none⟩ = some (.int .i64 (numAt zs i)))

theorem reads_of_owns {w : World} {B : Nat} {v : Value} {zs : List Int} (h : w.ownsRow B 3 1 v zs.length (zs.map (Value.int .i64))) :
    ∃ a cap, v = .slice a zs.length cap ∧ Reads w a cap zs := by
  obtain ⟨a, cap, rfl, h1, h2, h3⟩ := nums_of_owns h
  refine ⟨a, cap, rfl, h1, h2, ?_⟩
  rcases h3 with h3 | ⟨g, rfl, _, _, hc⟩
  · exact .inl h3
  · exact .inr ⟨g, 0, rfl, fun i hi => by rw [Nat.zero_add]; exact hc i hi⟩
theorem Reads.below {w w' : World} {a : Option Addr} {cap : Nat} {zs : List Int} (h : Reads w a cap zs) (hb : Below w.heap.size w w') : Reads w' a cap zs := by
  obtain ⟨h1, h2, h3⟩ := h
  refine ⟨h1, h2, ?_⟩
  rcases h3 with h3 | ⟨b, off, rfl, hc⟩
  · exact .inl h3
  · refine .inr ⟨b, off, rfl, fun i hi => ?_⟩
    have := hc i hi
    rw [hb.cell (World.block_lt_of_cell? w _ this)]; exact this

set_option maxHeartbeats 800000 in
theorem ints_c {w : World} {a a2 : Option Addr} {cap cap2 : Nat} {zs : List Int} (h : Reads w a cap zs) (h2 : Reads w a2 cap2 zs) :
    Calls Try.prog 15 #[.slice a zs.length cap, .slice a2 zs.length cap2] w fun e w' => e = .returned (.bool true) ∧ Below w.heap.size w w' := by
  obtain ⟨l1, m1, h1⟩ := h
  obtain ⟨l2, m2, h2⟩ := h2
  generalize zs.length = n at *
  have hlim : n ≤ 9223372036854775807 := by omega
  have hne : ((n : Int) != (n : Int)) = false := by simp
  go_enter Try.func15, Try.ntmps15
  go_wp2
  go_loopw [5] (fun i wr => ∃ k : Nat, k ≤ n ∧ i = .int .i64 k ∧ Below w.heap.size w wr) (fun i _ => n - (intOf i).toNat)
  case atStart => exact ⟨0, by omega, rfl, Below.refl _ _⟩
  case round =>
    obtain ⟨k, hk, rfl, hbel⟩ := hrel
    by_cases hlt : k < n
    · rcases h1 with h0 | ⟨b, off, rfl, hc⟩
      · omega
      rcases h2 with h0 | ⟨b2, off2, rfl, hc2⟩
      · omega
      have c1 := hc k hlt
      have c2 := hc2 k hlt
      have d1 : wr.cell? ⟨b, off + k, none⟩ = some (.int .i64 (numAt zs k)) := by rw [hbel.cell (World.block_lt_of_cell? w _ c1)]; exact c1
      have d2 : wr.cell? ⟨b2, off2 + k, none⟩ = some (.int .i64 (numAt zs k)) := by rw [hbel.cell (World.block_lt_of_cell? w _ c2)]; exact c2
      clear hc hc2 c1 c2
      have hk1 : (k : Int) < (n : Int) := by omega
      have hk0 : (0 : Int) ≤ (k : Int) := by omega
      go_wp2
      go_quiet (fail)
      go_wp2
      go_roundw
      case rel => exact ⟨k + 1, by omega, by go_num, below_drewN hbel _⟩
      case measure => simp [intOf]; omega
    · obtain rfl : k = n := by omega
      clear h1 h2
      go_wp2
      go_ret
      exact ⟨rfl, hbel⟩
end Go.Proofs.Ytmegchcocjnbbaa
