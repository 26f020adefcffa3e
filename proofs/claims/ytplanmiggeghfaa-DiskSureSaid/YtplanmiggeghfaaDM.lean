/-
  Disk: acts that came in; DiskNobody's walk.
-/
import Derived.Test.YtplanmiggeghfaaDL
import Derived.Test.YtplanmiggeghfaaDC
namespace Go.Proofs.Ytplanmiggeghfaa
open Go.RowKit Go Go.Sort Go.Maps Go.WideMaps
set_option linter.unusedVariables false
set_option maxRecDepth 20000

/-- An act that came in. -/
structure Dc where
  kd : Int
  nm : List UInt8
  v : Value
  l : List UInt8
  n : Int
  kp : Int
def Dc.zero : Dc := ⟨0, [], .slice none 0 0, [], 0, 0⟩
def Dc.arr (a : Dc) : Array Value := #[.int .i64 a.kd, .string (text a.nm), a.v, .int .i64 a.n, .int .i64 a.kp]
theorem dc_size (a : Dc) : a.arr.size = 5 := rfl
theorem dact_cells {W : World} {q : Nat} {v0 v1 v2 v3 v4 : Value} (h : W.heap[q]? = some (.cells #[v0, v1, v2, v3, v4] 32 (0, 0))) :
    W.cell? ⟨q, 0, none⟩ = some v0 ∧ W.cell? ⟨q, 1, none⟩ = some v1 ∧ W.cell? ⟨q, 2, none⟩ = some v2 ∧ W.cell? ⟨q, 3, none⟩ = some v3 ∧ W.cell? ⟨q, 4, none⟩ = some v4 := by
  refine ⟨?_, ?_, ?_, ?_, ?_⟩ <;> (rw [cell_of_row W q _ _ _ (0, 0) h]; rfl)
theorem dused_nil2 (w : World) : Calls Try.prog 56 #[.pointer none] w (fun e w' => e = .returned (.int .i64 0) ∧ w = w') := by
  go_enter Try.func56, Try.ntmps56
  go_wp2_with (go_at_call 64; (with_reducible refine (dmade_nil _).mono ?_); rintro e9 w9 ⟨rfl, rfl⟩)
  go_ret
  exact ⟨rfl, rfl⟩
theorem dnames_nil2 (w : World) : Calls Try.prog 32 #[.pointer none] w (fun e w' => e = .returned (.slice none 0 0) ∧ w = w') := by
  go_enter Try.func32, Try.ntmps32
  go_wp2_with (go_at_call 64; (with_reducible refine (dmade_nil _).mono ?_); rintro e9 w9 ⟨rfl, rfl⟩)
  go_ret
  exact ⟨rfl, rfl⟩
theorem dused_un2 {w : World} {q : Nat} (h : UnD w q) : Calls Try.prog 56 #[.pointer (some ⟨q, 0, none⟩)] w (fun e w' => e = .returned (.int .i64 0) ∧ w = w') := by
  have HU := Lib.hid h
  clear h
  go_enter Try.func56, Try.ntmps56
  go_wp2_with (go_at_call 64; (with_reducible refine (dmade_un HU.out).mono ?_); rintro e9 w9 ⟨rfl, rfl⟩)
  go_ret
  exact ⟨rfl, rfl⟩
theorem dnames_un2 {w : World} {q : Nat} (h : UnD w q) : Calls Try.prog 32 #[.pointer (some ⟨q, 0, none⟩)] w (fun e w' => e = .returned (.slice none 0 0) ∧ w = w') := by
  have HU := Lib.hid h
  clear h
  go_enter Try.func32, Try.ntmps32
  go_wp2_with (go_at_call 64; (with_reducible refine (dmade_un HU.out).mono ?_); rintro e9 w9 ⟨rfl, rfl⟩)
  go_ret
  exact ⟨rfl, rfl⟩
end Go.Proofs.Ytplanmiggeghfaa
