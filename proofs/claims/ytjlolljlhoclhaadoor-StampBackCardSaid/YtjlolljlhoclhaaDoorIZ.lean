/-
  THE TABLES that the stamps' rows list (math/bits' two, strconv's powers of ten): what the list gives, and a world that holds them.
-/
import Derived.Test.YtjlolljlhoclhaaDoorRows
import Derived.Test.YtjlolljlhoclhaaDoorTb
import Derived.Lib.ItoaNum
namespace Go.Proofs.YtjlolljlhoclhaaDoor
open Go.RowKit
set_option maxRecDepth 100000

theorem gPow : Tryd.prog.globalNamed "internal/strconv.uint64pow10" = some 4 := by kernel_rfl
theorem gPowType : (Tryd.prog.globals[4]?).map (·.type) = some 111 := by kernel_rfl
theorem cells20 : Tryd.prog.cellsOf 111 = 20 := by kernel_rfl
theorem cellsU64 : Tryd.prog.cellsOf 90 = 1 := by kernel_rfl

def powZ : List Int := [1, 10, 100, 1000, 10000, 100000, 1000000, 10000000, 100000000, 1000000000, 10000000000, 100000000000, 1000000000000, 10000000000000, 100000000000000, 1000000000000000, 10000000000000000, 100000000000000000, 1000000000000000000, 10000000000000000000]
theorem powZ_eq : powZ = Lib.pow10Tab := by decide +kernel

/-- What the stamps' walks read of tables. -/
structure TabI (w : World) : Prop where
  b : TabW w
  p : Lib.TabIs Tryd.prog w "internal/strconv.uint64pow10" .u64 Lib.pow10Tab
theorem TabI.grown {w w' : World} (h : TabI w) (hb : Below w.heap.size w w') : TabI w' := by
  refine ⟨h.b.below hb, ?_⟩
  have hp := h.p
  unfold Lib.TabIs World.var? at hp ⊢
  rw [gPow] at hp ⊢
  simp only [Option.bind_some] at hp ⊢
  have hlt : 4 < w.heap.size := by
    cases hx : w.heap[(4 : Nat)]? with
    | none => rw [hx] at hp; cases hp
    | some o => exact (Array.getElem?_eq_some_iff.1 hx).1
  rw [hb.block _ hlt]
  exact hp

theorem tabI_of_laid {W : World} (h1 : laidMet Tryd.prog [("math/bits.deBruijn32tab", Rows.laid_math_bits_deBruijn32tab), ("math/bits.deBruijn64tab", Rows.laid_math_bits_deBruijn64tab), ("internal/strconv.uint64pow10", Rows.laid_internal_strconv_uint64pow10)] W) : TabI W := by
  have h2 := h1.tail
  have h3 := h2.tail
  have T : Lib.TabIs Tryd.prog W "math/bits.deBruijn64tab" .u8 tab64 := Lib.tabIs_of_head (rest := [("internal/strconv.uint64pow10", Rows.laid_internal_strconv_uint64pow10)]) gTab gTabType Tryd.underlying103 Tryd.underlying5 cells5 cells48 h2
  have T2 : Lib.TabIs Tryd.prog W "internal/strconv.uint64pow10" .u64 powZ := Lib.tabIs_of_head (rest := []) gPow gPowType Tryd.underlying111 Tryd.underlying90 cellsU64 cells20 h3
  rw [powZ_eq] at T2
  exact ⟨⟨T.cell gTab 0 (by decide), T.cell gTab 1 (by decide), T.cell gTab 3 (by decide), T.cell gTab 7 (by decide)⟩, T2⟩

/-- A world for the witness. -/
noncomputable def laidWorldI (os : Os) : World :=
  { laidWorld os with
    heap := (laidWorld os).heap.modify 4 (fun o => match o with
      | .cells _ t frozen => .cells (powZ.map (Value.int .u64)).toArray t frozen
      | o => o) }
end Go.Proofs.YtjlolljlhoclhaaDoor
