/-
  THE VARIABLES that the rows of texts list (three tables, two errors): what the list gives, and a world that holds them.
-/
import Derived.Test.YtjlolljlhoclhaaDoorIZ
import Derived.Test.YtjlolljlhoclhaaDoorWY
import Derived.Stop.LaidErr
namespace Go.Proofs.YtjlolljlhoclhaaDoor
open Go.RowKit
set_option maxRecDepth 100000

theorem gES : Tryd.prog.globalNamed "strconv.ErrSyntax" = some 2 := by kernel_rfl
theorem gER : Tryd.prog.globalNamed "strconv.ErrRange" = some 3 := by kernel_rfl
theorem gESType : (Tryd.prog.globals[2]?).map (·.type) = some 78 := by kernel_rfl
theorem gERType : (Tryd.prog.globals[3]?).map (·.type) = some 78 := by kernel_rfl
theorem cellsES : Tryd.prog.cellsOf 118 = 1 := by kernel_rfl
theorem cellsStr : Tryd.prog.cellsOf 9 = 1 := by kernel_rfl
theorem starES : "*" ++ "errors.errorString" = "*errors.errorString" := by decide
theorem rowES (u : TypeId) (h : Tryd.prog.typeName? 3 u = some "*errors.errorString") : u = 116 :=
  typeName_ptr_named (nm := "errors.errorString") (by rw [starES]; kernel_rfl) (by kernel_rfl) (by decide) u (by rw [starES]; exact h)

theorem tabE_of_laid {W : World} (h1 : laidMet Tryd.prog [("math/bits.deBruijn32tab", Rows.laid_math_bits_deBruijn32tab), ("math/bits.deBruijn64tab", Rows.laid_math_bits_deBruijn64tab), ("internal/strconv.uint64pow10", Rows.laid_internal_strconv_uint64pow10), ("strconv.ErrRange", Rows.laid_strconv_ErrRange), ("strconv.ErrSyntax", Rows.laid_strconv_ErrSyntax)] W) : TabE W := by
  have h2 := h1.tail
  have h3 := h2.tail
  have h4 := h3.tail
  have h5 := h4.tail
  have T : Lib.TabIs Tryd.prog W "math/bits.deBruijn64tab" .u8 tab64 := Lib.tabIs_of_head (rest := [("internal/strconv.uint64pow10", Rows.laid_internal_strconv_uint64pow10), ("strconv.ErrRange", Rows.laid_strconv_ErrRange), ("strconv.ErrSyntax", Rows.laid_strconv_ErrSyntax)]) gTab gTabType Tryd.underlying103 Tryd.underlying5 cells5 cells48 h2
  have T2 : Lib.TabIs Tryd.prog W "internal/strconv.uint64pow10" .u64 powZ := Lib.tabIs_of_head (rest := [("strconv.ErrRange", Rows.laid_strconv_ErrRange), ("strconv.ErrSyntax", Rows.laid_strconv_ErrSyntax)]) gPow gPowType Tryd.underlying111 Tryd.underlying90 cellsU64 cells20 h3
  rw [powZ_eq] at T2
  obtain ⟨a0, s0, hv0, -, -, -⟩ := laid_sentinel h4 gER gERType Tryd.underlying78 rowES Tryd.underlying116 Tryd.underlying118 rfl rfl Tryd.underlying9 cellsES cellsStr
  obtain ⟨a1, s1, hv1, -, -, -⟩ := laid_sentinel h5 gES gESType Tryd.underlying78 rowES Tryd.underlying116 Tryd.underlying118 rfl rfl Tryd.underlying9 cellsES cellsStr
  refine ⟨⟨⟨T.cell gTab 0 (by decide), T.cell gTab 1 (by decide), T.cell gTab 3 (by decide), T.cell gTab 7 (by decide)⟩, T2⟩, ⟨_, by have h0 := World.var?_cell gES hv1 0; simpa using h0, .inr ⟨_, _, rfl⟩⟩, ⟨_, by have h0 := World.var?_cell gER hv0 0; simpa using h0, .inr ⟨_, _, rfl⟩⟩⟩

/-- So many blocks has the settled world. -/
noncomputable def lowE : Nat := (World.holding Tryd.prog default ⟨#[], #[], []⟩).heap.size
/-- A world for the witness. -/
noncomputable def laidWorldE (os : Os) : World :=
  let w0 := World.holding Tryd.prog os ⟨#[.cells #[.string ⟨#[118, 97, 108, 117, 101, 32, 111, 117, 116, 32, 111, 102, 32, 114, 97, 110, 103, 101]⟩] 118, .cells #[.string ⟨#[105, 110, 118, 97, 108, 105, 100, 32, 115, 121, 110, 116, 97, 120]⟩] 118], #[], []⟩
  { w0 with
    heap := ((((w0.heap.modify 0 (fun o => match o with
      | .cells _ t frozen => .cells (tab32.map (Value.int .u8)).toArray t frozen
      | o => o)).modify 1 (fun o => match o with
      | .cells _ t frozen => .cells (tab64.map (Value.int .u8)).toArray t frozen
      | o => o)).modify 4 (fun o => match o with
      | .cells _ t frozen => .cells (powZ.map (Value.int .u64)).toArray t frozen
      | o => o)).modify 3 (fun o => match o with
      | .cells _ t frozen => .cells #[.iface 116 (.pointer (some ⟨lowE, 0, none⟩))] t frozen
      | o => o)).modify 2 (fun o => match o with
      | .cells _ t frozen => .cells #[.iface 116 (.pointer (some ⟨lowE + 1, 0, none⟩))] t frozen
      | o => o) }
end Go.Proofs.YtjlolljlhoclhaaDoor
