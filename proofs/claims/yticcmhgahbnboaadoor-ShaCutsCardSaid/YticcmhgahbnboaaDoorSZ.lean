/-
  SHA-256's TABLES that the rows list: what the list gives of the cells that the walks read, and a world that holds them.
-/
import Derived.Test.YticcmhgahbnboaaDoorRows
import Derived.Test.YticcmhgahbnboaaDoorSA
import Derived.Stop.LaidErr
import Derived.Lib.LaidTab
namespace Go.Proofs.YticcmhgahbnboaaDoor
open Go.RowKit
set_option maxRecDepth 100000

theorem gStart : Tryd.prog.globalNamed "gemel/sha.start" = some 0 := by kernel_rfl
theorem gStartType : (Tryd.prog.globals[0]?).map (·.type) = some 61 := by kernel_rfl
theorem gCons : Tryd.prog.globalNamed "gemel/sha.constants" = some 1 := by kernel_rfl
theorem gConsType : (Tryd.prog.globals[1]?).map (·.type) = some 78 := by kernel_rfl
theorem cellsW : Tryd.prog.cellsOf 43 = 1 := by kernel_rfl
theorem cells8w : Tryd.prog.cellsOf 61 = 8 := by kernel_rfl
theorem cells64w : Tryd.prog.cellsOf 78 = 64 := by kernel_rfl

def startZ : List Int := [1779033703, 3144134277, 1013904242, 2773480762, 1359893119, 2600822924, 528734635, 1541459225]
def consZ : List Int := [1116352408, 1899447441, 3049323471, 3921009573, 961987163, 1508970993, 2453635748, 2870763221, 3624381080, 310598401, 607225278, 1426881987, 1925078388, 2162078206, 2614888103, 3248222580, 3835390401, 4022224774, 264347078, 604807628, 770255983, 1249150122, 1555081692, 1996064986, 2554220882, 2821834349, 2952996808, 3210313671, 3336571891, 3584528711, 113926993, 338241895, 666307205, 773529912, 1294757372, 1396182291, 1695183700, 1986661051, 2177026350, 2456956037, 2730485921, 2820302411, 3259730800, 3345764771, 3516065817, 3600352804, 4094571909, 275423344, 430227734, 506948616, 659060556, 883997877, 958139571, 1322822218, 1537002063, 1747873779, 1955562222, 2024104815, 2227730452, 2361852424, 2428436474, 2756734187, 3204031479, 3329325298]
theorem startZ_eq : (startZ.map fun z => Value.int .u32 z) = u32v startS.list := by kernel_rfl
theorem consZ_eq : (consZ.map fun z => Value.int .u32 z) = u32v kS := by kernel_rfl
theorem block_of_var {P : Program} {W : World} {n : String} {g : Nat} {cs : Array Value} (hg : P.globalNamed n = some g) (h : W.var? P n = some cs) : ∃ t fr, W.heap[g]? = some (.cells cs t fr) := by
  unfold World.var? at h
  rw [hg] at h
  simp only [Option.bind_some] at h
  split at h
  · rename_i c t fr he
    cases h
    exact ⟨t, fr, he⟩
  · cases h

theorem tabS_of_laid {W : World} (h1 : laidMet Tryd.prog [("gemel/sha.start", Rows.laid_gemel_sha_start), ("gemel/sha.constants", Rows.laid_gemel_sha_constants)] W) : TabS W := by
  have h2 := h1.tail
  have T1 : Lib.TabIs Tryd.prog W "gemel/sha.start" .u32 startZ := Lib.tabIs_of_head (rest := [("gemel/sha.constants", Rows.laid_gemel_sha_constants)]) gStart gStartType Tryd.underlying61 Tryd.underlying43 cellsW cells8w h1
  have T2 : Lib.TabIs Tryd.prog W "gemel/sha.constants" .u32 consZ := Lib.tabIs_of_head (rest := []) gCons gConsType Tryd.underlying78 Tryd.underlying43 cellsW cells64w h2
  unfold Lib.TabIs at T1 T2
  rw [startZ_eq] at T1
  rw [consZ_eq] at T2
  exact ⟨block_of_var gStart T1, block_of_var gCons T2⟩

/-- A world for the witness: the settled one, the tables holding what their initialisers lay. -/
noncomputable def laidWorldS (os : Os) : World :=
  { World.holding Tryd.prog os ⟨#[], #[], []⟩ with
    heap := ((World.holding Tryd.prog os ⟨#[], #[], []⟩).heap.modify 0 (fun o => match o with
      | .cells _ t frozen => .cells (startZ.map (Value.int .u32)).toArray t frozen
      | o => o)).modify 1 (fun o => match o with
      | .cells _ t frozen => .cells (consZ.map (Value.int .u32)).toArray t frozen
      | o => o) }
end Go.Proofs.YticcmhgahbnboaaDoor
