/-
  A digest that came in.
-/
import Derived.Test.YticcmhgahbnboaaDoorU4
import Derived.Test.YticcmhgahbnboaaDoorSZ
import Derived.WideShapes
namespace Go.Proofs.YticcmhgahbnboaaDoor
open Go.RowKit Go
set_option linter.unusedVariables false

def byteOf (v : Option Value) : UInt8 := match v with
  | some (.int _ z) => UInt8.ofNat z.toNat
  | _ => 0
theorem open_digest {H : Type} {enc : TypeId × Value → H} {W : World} {base : Nat} {v : Value} {d : DataW H} {p : List MemPlace} (hv : Value.okWide Tryd.prog W .any base 46 v)
    (h : DataW.Trod enc Tryd.prog W 0 (fun _ => true) true 46 v d p) : ∃ dl : List UInt8, dl.length = 32 ∧ v = .agg (u8v dl).toArray := by
  have ht := Tryd.underlying46
  have hce : Tryd.prog.cellsOf 5 = 1 := by kernel_rfl
  have hct : Tryd.prog.cellsOf 46 = 32 := by kernel_rfl
  simp only [Value.okWide, ht] at hv
  obtain ⟨cs, rfl, hs, _⟩ := hv
  rw [hct] at hs
  obtain ⟨m, hm⟩ := h
  have key : ∀ i, i < 32 → ∃ z : Int, cs[i]? = some (.int .u8 z) ∧ 0 ≤ z ∧ z ≤ 255 := by
    cases m with
    | zero => simp [DataW.trod] at hm
    | succ m =>
      simp only [DataW.trod, ht, hce, hct, Nat.mul_one] at hm
      split at hm
      · obtain ⟨xs, hmm, hx⟩ := Option.map_eq_some_iff.1 hm
        intro i hi
        obtain ⟨b, hb, hf⟩ := Lib.mapM_at hmm i i (by simp [hi])
        obtain ⟨z, hc, rfl, hw⟩ := DataW.trod_int Tryd.underlying5 hf
        have hz := u8_of_wf hw
        refine ⟨z, ?_, hz.1, hz.2⟩
        have := congrArg (·[0]?) hc
        simpa [Value.cells, List.getElem?_take, List.getElem?_drop] using this
      · cases hm
  obtain ⟨dl, hdl⟩ : ∃ dl, dl = (List.range 32).map fun i => byteOf cs[i]? := ⟨_, rfl⟩
  have hl : dl.length = 32 := by rw [hdl]; simp
  refine ⟨dl, hl, ?_⟩
  congr 1
  apply Array.ext_getElem?
  intro i
  have e : (u8v dl).toArray[i]? = (u8v dl)[i]? := by simp
  rw [e]
  by_cases hi : i < 32
  · obtain ⟨z, hz, h0, h1⟩ := key i hi
    rw [u8v_get dl i (by omega), hz]
    unfold by8
    rw [List.getD_eq_getElem?_getD, hdl, List.getElem?_map, List.getElem?_range hi]
    simp only [Option.map_some, Option.getD_some, hz, byteOf]
    rw [UInt8.toNat_ofNat']
    congr 2
    omega
  · rw [Array.getElem?_eq_none (by omega), List.getElem?_eq_none (by rw [u8v_length]; omega)]
theorem text_of (S : ByteArray) : ∃ s : List UInt8, S = text s ∧ s.length = S.size := ⟨S.data.toList, rfl, Array.length_toList⟩
end Go.Proofs.YticcmhgahbnboaaDoor
