/-
  sha.Text: a digest in digits to the base 16.
-/
import Derived.Test.YticcmhgahbnboaaDoorSB
import Derived.Test.YticcmhgahbnboaaDoorAp
import Derived.Deep.RegionLaw
import Derived.Deep.QuietTactic
import Derived.BigQuiet
import Derived.BigRegion
import Derived.OwnWalk
import Derived.Deep.Cut
namespace Go.Proofs.YticcmhgahbnboaaDoor
open Go.RowKit Go
set_option linter.unusedVariables false

/-- The digits. -/
def hexL : List UInt8 := [48, 49, 50, 51, 52, 53, 54, 55, 56, 57, 97, 98, 99, 100, 101, 102]
def hexD (n : Nat) : UInt8 := hexL.getD n 0
/-- Bytes as digits. -/
def hexS (l : List UInt8) : List UInt8 := l.flatMap fun c => [hexD (c.toNat / 16), hexD (c.toNat % 16)]
theorem hexS_length (l : List UInt8) : (hexS l).length = 2 * l.length := by
  induction l with
  | nil => rfl
  | cons c l ih => simp only [hexS, List.flatMap_cons, List.length_append, List.length_cons, List.length_nil] at ih ⊢; omega
theorem hexS_take (l : List UInt8) (k : Nat) (h : k < l.length) : hexS (l.take (k + 1)) = hexS (l.take k) ++ [hexD ((l.getD k 0).toNat / 16), hexD ((l.getD k 0).toNat % 16)] := by
  rw [List.take_add_one]
  unfold hexS
  rw [List.flatMap_append, List.getD_eq_getElem?_getD, List.getElem?_eq_getElem h]
  simp
theorem index_hex (n : Nat) (h : n < 16) (W : World) : (Instr.index 9 (.string { data := #[48, 49, 50, 51, 52, 53, 54, 55, 56, 57, 97, 98, 99, 100, 101, 102] }) (.int .u8 (n : Int))).run Tryd.prog W = .ok (.int .u8 ((hexD n).toNat : Int)) W := by
  rcases (by omega : n = 0 ∨ n = 1 ∨ n = 2 ∨ n = 3 ∨ n = 4 ∨ n = 5 ∨ n = 6 ∨ n = 7 ∨ n = 8 ∨ n = 9 ∨ n = 10 ∨ n = 11 ∨ n = 12 ∨ n = 13 ∨ n = 14 ∨ n = 15) with rfl | rfl | rfl | rfl | rfl | rfl | rfl | rfl | rfl | rfl | rfl | rfl | rfl | rfl | rfl | rfl <;> kernel_rfl
theorem and15_all : ∀ n : Fin 256, bits .and .u8 ((n.val : Nat) : Int) 15 = ((n.val % 16 : Nat) : Int) := by decide +kernel
theorem and15 (c : UInt8) : bits .and .u8 (c.toNat : Int) 15 = ((c.toNat % 16 : Nat) : Int) := and15_all ⟨c.toNat, c.toNat_lt⟩

/-- append(v, b...) as one step of a region that draws. -/
theorem step_append_bys {P : Program} {w : World} {ops : Array Oper} {o : Oper} {a : Act} {K : Act → World → Prop} {Q : Exit → Act → World → Prop} {E : Prop} (hgd : o.guard = none) (s x : Operand) (t : TypeId)
    (ho : o.op = .call { callee := .builtin .append, args := #[s, x], argTypes := #[t, t] })
    {base : Nat} {e : TypeId} {i : TypeInfo} {z : Value} (ht : P.underlying t = some (.slice e)) (hi : P.info? e = some i) (hz : i.zero = some z)
    (hsize : i.size = 1) (hby : i.bytes = 1) (hzs : z.cells.size = 1) {v : Value} {k : List UInt8} (hs : a.eval s = v) (hown : OwnB w base e v k)
    {ad : Option Addr} {m c : Nat} {l : List UInt8} (hx : a.eval x = .slice ad m c) (hb : Bys w ad m c l) (h63 : k.length + m ≤ 140737488355328) (hbase : base ≤ w.heap.size)
    (h : ∀ v' w', OwnB w' base e v' (k ++ l) → w.grownBy w' v.ownBlock → K (a.put o.dst v') w') : if Region.wanted o (yielded ops a.tmps) = true then Oper.wp P o a w K Q else E := by
  have hw : Region.wanted o (yielded ops a.tmps) = true := by simp [Region.wanted, hgd]
  rw [if_pos hw]
  obtain ⟨v', w', hr, h2, h3⟩ := run_append_bys (P := P) (ty := o.type) (bytes := 1) ht hi hz hsize hby hzs hown hb h63 hbase
  unfold Oper.wp execOp
  simp only [ho, resolve, invoke, builtin, Sem.run_bind, Sem.run_pure, Result.andThen_ok, List.map_toArray, List.map_cons, List.map_nil, hs, hx, hr]
  exact h v' w' h2 h3
theorem two_bys (W : World) (x y : UInt8) : Bys (W.alloc (.cells #[.int .u8 (x.toNat : Int), .int .u8 (y.toNat : Int)] 5)) (some ⟨W.heap.size, 0, none⟩) 2 2 [x, y] := by
  have h : RowB (W.alloc (.cells #[.int .u8 (x.toNat : Int), .int .u8 (y.toNat : Int)] 5)) W.heap.size 5 [x, y] := heap_alloc_new W _
  exact h.bys (by show 2 ≤ _; decide)

/-- A text comes back. -/
def TextPost (l : List UInt8) (w : World) (e : Ending) (w' : World) : Prop := e = .returned (.string (text l)) ∧ Below w.heap.size w w'

set_option maxRecDepth 100000 in
set_option maxHeartbeats 1600000 in
theorem text_c (d : List UInt8) (hd : d.length = 32) {w : World} : Calls Tryd.prog 30 #[.agg (u8v d).toArray] w (TextPost (hexS d) w) := by
  obtain ⟨i0, hi, hz0, hz1, hz2⟩ := info_parts Tryd.info5
  have hB : (w.alloc (.cells (u8v d).toArray 46)).heap[w.heap.size]? = some (.cells (u8v d).toArray 46 (0, 0)) := heap_alloc_new w _
  have hb0 := (Below.refl w.heap.size w).alloc (Nat.le_refl _) (.cells (u8v d).toArray 46)
  have hE0 : (w.alloc (.cells (u8v d).toArray 46)).heap.size = w.heap.size + 1 := World.size_alloc _ _
  have hm : (Tryd.prog.info? 46).map (·.size) = some (u8v d).toArray.size := by
    rw [show (u8v d).toArray.size = 32 by simp [u8v, hd]]; kernel_rfl
  have HIB := Lib.hid (show ∀ k : Nat, k < 32 → ∀ W, (Instr.index 46 (.agg (u8v d).toArray) (.int .i64 (k : Int))).run Tryd.prog W = .ok (.int .u8 (by8 d k)) W by
    intro k hk W
    exact run_index_agg Tryd.underlying46 Tryd.underlying5 (i := (Tryd.prog.info? 5).getD default) (by kernel_rfl) (by kernel_rfl) _ k hk (by rw [List.getElem?_toArray]; exact u8v_get d k (by omega)))
  go_enter Tryd.func30, Tryd.ntmps30
  go_upto_region 3 with (first
    | (at_make; refine wpList_make_own _ rfl _ _ 22 rfl w.heap.size 5 i0 (.int .u8 0) 1 Tryd.underlying22 hi hz0 hz1 .i64 .i64 _ 64 rfl rfl rfl (by rw [hz2]; decide) (by decide) (by rw [hE0]; omega) ?_; intro w1 hown hgr)
    | (refine wpList_load_row rfl 46 (.tmp 1) rfl w.heap.size rfl 46 (u8v d).toArray (0, 0) _ ((hgr.block _ (by rw [hE0]; omega) (by simp)).trans hB) Tryd.underlying46 rfl hm ?_))
  have hB1 : Below w.heap.size w w1 := hb0.grown hgr (by rw [hE0]; omega) (fun k hk => by cases hk)
  have hown1 : OwnB w1 w.heap.size 5 (.slice (some ⟨w.heap.size + 1, 0, none⟩) 0 64) [] := by rw [← hE0]; exact hown
  clear hown hgr hB hb0 hE0 hm
  go_loopw [3, 8] (fun v i wr => ∃ k : Nat, k ≤ 32 ∧ i = .int .i64 k ∧ OwnB wr w.heap.size 5 v (hexS (d.take k)) ∧ Below w.heap.size w wr) (fun _ i _ => 32 - (intOf i).toNat)
  case atStart => exact ⟨0, by omega, rfl, hown1, hB1⟩
  case round =>
    clear hown1 hB1
    obtain ⟨k, hk, rfl, ho, hB⟩ := hrel
    by_cases hlt : k < 32
    · have hki : (k : Int) < 32 := by omega
      have hix := HIB.out k hlt
      obtain ⟨c, hc⟩ : ∃ c, d.getD k 0 = c := ⟨_, rfl⟩
      have hb8 : by8 d k = (c.toNat : Int) := by unfold by8; rw [hc]
      have hcl := c.toNat_lt
      have HT := Lib.hid (show hexS (d.take (k + 1)) = hexS (d.take k) ++ [hexD (c.toNat / 16), hexD (c.toNat % 16)] by rw [hexS_take d k (by omega), hc])
      have hlen : (hexS (d.take k)).length ≤ 64 := by rw [hexS_length, List.length_take]; omega
      obtain ⟨p, hp⟩ : ∃ p, hexS (d.take k) = p := ⟨_, rfl⟩
      obtain ⟨q1, hq1⟩ : ∃ q, c.toNat / 16 = q := ⟨_, rfl⟩
      obtain ⟨q2, hq2⟩ : ∃ q, c.toNat % 16 = q := ⟨_, rfl⟩
      obtain ⟨n, hn⟩ : ∃ n, c.toNat = n := ⟨_, rfl⟩
      have ha := and15 c
      rw [hp] at HT hlen ho
      rw [hb8, hn] at hix
      rw [hn] at hcl hq1 hq2 ha
      rw [hn, hq1, hq2] at HT
      rw [hq2] at ha
      have hd16 : (n : Int) / 16 = (q1 : Int) := by omega
      have hi1 := index_hex q1 (by omega)
      have hi2 := index_hex q2 (by omega)
      obtain ⟨x, hx⟩ : ∃ x, hexD q1 = x := ⟨_, rfl⟩
      obtain ⟨y, hy⟩ : ∃ y, hexD q2 = y := ⟨_, rfl⟩
      rw [hx] at hi1
      rw [hy] at hi2
      rw [hx, hy] at HT
      have HO := Lib.hid ho
      have HB := Lib.hid hB
      have HLE := Lib.hid hlen
      have HI := Lib.hid hi
      clear ho hB hb8 hn hc hp hq1 hq2 hx hy hlen hi
      go_wp2
      have hal : Below wr.heap.size wr (wr.drew.alloc (.cells #[.int .u8 (x.toNat : Int), .int .u8 (y.toNat : Int)] 5)) := ((Below.refl _ wr).drew).alloc (Nat.le_refl _) _
      have HAL := Lib.hid hal
      have HO2 := Lib.hid (HO.out.kept hal)
      have HX := Lib.hid (two_bys wr.drew x y)
      have HZ := Lib.hid (show w.heap.size ≤ (wr.drew.alloc (.cells #[.int .u8 (x.toNat : Int), .int .u8 (y.toNat : Int)] 5)).heap.size from Nat.le_trans HB.out.size hal.size)
      clear hal
      go_region_law (first
        | (refine step_append_bys rfl (.tmp 11) (.tmp 18) 22 rfl Tryd.underlying22 HI.out hz0 hz1 hz2 rfl rfl HO2.out rfl HX.out (by have := HLE.out; omega) HZ.out ?_; intro v2 w2 ho2 hg2))
      all_goals
        have HN := Lib.hid ho2
        have HG := Lib.hid hg2
        clear ho2 hg2
        go_wp2
        go_roundw
        case rel =>
          refine ⟨k + 1, by omega, rfl, by rw [HT.out]; exact HN.out, ?_⟩
          exact (HB.out.trans (HAL.out.mono HB.out.size)).grown HG.out HZ.out (fun j hj => (HO2.out.lt j hj).1)
        case measure => simp [intOf]; omega
    · obtain rfl : k = 32 := by omega
      rw [List.take_of_length_le (by omega)] at ho
      obtain ⟨av, cap, rfl, hbys⟩ := ho.bys
      have hcv := conv_bys (P := Tryd.prog) hbys Tryd.underlying22 Tryd.underlying5 Tryd.underlying9
      have HB := Lib.hid hB
      clear hB ho hbys
      go_wp2
      go_ret
      exact ⟨rfl, HB.out⟩
end Go.Proofs.YticcmhgahbnboaaDoor
