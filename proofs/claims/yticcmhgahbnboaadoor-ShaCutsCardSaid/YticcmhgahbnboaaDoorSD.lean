/-
  (*sha.State).Add.
-/
import Derived.Test.YticcmhgahbnboaaDoorSX
import Derived.Test.YticcmhgahbnboaaDoorSE
import Derived.Test.YticcmhgahbnboaaDoorSS
import Derived.Test.YticcmhgahbnboaaDoorSP
import Derived.Test.YticcmhgahbnboaaDoorPM
import Derived.Deep.QuietTactic
import Derived.BigQuiet
import Derived.BigRegion
import Derived.Deep.RegionHeld3
import Derived.Deep.MidRow
import Derived.Outline
namespace Go.Proofs.YticcmhgahbnboaaDoor
open Go.RowKit Go
set_option linter.unusedVariables false

theorem gb_below {w w' : World} (g : Nat) (h : Below w.heap.size w w') : w.grownBy w' (some g) := ⟨h.os, h.tape, h.output, h.size, fun i hi _ => h.block i hi⟩
theorem gb_setRow (w : World) (g : Nat) (cs : Array Value) : w.grownBy (w.setRow g cs) (some g) :=
  ⟨rfl, rfl, rfl, by simp [World.setRow], fun i hi hne => setRow_other w g i cs (by intro h; subst h; exact hne rfl)⟩
theorem gb_setCell (w : World) (g i : Nat) (v : Value) : w.grownBy (w.setCell ⟨g, i, none⟩ v) (some g) :=
  ⟨rfl, rfl, rfl, by simp [World.setCell], fun k hk hne => heap_setCell_other w ⟨g, i, none⟩ k v (by intro h; exact hne (by rw [h]))⟩
theorem TabS.grown {w w' : World} {g : Nat} {r : Rd} {wt : List UInt8} {n : Nat} (h : TabS w) (hs : St w g r wt n) (hg : w.grownBy w' (some g)) : TabS w' := by
  obtain ⟨⟨t1, f1, h1⟩, t2, f2, h2⟩ := h
  refine ⟨⟨t1, f1, ?_⟩, t2, f2, ?_⟩
  · refine (hg.block _ (Array.getElem?_eq_some_iff.1 h1).1 ?_).trans h1
    intro e
    cases e
    have := h1.symm.trans hs.row
    injection this with this
    injection this with h3 _ _
    have h4 := congrArg (fun (x : Array Value) => x[0]?) h3
    simp [stv, u32v, startS, Rd.list] at h4
  · refine (hg.block _ (Array.getElem?_eq_some_iff.1 h2).1 ?_).trans h2
    intro e
    cases e
    have := h2.symm.trans hs.row
    injection this with this
    injection this with h3 _ _
    have h4 := congrArg (fun (x : Array Value) => x[0]?) h3
    simp [stv, u32v, kS] at h4
/-- Bytes of another block stay. -/
theorem Bys.grown {w w' : World} {g : Nat} {a : Option Addr} {n cap : Nat} {l : List UInt8} (h : Bys w a n cap l) (hsep : 0 < n → ∀ b off, a = some ⟨b, off, none⟩ → b ≠ g) (hg : w.grownBy w' (some g)) : Bys w' a n cap l := by
  obtain ⟨h1, h2, h3, h4⟩ := h
  refine ⟨h1, h2, h3, ?_⟩
  rcases h4 with h4 | ⟨b, off, rfl, hc⟩
  · exact .inl h4
  · refine .inr ⟨b, off, rfl, fun i hi => ?_⟩
    have h5 := hc i hi
    have hne := hsep (by omega) b off rfl
    have hlt : b < w.heap.size := by
      by_cases hb : b < w.heap.size
      · exact hb
      · unfold World.cell? at h5
        rw [show w.heap[b]? = none from Array.getElem?_eq_none (Nat.not_lt.1 hb)] at h5
        cases h5
    unfold World.cell? at h5 ⊢
    rw [show w'.heap[b]? = w.heap[b]? from hg.block b hlt (by simpa using hne)]
    exact h5

theorem stv_lay (r : Rd) (wt : List UInt8) (n q : Nat) (x : List UInt8) (hw : wt.length = 64) (h : q + x.length ≤ 64) :
    (stv r wt n).take (9 + q) ++ u8v x ++ (stv r wt n).drop (9 + q + (u8v x).length) = stv r (layW wt q x) n := by
  have h1 : (stv r wt n).take (9 + q) = .bool true :: (u32v r.list ++ (u8v (wt.take q))) := by
    unfold stv
    rw [show 9 + q = (8 + q) + 1 by omega, List.take_succ_cons, List.take_append, r8, List.take_of_length_le (by rw [r8]; omega), Nat.add_sub_cancel_left, List.take_append_of_le_length (by rw [u8v_length]; omega)]
    simp [u8v]
  have h2 : (stv r wt n).drop (9 + q + (u8v x).length) = u8v (wt.drop (q + x.length)) ++ [.int .i64 (n : Int)] := by
    unfold stv
    rw [u8v_length, show 9 + q + x.length = (8 + (q + x.length)) + 1 by omega, List.drop_succ_cons, List.drop_append, r8, List.drop_eq_nil_of_le (by rw [r8]; omega), Nat.add_sub_cancel_left, List.nil_append, List.drop_append_of_le_length (by rw [u8v_length]; omega)]
    simp [u8v]
  rw [h1, h2]
  unfold stv layW
  rw [u8v_append, u8v_append]
  simp

/-- A copy into the middle of a row. -/
theorem step_copy_mid {P : Program} {ops : Array Oper} {o : Oper} {a : Act} {w : World} {K : Act → World → Prop} {Q : Exit → Act → World → Prop} {E : Prop} (hgd : o.guard = none) (d s : Operand) (dT sT : TypeId)
    (ho : o.op = .call { callee := .builtin .copy, args := #[d, s], argTypes := #[dT, sT] }) (elem : TypeId) (hu : P.underlying dT = some (.slice elem)) (hsz : (P.info? elem).map (·.size) = some 1)
    (g off dLen dCap : Nat) (ad : Addr) (sLen sCap : Nat) (hd : a.eval d = .slice (some ⟨g, off, none⟩) dLen dCap) (hs : a.eval s = .slice (some ad) sLen sCap)
    (cur new : List Value) (t : TypeId) (hg : w.heap[g]? = some (.cells cur.toArray t (0, 0))) (cs : List Value) (hn : cs.length = Nat.min sLen dLen)
    (hsrc : ∀ j v, cs[j]? = some v → w.cell? (ad.add j) = some v)
    (hfit : off + cs.length ≤ cur.length) (h1 : ∀ v ∈ cs, v.oneCell' = true) (hnew : cur.take off ++ cs ++ cur.drop (off + cs.length) = new) (k : Nat) (hk : cs.length = k)
    (h : K (a.put o.dst (.int .i64 (k : Int))) (w.setRow g new.toArray)) :
    if Region.wanted o (yielded ops a.tmps) = true then Oper.wp P o a w K Q else E := by
  have hw : Region.wanted o (yielded ops a.tmps) = true := by simp [Region.wanted, hgd]
  rw [if_pos hw]
  have hrun := run_copy_row (P := P) w dT sT o.type elem g off dLen dCap ad sLen sCap cur.toArray t cs hu hsz hg hn hsrc (by simpa using hfit) h1
  rw [List.toList_toArray, hnew] at hrun
  subst hk
  unfold Oper.wp
  simp [execOp, ho, resolve, invoke, builtin, hd, hs, hrun, Result.andThen]
  exact h

theorem slice64 (g q : Nat) (hq : q < 64) (W : World) : (Instr.sliceAt 62 (.pointer (some ⟨g, 9, none⟩)) (some (.int .i64 (q : Int))) none none).run Tryd.prog W = .ok (.slice (some ⟨g, 9 + q, none⟩) (64 - q) (64 - q)) W := by
  have hl : Tryd.prog.arrayLen 62 = 64 := by kernel_rfl
  have he : Tryd.prog.elem 62 = 5 := by kernel_rfl
  obtain ⟨i0, hi, hz0, hz1, hz2⟩ := info_parts Tryd.info5
  rw [run_sliceAt_array_l W 62 ⟨g, 9, none⟩ (by kernel_rfl) .i64 (q : Int) (by omega) (by rw [hl]; omega), he, hl]
  have hsz : (sizeOf 5).run Tryd.prog W = .ok 1 W := by simp [sizeOf, typeInfo, hi, hz1, go_sem]
  rw [hsz]
  simp only [Result.andThen_ok, slicedAt, Int.toNat_natCast, Nat.mul_one, addr_add]
  rw [if_neg (by omega)]

theorem St.there {W : World} {g : Nat} {r : Rd} {wt : List UInt8} {n : Nat} (h : St W g r wt n) : W.there g 1 8 := fun j hj => by
  refine ⟨?_, h.frozen _⟩
  have := h.words j _ (by rw [u32v_get r.list j (by show j < 8; exact hj)])
  rw [this]; rfl
theorem St.setCells {W : World} {g : Nat} {r : Rd} {wt : List UInt8} {n : Nat} (h : St W g r wt n) (r' : Rd) : W.setCells g 1 (u32v r'.list) = W.setRow g (stv r' wt n).toArray := by
  have h1 := h.setWords r'
  have h2 := run_storeCells_cells (P := Tryd.prog) g 1 (u32v r'.list) 0 W (fun j hj => by rw [r8] at hj; exact (h.there j hj).1) (fun j hj => by rw [r8] at hj; exact (h.there j hj).2) (fun v hv => (Array.all_eq_true_iff_forall_mem.1 (u32v_one r'.list)) v (by simpa using hv))
  rw [Nat.add_zero] at h2
  exact (Result.ok.inj (h1.symm.trans h2)).2.symm
theorem St.all {W : World} {g : Nat} {r : Rd} {wt : List UInt8} {n : Nat} (h : St W g r wt n) : W.rangeAt g 1 (u32v r.list) ∧ W.rangeAt g 9 (u8v wt) ∧ W.there g 1 8 := ⟨h.words, h.bytes, h.there⟩
theorem size_st8 (r : Rd) : (Tryd.prog.info? 61).map (·.size) = some (u32v r.list).length := Tryd.size8w
theorem size_st64 (wt : List UInt8) (h : wt.length = 64) : (Tryd.prog.info? 62).map (·.size) = some (u8v wt).length := by rw [u8v_length, h]; kernel_rfl

theorem St.eight {W : World} {g : Nat} {r : Rd} {wt : List UInt8} {n : Nat} (h : St W g r wt n) : W.cell? ⟨g, 1, none⟩ = some (.int .u32 (I r.a)) ∧ W.cell? ⟨g, 2, none⟩ = some (.int .u32 (I r.b)) ∧ W.cell? ⟨g, 3, none⟩ = some (.int .u32 (I r.c)) ∧ W.cell? ⟨g, 4, none⟩ = some (.int .u32 (I r.d)) ∧ W.cell? ⟨g, 5, none⟩ = some (.int .u32 (I r.e)) ∧ W.cell? ⟨g, 6, none⟩ = some (.int .u32 (I r.f)) ∧ W.cell? ⟨g, 7, none⟩ = some (.int .u32 (I r.g)) ∧ W.cell? ⟨g, 8, none⟩ = some (.int .u32 (I r.h)) ∧ W.rangeAt g 9 (u8v wt) ∧ W.frozen? ⟨g, 1, none⟩ = false ∧ W.frozen? ⟨g, 2, none⟩ = false ∧ W.frozen? ⟨g, 3, none⟩ = false ∧ W.frozen? ⟨g, 4, none⟩ = false ∧ W.frozen? ⟨g, 5, none⟩ = false ∧ W.frozen? ⟨g, 6, none⟩ = false ∧ W.frozen? ⟨g, 7, none⟩ = false ∧ W.frozen? ⟨g, 8, none⟩ = false := by
  have c : ∀ j (x : W32), (u32v r.list)[j]? = some (.int .u32 (I x)) → W.cell? ⟨g, 1 + j, none⟩ = some (.int .u32 (I x)) := fun j x hx => h.words j _ hx
  exact ⟨c 0 _ rfl, c 1 _ rfl, c 2 _ rfl, c 3 _ rfl, c 4 _ rfl, c 5 _ rfl, c 6 _ rfl, c 7 _ rfl, h.bytes, h.frozen _, h.frozen _, h.frozen _, h.frozen _, h.frozen _, h.frozen _, h.frozen _, h.frozen _⟩
theorem St.stored {W : World} {g : Nat} {r : Rd} {wt : List UInt8} {n : Nat} (h : St W g r wt n) (r' : Rd) : St ((((((((W.setCell ⟨g, 1, none⟩ (.int .u32 (I r'.a))).setCell ⟨g, 2, none⟩ (.int .u32 (I r'.b))).setCell ⟨g, 3, none⟩ (.int .u32 (I r'.c))).setCell ⟨g, 4, none⟩ (.int .u32 (I r'.d))).setCell ⟨g, 5, none⟩ (.int .u32 (I r'.e))).setCell ⟨g, 6, none⟩ (.int .u32 (I r'.f))).setCell ⟨g, 7, none⟩ (.int .u32 (I r'.g))).setCell ⟨g, 8, none⟩ (.int .u32 (I r'.h))) g r' wt n := by
  have e : ((((((((W.setCell ⟨g, 1, none⟩ (.int .u32 (I r'.a))).setCell ⟨g, 2, none⟩ (.int .u32 (I r'.b))).setCell ⟨g, 3, none⟩ (.int .u32 (I r'.c))).setCell ⟨g, 4, none⟩ (.int .u32 (I r'.d))).setCell ⟨g, 5, none⟩ (.int .u32 (I r'.e))).setCell ⟨g, 6, none⟩ (.int .u32 (I r'.f))).setCell ⟨g, 7, none⟩ (.int .u32 (I r'.g))).setCell ⟨g, 8, none⟩ (.int .u32 (I r'.h))) = W.setCells g 1 (u32v r'.list) := rfl
  rw [e, h.setCells]
  exact h.row' r'

theorem slice_rest (b off k' cap' t : Nat) (h1 : t ≤ k') (W : World) :
    (Instr.slice 22 (.slice (some ⟨b, off, none⟩) k' cap') (some (.int .i64 (t : Int))) none none).run Tryd.prog W = .ok (.slice (some (if cap' = t then ⟨b, off, none⟩ else ⟨b, off + t, none⟩)) (k' - t) (cap' - t)) W := by
  obtain ⟨i0, hi, hz0, hz1, hz2⟩ := info_parts Tryd.info5
  have he : Tryd.prog.elem 22 = 5 := by kernel_rfl
  rw [run_slice_l W 22 (some ⟨b, off, none⟩) k' cap' (by kernel_rfl) .i64 (t : Int) (by omega) (by omega), he]
  have hsz : (sizeOf 5).run Tryd.prog W = .ok 1 W := by simp [sizeOf, typeInfo, hi, hz1, go_sem]
  rw [hsz]
  simp only [Result.andThen_ok, sliced, Int.toNat_natCast, Nat.mul_one, Option.map_some, addr_add]
  by_cases h : cap' = t
  · rw [if_pos h, if_pos h]
  · rw [if_neg h, if_neg h]
theorem slice_rest' (b off k' cap' t : Nat) (h1 : t ≤ k') (W : World) :
    (Instr.sliceAt 22 (.slice (some ⟨b, off, none⟩) k' cap') (some (.int .i64 (t : Int))) none none).run Tryd.prog W = .ok (.slice (some (if cap' = t then ⟨b, off, none⟩ else ⟨b, off + t, none⟩)) (k' - t) (cap' - t)) W := by
  rw [run_sliceAt_slice _ _ _ _ _ _ (by kernel_rfl)]
  exact slice_rest b off k' cap' t h1 W

theorem St.storedGrown {W : World} {g : Nat} {r : Rd} {wt : List UInt8} {n : Nat} (h : St W g r wt n) (r' : Rd) : W.grownBy ((((((((W.setCell ⟨g, 1, none⟩ (.int .u32 (I r'.a))).setCell ⟨g, 2, none⟩ (.int .u32 (I r'.b))).setCell ⟨g, 3, none⟩ (.int .u32 (I r'.c))).setCell ⟨g, 4, none⟩ (.int .u32 (I r'.d))).setCell ⟨g, 5, none⟩ (.int .u32 (I r'.e))).setCell ⟨g, 6, none⟩ (.int .u32 (I r'.f))).setCell ⟨g, 7, none⟩ (.int .u32 (I r'.g))).setCell ⟨g, 8, none⟩ (.int .u32 (I r'.h))) (some g) := by
  have e : ((((((((W.setCell ⟨g, 1, none⟩ (.int .u32 (I r'.a))).setCell ⟨g, 2, none⟩ (.int .u32 (I r'.b))).setCell ⟨g, 3, none⟩ (.int .u32 (I r'.c))).setCell ⟨g, 4, none⟩ (.int .u32 (I r'.d))).setCell ⟨g, 5, none⟩ (.int .u32 (I r'.e))).setCell ⟨g, 6, none⟩ (.int .u32 (I r'.f))).setCell ⟨g, 7, none⟩ (.int .u32 (I r'.g))).setCell ⟨g, 8, none⟩ (.int .u32 (I r'.h))) = W.setCells g 1 (u32v r'.list) := rfl
  rw [e, h.setCells]
  exact gb_setRow W g _

/-- A value comes back; what was there stays. -/
def ValPost (v : Value) (w : World) (e : Ending) (w' : World) : Prop := e = .returned v ∧ Below w.heap.size w w'

/-- How many elements a slice has. -/
def slen : Value → Nat
  | .slice _ n _ => n
  | _ => 0
/-- What Add leaves. -/
def AddOk (g : Nat) (l : List UInt8) (w w' : World) : Prop := (∃ r wt, St w' g r wt l.length ∧ Came r wt l) ∧ w.grownBy w' (some g)
def AddPost (g : Nat) (l : List UInt8) (w : World) (e : Ending) (w' : World) : Prop := e = .returned (.int .i64 0) ∧ AddOk g l w w'

attribute [-go_sem] loadCells
set_option maxRecDepth 100000 in
set_option maxHeartbeats 3200000 in
theorem add_c {w : World} {g : Nat} {r : Rd} {wt l m : List UInt8} {a : Option Addr} {k cap : Nat} (hT : TabS w) (hS : St w g r wt l.length) (hC : Came r wt l) (hb : Bys w a k cap m) (hsep : 0 < k → ∀ b off, a = some ⟨b, off, none⟩ → b ≠ g)
    (hlim : l.length + k ≤ 1000000) : Calls Tryd.prog 27 #[.pointer (some ⟨g, 0, none⟩), .slice a k cap] w (AddPost g (l ++ m) w) := by
  obtain ⟨i0, hi, hz0, hz1, hz2⟩ := info_parts Tryd.info5
  have hsz : (Tryd.prog.info? 5).map (·.size) = some 1 := by rw [hi]; simp [hz1]
  have HSZ := Lib.hid hsz
  obtain ⟨L, hL⟩ : ∃ L, l ++ m = L := ⟨_, rfl⟩
  have hml := hb.len
  rw [hL]
  have hst : AddOk g l w w := ⟨⟨r, wt, hS, hC⟩, World.grownBy.refl _ _⟩
  have hlen : L.length = l.length + k := by rw [← hL, List.length_append, hml]
  have hgd := good_c hS
  clear hi hz0 hz1 hz2 hsz
  go_enter Tryd.func27, Tryd.ntmps27
  go_wp2_with (go_at_call 44; refine hgd.mono ?_; rintro e w' ⟨rfl, rfl⟩)
  clear hgd
  have hS0 := Lib.hid hS
  go_loopw [1] (fun v wr => ∃ a' k' cap' l' m', v = .slice a' k' cap' ∧ Bys wr a' k' cap' m' ∧ (0 < k' → ∀ b off, a' = some ⟨b, off, none⟩ → b ≠ g) ∧ l' ++ m' = L ∧ AddOk g l' w wr) (fun v _ => slen v)
  case atStart => exact ⟨a, k, cap, l, m, rfl, hb, hsep, hL, hst⟩
  case round =>
    clear hst hS hC hb hsep hL hml
    obtain ⟨a', k', cap', l', m', rfl, hb, hsep, hL, ⟨r, wt, hS, hC⟩, hgr⟩ := hrel
    have hml := hb.len
    have hle : l'.length + k' = L.length := by rw [← hL, List.length_append, hml]
    by_cases hk0 : k' = 0
    · subst hk0
      obtain rfl : m' = [] := List.eq_nil_of_length_eq_zero hml
      rw [List.append_nil] at hL
      subst hL
      have HS := Lib.hid hS
      have HC := Lib.hid hC
      have HG := Lib.hid hgr
      clear hS hC hgr
      go_wp2
      go_ret
      exact ⟨rfl, ⟨_, _, HS.out, HC.out⟩, HG.out⟩
    · have hkp : 0 < k' := by omega
      obtain ⟨b, off, rfl, hcell⟩ : ∃ b off, a' = some ⟨b, off, none⟩ ∧ ∀ i, i < k' → wr.cell? ⟨b, off + i, none⟩ = some (.int .u8 (by8 m' i)) := by
        rcases hb.adr with h0 | ⟨b, off, rfl, hc⟩
        · have := hb.le; omega
        · exact ⟨b, off, rfl, hc⟩
      have hsb := hsep hkp b off rfl
      have hwl := hS.len
      obtain ⟨n, hn⟩ : ∃ n, l'.length = n := ⟨_, rfl⟩
      obtain ⟨q, hq⟩ : ∃ q, n % 64 = q := ⟨_, rfl⟩
      obtain ⟨t, ht⟩ : ∃ t, Nat.min k' (64 - q) = t := ⟨_, rfl⟩
      have htk : t ≤ k' ∧ q + t ≤ 64 ∧ 0 < t := by
        have h1 : t ≤ k' := by rw [← ht]; exact Nat.min_le_left _ _
        have h2 : t ≤ 64 - q := by rw [← ht]; exact Nat.min_le_right _ _
        have h3 : 0 < t := by rw [← ht]; exact Nat.lt_min.2 ⟨hkp, by omega⟩
        omega
      obtain ⟨x, hx⟩ : ∃ x, m'.take t = x := ⟨_, rfl⟩
      have hxl : x.length = t := by rw [← hx, List.length_take]; omega
      have hrem : Int.tmod (n : Int) 64 = (q : Int) := by rw [Int.tmod_eq_emod_of_nonneg (by omega)]; omega
      have hq64 : q < 64 := by omega
      rw [hn] at hS
      have hcnt := hS.count
      have HS := Lib.hid hS
      have HM := Lib.hid (show (u8v x).length = Nat.min k' (64 - q) by rw [u8v_length, hxl, ht])
      have HXL := Lib.hid (show (u8v x).length = t by rw [u8v_length, hxl])
      have HSRC := Lib.hid (show ∀ j v, (u8v x)[j]? = some v → wr.cell? ((⟨b, off, none⟩ : Addr).add j) = some v by
        intro j v hv
        have hj : j < x.length := by have := (List.getElem?_eq_some_iff.1 hv).1; rwa [u8v_length] at this
        rw [u8v_get x j hj] at hv
        cases hv
        rw [addr_add, hcell j (by omega), ← hx, by8_take _ _ _ (by omega)])
      have HFIT := Lib.hid (show 9 + q + (u8v x).length ≤ (stv r wt n).length by rw [stv_length _ _ _ hwl, u8v_length, hxl]; omega)
      have HNEW := Lib.hid (stv_lay r wt n q x hwl (by omega))
      obtain ⟨wt1, hw1⟩ : ∃ y, layW wt q x = y := ⟨_, rfl⟩
      have hw1l : wt1.length = 64 := by rw [← hw1, layW_length _ _ _ (by omega)]; exact hwl
      rw [hw1] at HNEW
      have HS1 := Lib.hid (show St (wr.drew.setRow g (stv r wt1 n).toArray) g r wt1 n from ⟨hw1l, setRow_heap wr.drew g _ _ _ _ hS.row⟩)
      have HG0 := Lib.hid (show wr.grownBy (wr.drew.setRow g (stv r wt1 n).toArray) (some g) from grown_trans (gb_below g (Below.refl _ wr).drew) (gb_setRow wr.drew g (stv r wt1 n).toArray))
      have HG1 := Lib.hid (grown_trans hgr HG0.out)
      have HB := Lib.hid hb
      have HC := Lib.hid hC
      have hq1 : 9 + q ≤ 73 := by omega
      have hsl := slice64 g q hq64
      clear hcell hb hC hgr hS hsep
      go_wp2
      go_region_law (first
        | (refine step_copy_mid rfl (.tmp 20) (.tmp 21) 22 22 rfl 5 Tryd.underlying22 HSZ.out g (9 + q) (64 - q) (64 - q) ⟨b, off, none⟩ k' cap' (by simp [Act.eval, Act.put]) (by simp [Act.eval, Act.put]) (stv r wt n) (stv r wt1 n) 64 HS.out.row (u8v x) HM.out HSRC.out HFIT.out (u8v_one x) HNEW.out t HXL.out ?_))
      have HB1 := Lib.hid (HB.out.grown (g := g) (fun _ b' off' e => by cases e; exact hsb) HG0.out)
      have hf73 := HS1.out.frozen 73
      have hc73 := HS1.out.count
      obtain ⟨n2, hn2⟩ : ∃ n2, n + t = n2 := ⟨_, rfl⟩
      have hnt : (n : Int) + (t : Int) = (n2 : Int) := by omega
      have hn2b : n2 ≤ 1000000 := by omega
      have HS2 := Lib.hid (HS1.out.setCount n2)
      have HG2 := Lib.hid (grown_trans HG1.out (gb_setCell _ g 73 (.int .i64 (n2 : Int))))
      obtain ⟨q2, hq2⟩ : ∃ q2, n2 % 64 = q2 := ⟨_, rfl⟩
      have hrem2 : Int.tmod (n2 : Int) 64 = (q2 : Int) := by rw [Int.tmod_eq_emod_of_nonneg (by omega)]; omega
      have htk' : (t : Int) ≤ (k' : Int) := by omega
      have hkc := HB.out.le
      have hkm := HB.out.max
      have HB2 := Lib.hid (show Bys _ _ _ _ _ from HB1.out.grown (g := g) (fun _ b' off' e => by cases e; exact hsb) (gb_setCell _ g 73 (.int .i64 (n2 : Int))))
      clear HNEW HFIT HSRC HXL HM hcnt hsl hrem HSZ HS HG0 HG1 HB HB1 HS1
      generalize wr.drew.setRow g (stv r wt1 n).toArray = W1 at *
      obtain ⟨ra, hra⟩ : ∃ ra, (if cap' = t then (⟨b, off, none⟩ : Addr) else ⟨b, off + t, none⟩) = ra := ⟨_, rfl⟩
      have hsr := slice_rest b off k' cap' t htk.1
      have hsr' := slice_rest' b off k' cap' t htk.1
      rw [hra] at hsr hsr'
      have hbr : Bys (W1.setCell ⟨g, 73, none⟩ (.int .i64 (n2 : Int))) (some ra) (k' - t) (cap' - t) (m'.drop t) ∧ (0 < k' - t → ∀ b' off', some ra = some ⟨b', off', none⟩ → b' ≠ g) := by
        by_cases hcap : cap' = t
        · rw [if_pos hcap] at hra
          subst hra
          exact ⟨HB2.out.dropEnd htk.1 hcap, fun _ b' off' e => by cases e; exact hsb⟩
        · rw [if_neg hcap] at hra
          subst hra
          have := HB2.out.drop htk.1
          rw [Option.map_some, addr_add] at this
          exact ⟨this, fun _ b' off' e => by cases e; exact hsb⟩
      have HBR := Lib.hid hbr
      have HL2 := Lib.hid (show (l' ++ x).length = n2 by rw [List.length_append, hn, hxl]; exact hn2)
      have HLL := Lib.hid (show (l' ++ x) ++ m'.drop t = L by rw [← hx, List.append_assoc, List.take_append_drop]; exact hL)
      clear hbr hra HB2
      by_cases hq0 : q2 = 0
      · subst hq0
        have hCF := HC.out.full hwl (m := x) (by rw [hn, hq, hxl]; omega)
        rw [hn, hq, hw1] at hCF
        obtain ⟨R, hR⟩ : ∃ c, blockS r wt1 = c := ⟨_, rfl⟩
        obtain ⟨c64, h64⟩ : ∃ c, u8v wt1 = c := ⟨_, rfl⟩
        obtain ⟨vw, hvw⟩ : ∃ v, aggW (wordsS wt1 64) = v := ⟨_, rfl⟩
        have HWC := Lib.hid (show ∀ W, Calls Tryd.prog 46 #[.agg c64.toArray] W (ValPost vw W) by
          intro W; rw [← h64, ← hvw]; exact words_c wt1 hw1l)
        have HMC := Lib.hid (show ∀ W, TabS W → Calls Tryd.prog 45 #[.agg #[.int .u32 (I r.a), .int .u32 (I r.b), .int .u32 (I r.c), .int .u32 (I r.d), .int .u32 (I r.e), .int .u32 (I r.f), .int .u32 (I r.g), .int .u32 (I r.h)], vw] W (ValPost (.agg #[.int .u32 (I R.a), .int .u32 (I R.b), .int .u32 (I R.c), .int .u32 (I R.d), .int .u32 (I R.e), .int .u32 (I R.f), .int .u32 (I R.g), .int .u32 (I R.h)]) W) by
          intro W hW; rw [← hvw, ← hR]; exact mix_c r (wordsS wt1 64) (wordsS_length wt1 64) hW)
        have hA : ∀ W, St W g r wt1 n2 → W.cell? ⟨g, 1, none⟩ = some (.int .u32 (I r.a)) ∧ W.cell? ⟨g, 2, none⟩ = some (.int .u32 (I r.b)) ∧ W.cell? ⟨g, 3, none⟩ = some (.int .u32 (I r.c)) ∧ W.cell? ⟨g, 4, none⟩ = some (.int .u32 (I r.d)) ∧ W.cell? ⟨g, 5, none⟩ = some (.int .u32 (I r.e)) ∧ W.cell? ⟨g, 6, none⟩ = some (.int .u32 (I r.f)) ∧ W.cell? ⟨g, 7, none⟩ = some (.int .u32 (I r.g)) ∧ W.cell? ⟨g, 8, none⟩ = some (.int .u32 (I r.h)) ∧ W.rangeAt g 9 c64 ∧ W.frozen? ⟨g, 1, none⟩ = false ∧ W.frozen? ⟨g, 2, none⟩ = false ∧ W.frozen? ⟨g, 3, none⟩ = false ∧ W.frozen? ⟨g, 4, none⟩ = false ∧ W.frozen? ⟨g, 5, none⟩ = false ∧ W.frozen? ⟨g, 6, none⟩ = false ∧ W.frozen? ⟨g, 7, none⟩ = false ∧ W.frozen? ⟨g, 8, none⟩ = false := by
          intro W h; rw [← h64]; exact h.eight
        have hc64 : c64.length = 64 := by rw [← h64, u8v_length, hw1l]
        have HLD := Lib.hid (show ∀ W, St W g r wt1 n2 → (loadCells ⟨g, 1, none⟩ 8).run Tryd.prog W = .ok #[.int .u32 (I r.a), .int .u32 (I r.b), .int .u32 (I r.c), .int .u32 (I r.d), .int .u32 (I r.e), .int .u32 (I r.f), .int .u32 (I r.g), .int .u32 (I r.h)] W from fun W h => run_loadCells_list (P := Tryd.prog) W ⟨g, 1, none⟩ (u32v r.list) (fun j v hv => by rw [Addr.add_mid]; exact h.words j v hv))
        rw [hR] at hCF
        have HCF := Lib.hid hCF
        have HA := Lib.hid hA
        clear hCF hA hvw h64
        go_wp2
        generalize W1.setCell ⟨g, 73, none⟩ (.int .i64 (n2 : Int)) = W2 at *
        have hSD : St W2.drew g r wt1 n2 := ⟨hw1l, HS2.out.row⟩
        have HTD := Lib.hid (hT.grown hS0.out (HG2.out) |>.below (Below.refl _ W2).drew)
        obtain ⟨dc1, dc2, dc3, dc4, dc5, dc6, dc7, dc8, dr, df1, df2, df3, df4, df5, df6, df7, df8⟩ := HA.out _ hSD
        have hld8 : (loadCells ⟨g, 1, none⟩ 8).run Tryd.prog W2.drew = .ok #[.int .u32 (I r.a), .int .u32 (I r.b), .int .u32 (I r.c), .int .u32 (I r.d), .int .u32 (I r.e), .int .u32 (I r.f), .int .u32 (I r.g), .int .u32 (I r.h)] W2.drew := HLD.out _ hSD
        have hld64 : (loadCells ⟨g, 9, none⟩ 64).run Tryd.prog W2.drew = .ok c64.toArray W2.drew := by
          rw [← hc64]
          exact run_loadCells_list (P := Tryd.prog) W2.drew ⟨g, 9, none⟩ c64 (fun j v hv => by rw [Addr.add_mid]; exact dr j v hv)
        have HSD := Lib.hid hSD
        clear hSD dr hc64
        go_region_with (first
          | (go_at_call 46; (with_reducible refine (HWC.out _).mono ?_); rintro e w5 ⟨rfl, hb5⟩; obtain ⟨xc1, xc2, xc3, xc4, xc5, xc6, xc7, xc8, xr, xf1, xf2, xf3, xf4, xf5, xf6, xf7, xf8⟩ := HA.out _ (HSD.out.kept hb5); have hld5 := HLD.out _ (HSD.out.kept hb5))
          | (go_at_call 45; (with_reducible refine (HMC.out _ (HTD.out.below hb5)).mono ?_); rintro e w6 ⟨rfl, hb6⟩; obtain ⟨yc1, yc2, yc3, yc4, yc5, yc6, yc7, yc8, yr, yf1, yf2, yf3, yf4, yf5, yf6, yf7, yf8⟩ := HA.out _ ((HSD.out.kept hb5).kept hb6)))
        all_goals
          have hS6 := (HSD.out.kept hb5).kept hb6
          have hG6 : W2.grownBy w6 (some g) := gb_below g ((Below.refl _ W2).drew.trans (hb5.trans (hb6.mono hb5.size)))
          have HG7 := Lib.hid (grown_trans hG6 (hS6.storedGrown R))
          have HS7 := Lib.hid (hS6.stored R)
          clear hS6 hG6 hb5 hb6
          go_wp2
          go_roundw
          case rel =>
            refine ⟨some ra, k' - t, _, l' ++ x, m'.drop t, rfl, HBR.out.1.grown HBR.out.2 HG7.out, HBR.out.2, HLL.out, ⟨R, wt1, ?_, HCF.out⟩, grown_trans HG2.out HG7.out⟩
            rw [HL2.out]; exact HS7.out
          case measure => simp [slen]; omega
      · have hCM := HC.out.more hwl (m := x) (by rw [hn, hq, hxl]; omega)
        rw [hn, hq, hw1] at hCM
        have HCM := Lib.hid hCM
        clear hCM
        go_wp2
        go_roundw
        case rel =>
          refine ⟨some ra, k' - t, _, l' ++ x, m'.drop t, rfl, HBR.out.1, HBR.out.2, HLL.out, ⟨r, wt1, ?_, HCM.out⟩, HG2.out⟩
          rw [HL2.out]; exact HS2.out
        case measure => simp [slen]; omega
end Go.Proofs.YticcmhgahbnboaaDoor
