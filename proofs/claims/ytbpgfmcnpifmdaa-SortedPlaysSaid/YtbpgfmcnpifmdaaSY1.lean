/-
  Merged: AB OP OR OS OT OU.
-/
import Derived.Deep.QuietTactic
import Derived.StillTail
import Derived.Lib.QuietBelow
import Derived.Test.YtbpgfmcnpifmdaaRows
import Derived.OrdersIn
import Derived.TacticsIn
import Derived.RangeFuncNested
import Derived.RangeFuncBound
import Derived.RangeFuncCalls
import Derived.RangeFuncLeaves
import Derived.WalkKit
import Derived.Lib.Hide
import Derived.BigQuiet
import Derived.BigRegion
import Derived.Deep.Cut
import Derived.Deep.MidRow
import Derived.Great.BuildSlice
import Derived.Outline
import Derived.OwnWalk
import Derived.Laws.Rows
import Derived.ChangeKeysEq
import Derived.Laws.StructEq
import Derived.WalkSpells
import Derived.WalkLawsBesides
import Derived.Laws.CopyOwn
import Derived.WalkSmall
import Derived.Lib.LaidTab
import Derived.Deep.RegionWith
import Derived.Lib.MinMax
import Derived.WideShapes
import Derived.ChangeSame
import Derived.OpenShut
import Derived.Deep.Slices
import Derived.Deep.AppendSrc
import Derived.Lib.AppendZerosOnto
import Derived.Lib.SliceRun
import Derived.Lib.Walk
import Derived.Lib.OthersKept
import Derived.Laws.RangeAny
import Derived.Maps.OwnOps
import Derived.Maps.Views
import Derived.ChangeSlices
import Derived.ChangeArms
import Derived.Deep.DeepAppendWide
import Derived.Maps.AppendAt
import Derived.Shelf.Abstract
import Derived.OwnWalkIn
import Derived.TacticsInMore
import Derived.LoopNIn
import Derived.LoopIn
import Derived.Shelf.Spec.SlicesInsertGrow
import Derived.Test.YtbpgfmcnpifmdaaSX1

section
namespace Go.Proofs.Ytbpgfmcnpifmdaa
open Go.RowKit Go Go.Sort
set_option linter.unusedVariables false
set_option maxRecDepth 20000

/-- append of rows that lie in memory. -/
theorem Ls.src {W : World} {a : Option Addr} {n cap : Nat} {L : List Rw} (h : Ls 2 Rw.arr Rw.zero W a n cap L) : n = 0 ∨ ∃ b off, a = some ⟨b, off, none⟩ ∧ ∀ j v, (lCells Rw.arr L)[j]? = some v → W.cell? ((⟨b, off, none⟩ : Addr).add j) = some v := by
  by_cases hn : n = 0
  · exact .inl hn
  · right
    rcases h.adr with h4 | ⟨b, off, rfl, hat⟩
    · have := h.le; omega
    · refine ⟨b, off, rfl, fun j v hj => ?_⟩
      have hjl : j < L.length * 2 := by
        have := (List.getElem?_eq_some_iff.1 hj).1
        rwa [lCells_length (sz := 2) rw_size] at this
      have e := lCells_get (z := Rw.zero) rw_size L (j / 2) (j % 2) (by omega) (Nat.mod_lt _ (by omega))
      rw [show j / 2 * 2 + j % 2 = j by omega, hj] at e
      have := hat (j / 2) (by have := h.len; omega) (j % 2) v e.symm
      rw [addr_add]
      rw [show off + j / 2 * 2 + j % 2 = off + j by omega] at this
      exact this
theorem rwcells_one (L : List Rw) (h : ∀ j, j < L.length → ∃ a n c, (L.getD j Rw.zero).u = .slice a n c) : ∀ v ∈ lCells Rw.arr L, v.oneCell' = true := by
  intro v hv
  obtain ⟨r, hr, hv⟩ := List.mem_flatMap.1 hv
  obtain ⟨j, hj, rfl⟩ := List.getElem_of_mem hr
  obtain ⟨a, n, c, e⟩ := h j hj
  rw [List.getD_eq_getElem?_getD, List.getElem?_eq_getElem hj] at e
  have e : (L[j]).u = .slice a n c := e
  have hv : v ∈ [Value.string (text (L[j]).k), (L[j]).u] := hv
  rw [e] at hv
  simp only [List.mem_cons, List.not_mem_nil, or_false] at hv
  rcases hv with rfl | rfl <;> rfl
theorem wpList_append_rws {w : World} {ops : Array Oper} {rest : List Oper} {o : Oper} {ac : Act} {Q : Exit → Act → World → Prop} (hgd : o.guard = none) (os ox : Operand)
    (ho : o.op = .call { callee := .builtin .append, args := #[os, ox], argTypes := #[27, 27] })
    {base : Nat} {u : Value} {l M : List Rw} (hs : ac.eval os = u) (hown : OwnL 2 30 Rw.arr w base u l) {a : Option Addr} {cap : Nat} (hx : ac.eval ox = .slice a M.length cap) (hm : RwsAt w a M.length cap M) (h63 : l.length + M.length ≤ 1000000000) (hbase : base ≤ w.heap.size)
    (h : ∀ v' w', OwnL 2 30 Rw.arr w' base v' (l ++ M) → w.grownBy w' u.ownBlock → wpList Try.prog ops Q rest (ac.put o.dst v') w') :
    wpList Try.prog ops Q (o :: rest) ac w := by
  obtain ⟨i0, hi, hz0, hz1, hz2⟩ := info_parts Try.infoRw
  rcases hm.1.src with hz | ⟨b, off, rfl, hsrc⟩
  · have hM : M = [] := List.eq_nil_of_length_eq_zero hz
    subst hM
    refine wpList_plain hgd fun K hK => ?_
    have hsr : Src Try.prog i0.size 27 (.slice a 0 cap) 0 [] w := by
      cases a with
      | none => exact Src.ofNil w Try.underlying27 cap
      | some a => exact Src.ofSlice w Try.underlying27 a 0 cap [] (by simp) (by simp) (by simp)
    rcases hown.2 with ⟨rfl, hn0⟩ | ⟨g, cp, cur, rfl, hB, hgg, hnc, hcm, hcs, htk⟩
    · have hr := run_append_zero (P := Try.prog) w 27 27 o.type 30 i0 Try.underlying27 hi (.slice a 0 cap) hsr
      unfold Oper.wp execOp
      simp only [ho, resolve, invoke, builtin, Sem.run_bind, Sem.run_pure, Result.andThen_ok, List.map_toArray, List.map_cons, List.map_nil, hs, hx, List.length_nil, hr]
      exact hK _ _ (h _ _ (by rw [List.append_nil]; exact hown) (World.grownBy.refl _ _))
    · have hr := run_append_room_src (P := Try.prog) (w := w) 27 27 o.type 30 i0 Try.underlying27 hi g 0 l.length cp (.slice a 0 cap) 0 [] hsr (by omega) (fun j hj => absurd hj (by simp)) (fun j hj => absurd hj (by simp))
      have hw : w.setCells g (0 + l.length * i0.size) [] = w := by simp [World.setCells]
      rw [hw] at hr
      unfold Oper.wp execOp
      simp only [ho, resolve, invoke, builtin, Sem.run_bind, Sem.run_pure, Result.andThen_ok, List.map_toArray, List.map_cons, List.map_nil, hs, hx, List.length_nil, hr]
      exact hK _ _ (h _ _ (by rw [List.append_nil]; exact hown) (World.grownBy.refl _ _))
  · refine wpList_append_own_wide (P := Try.prog) w hgd os ox 27 ho base 30 i0 _ 2 40 Try.underlying27 hi hz0 hz1 hz2 rfl (by decide) u l.length (lCells Rw.arr l) hs hown
      ⟨b, off, none⟩ M.length cap (lCells Rw.arr M) hx (by rw [lCells_length (sz := 2) rw_size]) hsrc (rwcells_one M fun j hj => by obtain ⟨a', c', e, -⟩ := hm.2 j hj; exact ⟨_, _, _, e⟩) (by unfold maxLen; omega) (by omega) hbase ?_
    intro v' w' h2 h3 _
    refine h v' w' ?_ h3
    unfold OwnL
    rw [List.length_append, lCells_append]
    exact h2
end Go.Proofs.Ytbpgfmcnpifmdaa
end

section
namespace Go.Proofs.Ytbpgfmcnpifmdaa
open Go.RowKit Go Go.Sort
set_option linter.unusedVariables false
set_option maxRecDepth 20000

theorem satA_le (n k : Nat) : satA n k ≤ 20001 := by unfold satA; split <;> omega
theorem satA_fits {n k : Nat} (h : satA n k ≤ 20000) : satA n k = n + k ∧ n + k ≤ 20000 := by unfold satA at h ⊢; split <;> rename_i hh
                                                                                           <;> first
                                                                                             | exact ⟨rfl, hh⟩
                                                                                             | (rw [if_neg hh] at h; omega)
end Go.Proofs.Ytbpgfmcnpifmdaa
end

section
namespace Go.Proofs.Ytbpgfmcnpifmdaa
open Go.RowKit Go Go.Sort Go.Deep
set_option linter.unusedVariables false
set_option maxRecDepth 20000

theorem ActsAt.place {W : World} {a : Option Addr} {n cap : Nat} {L : List Ac} (h : ActsAt W a n cap L) {k : Nat} (hk : k < n) :
    ∃ b off x c, a = some ⟨b, off, none⟩ ∧ (L.getD k Ac.zero).r.u = .slice x (L.getD k Ac.zero).r.cs.length c ∧ Cls W x (L.getD k Ac.zero).r.cs.length c (L.getD k Ac.zero).r.cs ∧
      ∀ W', Below W.heap.size W W' → W'.cell? ⟨b, off + k * 5, none⟩ = some (.int .i64 (L.getD k Ac.zero).kd) ∧ W'.cell? ⟨b, off + k * 5 + 1, none⟩ = some (.string (text (L.getD k Ac.zero).r.k)) ∧ W'.cell? ⟨b, off + k * 5 + 2, none⟩ = some (.slice x (L.getD k Ac.zero).r.cs.length c) ∧ W'.cell? ⟨b, off + k * 5 + 3, none⟩ = some (.string (text (L.getD k Ac.zero).un)) ∧ W'.cell? ⟨b, off + k * 5 + 4, none⟩ = some (.int .i64 (L.getD k Ac.zero).n) := by
  obtain ⟨b, off, e, hat⟩ := h.1.at hk
  obtain ⟨x, c, eu, hc⟩ := h.2 k hk
  exact ⟨b, off, x, c, e, eu, hc, fun W' hb => ⟨hat W' hb 0 _ rfl, hat W' hb 1 _ rfl, (hat W' hb 2 (L.getD k Ac.zero).r.u rfl).trans (by rw [eu]), hat W' hb 3 _ rfl, hat W' hb 4 _ rfl⟩⟩
/-- An act that is looked at. -/
def LightAc (a : Ac) : Prop := a.r.k.length ≤ 20000 ∧ a.un.length ≤ 20000 ∧ a.r.cs.length ≤ 2000 ∧ ∀ c ∈ a.r.cs, c.t.length ≤ 20000
theorem actb_cells {W : World} {q : Nat} {v0 v1 v2 v3 v4 : Value} {t : TypeId} (h : W.heap[q]? = some (.cells #[v0, v1, v2, v3, v4] t (0, 0))) :
    W.cell? ⟨q, 0, none⟩ = some v0 ∧ W.cell? ⟨q, 1, none⟩ = some v1 ∧ W.cell? ⟨q, 2, none⟩ = some v2 ∧ W.cell? ⟨q, 3, none⟩ = some v3 ∧ W.cell? ⟨q, 4, none⟩ = some v4 :=
  ⟨by rw [cell_of_row W q 0 _ t (0, 0) h]; rfl, by rw [cell_of_row W q 1 _ t (0, 0) h]; rfl, by rw [cell_of_row W q 2 _ t (0, 0) h]; rfl, by rw [cell_of_row W q 3 _ t (0, 0) h]; rfl, by rw [cell_of_row W q 4 _ t (0, 0) h]; rfl⟩
theorem takeA_snoc {l : List Ac} {i : Nat} (hi : i < l.length) : l.take (i + 1) = l.take i ++ [l.getD i Ac.zero] := by
  rw [List.take_add_one, List.getElem?_eq_getElem hi, List.getD_eq_getElem?_getD, List.getElem?_eq_getElem hi]
  rfl
theorem takeC_snoc {l : List Cl} {i : Nat} (hi : i < l.length) : l.take (i + 1) = l.take i ++ [l.getD i Cl.zero] := by
  rw [List.take_add_one, List.getElem?_eq_getElem hi, List.getD_eq_getElem?_getD, List.getElem?_eq_getElem hi]
  rfl
theorem quiet_left {P : Program} {f : FuncId} {args : Array Value} {w : World} {n : Nat} {v : Value}
    (h : Calls P f args (w.drewN n) fun e w' => e = .returned v ∧ w.drewN n = w') : Calls P f args (w.drewN n) fun e w'' => e = .returned v ∧ ∃ m, w'' = w.drewN m :=
  h.mono fun _ _ ⟨he, hm⟩ => ⟨he, n, hm.symm⟩
set_option maxRecDepth 100000 in
set_option maxHeartbeats 12800000 in
theorem slight_c {w : World} {x : Option Addr} {n cap : Nat} {l : List Ac} (hl : ActsAt w x n cap l) (hs : ∀ q ∈ l, q.r.k.length ≤ 9223372036854775807 ∧ q.un.length ≤ 9223372036854775807 ∧ ∀ c ∈ q.r.cs, c.t.length ≤ 9223372036854775807) :
    Calls Try.prog 14 #[.slice x n cap] w (fun e w' => ∃ b : Bool, e = .returned (.bool b) ∧ (b = true → n ≤ 1000 ∧ ∀ a ∈ l, LightAc a) ∧ Below w.heap.size w w') := by
  have hle := hl.1.le
  have hmax := hl.1.max
  have hll := hl.1.len
  have HL := Lib.hid hl
  have HS := Lib.hid hs
  have HLL := Lib.hid hll
  clear hl hs hll
  go_enter Try.func14, Try.ntmps14
  go_wp2
  go_loopw [3, 4] (fun v i9 wr => ∃ (i q : Nat), i ≤ n ∧ i9 = .int .i64 (i : Int) ∧ v = .int .i64 (q : Int) ∧ q ≤ 20001 ∧ (q ≤ 20000 → 20 * i ≤ q ∧ ∀ a ∈ l.take i, LightAc a) ∧ Below w.heap.size w wr) (fun _ i9 _ => n - (intOf i9).toNat)
  case atStart => exact ⟨0, 0, by omega, rfl, rfl, by omega, fun _ => ⟨by omega, fun a ha => by simp at ha⟩, Below.refl _ _⟩
  case round =>
    obtain ⟨i, q, hi, rfl, rfl, hq, hlo, hB⟩ := hrel
    have HB := Lib.hid hB
    have HLO := Lib.hid hlo
    clear hB hlo
    by_cases hlt : i < n
    · have hii : (i : Int) < (n : Int) := by omega
      have hic : (i : Int) < (cap : Int) := by omega
      by_cases hf : 20000 < q
      · have hfi : ¬ (q : Int) ≤ 20000 := by omega
        go_wp2
        go_ret
        exact .inl ⟨rfl, HB.out⟩
      · have hfi : (q : Int) ≤ 20000 := by omega
        obtain ⟨b, off, xa, ca, rfl, eu, hcl, hat⟩ := HL.out.place hlt
        have hmem : l.getD i Ac.zero ∈ l := by
          rw [List.getD_eq_getElem?_getD, List.getElem?_eq_getElem (by have := HLL.out; omega)]
          exact List.getElem_mem _
        obtain ⟨hk1, hu1, hc1⟩ := HS.out _ hmem
        obtain ⟨c0, c1, c2, c3, c4⟩ := hat _ HB.out
        have htk := takeA_snoc (l := l) (i := i) (by have := HLL.out; omega)
        obtain ⟨A, hA⟩ : ∃ z, l.getD i Ac.zero = z := ⟨_, rfl⟩
        rw [hA] at c0 c1 c2 c3 c4 hk1 hu1 hc1 htk hcl eu
        obtain ⟨kd, ⟨rk, ru, cs⟩, un, an⟩ := A
        replace hk1 : rk.length ≤ 9223372036854775807 := hk1
        replace hu1 : un.length ≤ 9223372036854775807 := hu1
        replace hc1 : ∀ c ∈ cs, c.t.length ≤ 9223372036854775807 := hc1
        replace hcl : Cls w xa cs.length ca cs := hcl
        replace c0 : wr.cell? ⟨b, off + i * 5, none⟩ = some (.int .i64 kd) := c0
        replace c1 : wr.cell? ⟨b, off + i * 5 + 1, none⟩ = some (.string (text rk)) := c1
        replace c2 : wr.cell? ⟨b, off + i * 5 + 2, none⟩ = some (.slice xa cs.length ca) := c2
        replace c3 : wr.cell? ⟨b, off + i * 5 + 3, none⟩ = some (.string (text un)) := c3
        replace c4 : wr.cell? ⟨b, off + i * 5 + 4, none⟩ = some (.int .i64 an) := c4
        obtain ⟨m, hm⟩ : ∃ z, cs.length = z := ⟨_, rfl⟩
        rw [hm] at c2 hcl
        have hcle := hcl.le
        have hcmx := hcl.max
        have hz := heap_alloc_new wr (.cells #[.int .i64 kd, .string (text rk), .slice xa m ca, .string (text un), .int .i64 an] 32)
        have hba := HB.out.trans ((alloc_below wr (.cells #[.int .i64 kd, .string (text rk), .slice xa m ca, .string (text un), .int .i64 an] 32)).mono HB.out.size)
        have hzz := HB.out.size
        have HCL := Lib.hid hcl
        have HC1 := Lib.hid hc1
        have HTK := Lib.hid htk
        have HM := Lib.hid hm
        have HST0 := Lib.hid (show satA (satA (satA q 20) rk.length) un.length ≤ 20000 → 20 * (i + 1) ≤ satA (satA (satA q 20) rk.length) un.length ∧ rk.length ≤ 20000 ∧ un.length ≤ 20000 ∧ ∀ a ∈ l.take i, LightAc a from fun h => by
          obtain ⟨e3, h3⟩ := satA_fits h
          obtain ⟨e2, h2⟩ := satA_fits (n := satA q 20) (k := rk.length) (by omega)
          obtain ⟨e1, h1⟩ := satA_fits (n := q) (k := 20) (by omega)
          obtain ⟨h4, h5⟩ := HLO.out (by omega)
          exact ⟨by omega, by omega, by omega, h5⟩)
        have HA0 := Lib.hid (fun W => show Calls Try.prog 29 #[.int .i64 (q : Int), .int .i64 20, .int .i64 20000] W _ from radd20_c q 20 hq (by omega) W)
        have HA1 := Lib.hid (fun W => radd20_c (satA q 20) rk.length (satA_le _ _) hk1 W)
        have HA2 := Lib.hid (fun W => radd20_c (satA (satA q 20) rk.length) un.length (satA_le _ _) hu1 W)
        have hsz1 : ((text rk).size : Int) = (rk.length : Int) := by rw [text_size]
        have hsz2 : ((text un).size : Int) = (un.length : Int) := by rw [text_size]
        have HBA := Lib.hid hba
        have HZ := Lib.hid hz
        clear hA eu hcl hc1 htk hm hk1 hu1 hmem hat HB HLO hq hf hz hba
        go_upto_region 6 with (fail)
        obtain ⟨WX, hWX⟩ : ∃ X, wr.alloc (.cells #[.int .i64 kd, .string (text rk), .slice xa m ca, .string (text un), .int .i64 an] 32) = X := ⟨_, rfl⟩
        rw [hWX] at HBA HZ
        obtain ⟨z, hzs⟩ : ∃ z, wr.heap.size = z := ⟨_, rfl⟩
        rw [hzs] at HZ hzz
        simp only [hWX, hzs]
        clear hWX hzs c0 c1 c2 c3 c4
        obtain ⟨d0, d1, d2, d3, d4⟩ := actb_cells HZ.out
        go_quiet ((go_at_call 29; first | with_reducible exact quiet_left (HA0.out _) | with_reducible exact quiet_left (HA1.out _) | with_reducible exact quiet_left (HA2.out _)))
        clear hsz1 hsz2 d0 d1 d2 d3 d4 HA0 HA1 HA2
        have HBN := Lib.hid (HBA.out.trans ((below_drewN (Below.refl WX.heap.size WX) nq).mono HBA.out.size))
        have HZN := Lib.hid (show (WX.drewN nq).heap[z]? = some (.cells #[.int .i64 kd, .string (text rk), .slice xa m ca, .string (text un), .int .i64 an] 32 (0, 0)) from HZ.out)
        obtain ⟨WY, hWY⟩ : ∃ X, WX.drewN nq = X := ⟨_, rfl⟩
        rw [hWY] at HBN HZN
        try rw [hWY]
        clear hWY HBA HZ
        have hqs := satA_le (satA (satA q 20) rk.length) un.length
        have HST1 := Lib.hid (show satA (satA (satA q 20) rk.length) un.length ≤ 20000 → 20 * (i + 1) ≤ satA (satA (satA q 20) rk.length) un.length ∧ (rk.length ≤ 20000 ∧ un.length ≤ 20000 ∧ ∀ a ∈ l.take i, LightAc a) ∧ 10 * 0 ≤ satA (satA (satA q 20) rk.length) un.length ∧ ∀ c ∈ cs.take 0, c.t.length ≤ 20000 from fun h => ⟨(HST0.out h).1, (HST0.out h).2, by omega, fun c hc => by simp at hc⟩)
        obtain ⟨q3, hq3⟩ : ∃ z, satA (satA (satA q 20) rk.length) un.length = z := ⟨_, rfl⟩
        rw [hq3] at hqs HST1
        simp only [hq3]
        clear HST0 hq3 hfi
        go_wp2
        go_loopw [3, 6] (fun v j9 wz => ∃ (k q : Nat), k ≤ m ∧ j9 = .int .i64 (k : Int) ∧ v = .int .i64 (q : Int) ∧ q ≤ 20001 ∧ (q ≤ 20000 → 20 * (i + 1) ≤ q ∧ (rk.length ≤ 20000 ∧ un.length ≤ 20000 ∧ ∀ a ∈ l.take i, LightAc a) ∧ 10 * k ≤ q ∧ ∀ c ∈ cs.take k, c.t.length ≤ 20000) ∧ Below WY.heap.size WY wz) (fun _ j9 _ => m - (intOf j9).toNat)
        case atStart => exact ⟨0, q3, by omega, rfl, rfl, hqs, HST1.out, Below.refl _ _⟩
        case round =>
          clear HST1 hqs
          obtain ⟨k, q, hk, rfl, rfl, hq, hlo, hB⟩ := hrel
          obtain ⟨d0, d1, d2, d3, d4⟩ := actb_cells (heap_below HZN.out hB)
          have HB := Lib.hid hB
          have HLO := Lib.hid hlo
          clear hB hlo
          by_cases hkm : k < m
          · have hki : (k : Int) < (m : Int) := by omega
            have hkc : (k : Int) < (ca : Int) := by omega
            by_cases hf : 20000 < q
            · have hfi : ¬ (q : Int) ≤ 20000 := by omega
              go_wp2
              go_roundw
              case rel => exact ⟨i + 1, q, by omega, by go_num, rfl, hq, fun h => by omega, HBN.out.trans (HB.out.mono HBN.out.size)⟩
              case measure => simp [intOf]; omega
            · have hfi : (q : Int) ≤ 20000 := by omega
              obtain ⟨bc, offc, rfl, hatc⟩ := HCL.out.at hkm
              obtain ⟨e0, e1, e2, e3, e4, e5, e6, e7⟩ := hatc wr (HBN.out.trans (HB.out.mono HBN.out.size))
              have htc := takeC_snoc (l := cs) (i := k) (by have := HM.out; omega)
              have hcx := HC1.out (cs.getD k Cl.zero) (by
                rw [List.getD_eq_getElem?_getD, List.getElem?_eq_getElem (by have := HM.out; omega)]
                exact List.getElem_mem _)
              obtain ⟨ck, hck⟩ : ∃ z, cs.getD k Cl.zero = z := ⟨_, rfl⟩
              rw [hck] at e5 htc hcx
              have HST := Lib.hid (show satA (satA q 10) ck.t.length ≤ 20000 → 20 * (i + 1) ≤ satA (satA q 10) ck.t.length ∧ (rk.length ≤ 20000 ∧ un.length ≤ 20000 ∧ ∀ a ∈ l.take i, LightAc a) ∧ 10 * (k + 1) ≤ satA (satA q 10) ck.t.length ∧ ∀ c ∈ cs.take (k + 1), c.t.length ≤ 20000 from fun h => by
                obtain ⟨f2, h2⟩ := satA_fits h
                obtain ⟨f1, h1⟩ := satA_fits (n := q) (k := 10) (by omega)
                obtain ⟨h4, h5, h6, h7⟩ := HLO.out (by omega)
                refine ⟨by omega, h5, by omega, fun c hc => ?_⟩
                rw [htc, List.mem_append, List.mem_singleton] at hc
                rcases hc with hc | rfl
                · exact h7 c hc
                · omega)
              have HA0 := Lib.hid (fun W => show Calls Try.prog 29 #[.int .i64 (q : Int), .int .i64 10, .int .i64 20000] W _ from radd20_c q 10 hq (by omega) W)
              have HA1 := Lib.hid (fun W => radd20_c (satA q 10) ck.t.length (satA_le _ _) hcx W)
              have hqs := satA_le (satA q 10) ck.t.length
              have HQS := Lib.hid hqs
              have hsz1 : ((text ck.t).size : Int) = (ck.t.length : Int) := by rw [text_size]
              clear hatc htc hcx hck hf e0 e1 e2 e3 e4 e6 e7 hqs
              go_upto_region 10 with (fail)
              go_quiet ((go_at_call 29; first | with_reducible exact quiet_left (HA0.out _) | with_reducible exact quiet_left (HA1.out _)))
              clear hsz1 e5 d0 d1 d2 d3 d4 HA0 HA1
              go_wp2
              go_roundw
              case rel => exact ⟨k + 1, _, by omega, by go_num, rfl, HQS.out, HST.out, below_drewN HB.out _⟩
              case measure => simp [intOf]; omega
          · obtain rfl : k = m := by omega
            go_wp2
            go_roundw
            case rel => exact ⟨i + 1, q, by omega, by go_num, rfl, hq, fun h => by
              obtain ⟨h4, ⟨h5, h6, h7⟩, h8, h9⟩ := HLO.out h
              refine ⟨h4, fun a ha => ?_⟩
              rw [HTK.out, List.mem_append, List.mem_singleton] at ha
              rcases ha with ha | rfl
              · exact h7 a ha
              · refine ⟨h5, h6, ?_, ?_⟩
                · show cs.length ≤ 2000
                  rw [HM.out]
                  omega
                · show ∀ c ∈ cs, c.t.length ≤ 20000
                  rwa [List.take_of_length_le (by rw [HM.out]; omega)] at h9, HBN.out.trans (HB.out.mono HBN.out.size)⟩
            case measure => simp [intOf]; omega
    · obtain rfl : i = n := by omega
      go_wp2
      go_ret
      exact ⟨_, rfl, fun h => by
        have h1 : q ≤ 20000 := by simp at h; omega
        obtain ⟨h2, h3⟩ := HLO.out h1
        exact ⟨by omega, by rwa [List.take_of_length_le (by have := HLL.out; omega)] at h3⟩, HB.out⟩
end Go.Proofs.Ytbpgfmcnpifmdaa
end

section
namespace Go.Proofs.Ytbpgfmcnpifmdaa
open Go.RowKit Go Go.Sort Go.Deep
set_option linter.unusedVariables false
set_option maxRecDepth 20000

/-- The cells of the row of an act. -/
def Ac.cs (a : Ac) : List Cl := if a.kd = 4 then [⟨0, 0, 0, 0, false, a.un, 0, 0⟩] else a.r.cs
theorem own_one {W : World} {g : Nat} {t : List UInt8} (h : W.heap[g]? = some (.cells #[.int .i64 0, .int .i64 0, .int .i64 0, .int .i64 0, .bool false, .string (text t), .int .i64 0, .int .i64 0] 103 (0, 0))) : OwnC W g (.slice (some ⟨g, 0, none⟩) 1 1) [⟨0, 0, 0, 0, false, t, 0, 0⟩] :=
  ⟨rfl, .inr ⟨g, 1, _, rfl, Nat.le_refl _, h, Nat.le_refl _, by unfold maxLen; omega, rfl, rfl⟩⟩
set_option maxRecDepth 100000 in
set_option maxHeartbeats 6400000 in
theorem sarow_c {w : World} {kd an : Int} {rk un : List UInt8} {x : Option Addr} {m cap : Nat} {cs : List Cl} (hl : Cls w x m cap cs) (hm : m ≤ 1000000) :
    Calls Try.prog 16 #[.agg #[.int .i64 kd, .string (text rk), .slice x m cap, .string (text un), .int .i64 an]] w (fun e w' => ∃ v, e = .returned (.agg #[.string (text rk), v]) ∧ OwnC w' w.heap.size v (if kd = 4 then [⟨0, 0, 0, 0, false, un, 0, 0⟩] else cs) ∧ Below w.heap.size w w') := by
  have hb := (alloc_below w (.cells #[.int .i64 kd, .string (text rk), .slice x m cap, .string (text un), .int .i64 an] 32)).alloc (by simp) (.cells #[.string ⟨#[]⟩, .slice none 0 0] 30)
  have hr0 : ((w.alloc (.cells #[.int .i64 kd, .string (text rk), .slice x m cap, .string (text un), .int .i64 an] 32)).alloc (.cells #[.string ⟨#[]⟩, .slice none 0 0] 30)).heap[w.heap.size]? = some (.cells #[.int .i64 kd, .string (text rk), .slice x m cap, .string (text un), .int .i64 an] 32 (0, 0)) := (Below.heap_alloc _ _ _ (by simp)).trans (heap_alloc_new w _)
  have hr1 := heap_alloc_new (w.alloc (.cells #[.int .i64 kd, .string (text rk), .slice x m cap, .string (text un), .int .i64 an] 32)) (.cells #[.string ⟨#[]⟩, .slice none 0 0] 30)
  have hs1 : ((w.alloc (.cells #[.int .i64 kd, .string (text rk), .slice x m cap, .string (text un), .int .i64 an] 32)).alloc (.cells #[.string ⟨#[]⟩, .slice none 0 0] 30)).heap.size = w.heap.size + 2 := by rw [World.size_alloc, World.size_alloc]
  rw [World.size_alloc] at hr1
  have HL := Lib.hid hl
  obtain ⟨RC, hRC⟩ : ∃ z, (if kd = 4 then [(⟨0, 0, 0, 0, false, un, 0, 0⟩ : Cl)] else cs) = z := ⟨_, rfl⟩
  rw [hRC]
  have HRC := Lib.hid hRC
  clear hl hRC
  go_enter Try.func16, Try.ntmps16
  go_upto_region 1 with (fail)
  obtain ⟨B, hB⟩ : ∃ q, w.heap.size = q := ⟨_, rfl⟩
  have HBe := Lib.hid hB
  rw [hB] at hr0 hr1 hs1 ⊢
  clear hB
  generalize (w.alloc (.cells #[.int .i64 kd, .string (text rk), .slice x m cap, .string (text un), .int .i64 an] 32)).alloc (.cells #[.string ⟨#[]⟩, .slice none 0 0] 30) = W1 at *
  obtain ⟨d0, d1, d2, d3, d4⟩ := actb_cells hr0
  have HR0 := Lib.hid hr0
  have HR1 := Lib.hid hr1
  have HB1 := Lib.hid hb
  have HCP := Lib.hid (rcopy_c (HL.out.below hb) hm (text rk))
  have HS1 := Lib.hid hs1
  clear hr0 hr1 hb hs1
  go_upto_region 2 with (go_at_call 59; (with_reducible refine HCP.out.mono ?_); rintro e2 w2 ⟨v2, rfl, ho2, hb2⟩; obtain ⟨a2, c2, rfl, -⟩ := ho2.cls)
  have hal := hb2.trans ((alloc_below w2 (.cells #[.string (text rk), .slice a2 cs.length c2] 30)).mono hb2.size)
  have hn := heap_alloc_new w2 (.cells #[.string (text rk), .slice a2 cs.length c2] 30)
  have ho3 := ho2.kept (alloc_below w2 (.cells #[.string (text rk), .slice a2 cs.length c2] 30))
  have HB2 := Lib.hid (HB1.out.trans (hal.mono HB1.out.size))
  have hr0 := heap_below HR0.out hal
  have hr1 := heap_below HR1.out hal
  have hql : B + 2 ≤ w2.heap.size := by rw [← HS1.out]; exact hb2.size
  have hsz := World.size_alloc w2 (.cells #[.string (text rk), .slice a2 cs.length c2] 30)
  obtain ⟨q, hq⟩ : ∃ q, w2.heap.size = q := ⟨_, rfl⟩
  rw [hq] at hn hql hsz ⊢
  generalize w2.alloc (.cells #[.string (text rk), .slice a2 cs.length c2] 30) = W2 at *
  clear hal hq HR0 HR1 HB1 d0 d1 d2 d3 d4 ho2 hb2 HCP
  obtain ⟨d0, d1, d2, d3, d4⟩ := actb_cells hr0
  have HN := Lib.hid hn
  have HR1 := Lib.hid hr1
  have HQL := Lib.hid hql
  have HSZ := Lib.hid hsz
  have hOC : OwnC W2 w.heap.size (.slice a2 cs.length c2) cs := ho3.mono (by rw [HS1.out, HBe.out]; omega)
  have HOC := Lib.hid hOC
  clear hn hr1 hql hsz hOC ho3
  by_cases hk : kd = 4
  · subst hk
    have hRC := HRC.out
    rw [if_pos rfl] at hRC
    subst hRC
    go_upto_region 3 with (fail)
    have hal := alloc_below W2 (.cells #[.int .i64 0, .int .i64 0, .int .i64 0, .int .i64 0, .bool false, .string (text un), .int .i64 0, .int .i64 0] 103)
    have hn1 := heap_alloc_new W2 (.cells #[.int .i64 0, .int .i64 0, .int .i64 0, .int .i64 0, .bool false, .string (text un), .int .i64 0, .int .i64 0] 103)
    have hn2 := heap_below HN.out hal
    obtain ⟨n0, n1, nf⟩ := row_cells hn2
    have HN2 := Lib.hid hn2
    have HN1 := Lib.hid hn1
    have HR2 := Lib.hid (heap_below HR1.out hal)
    have HB3 := Lib.hid (HB2.out.trans (hal.mono HB2.out.size))
    have hq2 := HQL.out
    clear hal hn1 hn2 HRC
    go_upto_region 4 with (fail)
    have hs2 := HSZ.out
    obtain ⟨W3, hW3⟩ : ∃ X, W2.alloc (.cells #[.int .i64 0, .int .i64 0, .int .i64 0, .int .i64 0, .bool false, .string (text un), .int .i64 0, .int .i64 0] 103) = X := ⟨_, rfl⟩
    obtain ⟨g, hg⟩ : ∃ X, W2.heap.size = X := ⟨_, rfl⟩
    rw [hW3] at n0 n1 nf HN1 HN2 HR2 HB3
    rw [hg] at HN1 hs2
    simp only [hW3, hg]
    clear n0 n1 nf hW3 d0 d1 d2 d3 d4
    have hn4 : (W3.setCell ⟨q, 1, none⟩ (.slice (some ⟨g, 0, none⟩) 1 1)).heap[q]? = some (.cells #[.string (text rk), .slice (some ⟨g, 0, none⟩) 1 1] 30 (0, 0)) := (heap_setCell_same W3 q 1 _ _ _ HN2.out).trans rfl
    have hr4 : (W3.setCell ⟨q, 1, none⟩ (.slice (some ⟨g, 0, none⟩) 1 1)).heap[B + 1]? = some (.cells #[.string ⟨#[]⟩, .slice none 0 0] 30 (0, 0)) := (Below.heap_setCell W3 ⟨q, 1, none⟩ _ (B + 1) (by show B + 1 ≠ q; omega)).trans HR2.out
    have ho4 : OwnC (W3.setCell ⟨q, 1, none⟩ (.slice (some ⟨g, 0, none⟩) 1 1)) w.heap.size (.slice (some ⟨g, 0, none⟩) 1 1) [⟨0, 0, 0, 0, false, un, 0, 0⟩] := own_set HN2.out (by decide) ((own_one HN1.out).mono (by have := HBe.out; omega))
    have HB4 := Lib.hid (HB3.out.setCell (p := ⟨q, 1, none⟩) (by have := HBe.out; show w.heap.size ≤ q; omega) (.slice (some ⟨g, 0, none⟩) 1 1))
    generalize W3.setCell ⟨q, 1, none⟩ (.slice (some ⟨g, 0, none⟩) 1 1) = W4 at *
    obtain ⟨n0, n1, -⟩ := row_cells hn4
    obtain ⟨z0, z1, zf⟩ := row_cells hr4
    have HS := Lib.hid (row_set hr4 (text rk) (.slice (some ⟨g, 0, none⟩) 1 1))
    have HR4 := Lib.hid hr4
    have HO4 := Lib.hid ho4
    clear hn4 hr4 ho4 hs2
    go_wp2
    refine bodyPost_ret (results_cell_row rfl _ _ (B + 1) 30 _ (0, 0) _ rfl HS.out Try.underlying30 rfl (by kernel_rfl)) rfl ⟨_, rfl, ?_, (HB4.out.setCell (p := ⟨B + 1, 0, none⟩) (by have := HBe.out; show w.heap.size ≤ B + 1; omega) _).setCell (p := ⟨B + 1, 1, none⟩) (by have := HBe.out; show w.heap.size ≤ B + 1; omega) _⟩
    exact own_set (i := 1) (show (W4.setCell ⟨B + 1, 0, none⟩ (.string (text rk))).heap[B + 1]? = _ from (heap_setCell_same _ _ 0 _ _ _ HR4.out).trans rfl) (by decide) (own_set (i := 0) HR4.out (by decide) HO4.out)
  · have hRC := HRC.out
    rw [if_neg hk] at hRC
    subst hRC
    clear HRC
    have hn2 := HN.out
    obtain ⟨n0, n1, -⟩ := row_cells hn2
    obtain ⟨z0, z1, zf⟩ := row_cells HR1.out
    have HS := Lib.hid (row_set HR1.out (text rk) (.slice a2 cs.length c2))
    clear hn2
    have hq2 := HQL.out
    go_wp2
    refine bodyPost_ret (results_cell_row rfl _ _ (B + 1) 30 _ (0, 0) _ rfl HS.out Try.underlying30 rfl (by kernel_rfl)) rfl ⟨_, rfl, ?_, (HB2.out.setCell (p := ⟨B + 1, 0, none⟩) (by have := HBe.out; simp; omega) _).setCell (p := ⟨B + 1, 1, none⟩) (by have := HBe.out; simp; omega) _⟩
    exact own_set (i := 1) (show (W2.setCell ⟨B + 1, 0, none⟩ (.string (text rk))).heap[B + 1]? = _ from (heap_setCell_same _ _ 0 _ _ _ HR1.out).trans rfl) (by decide) (own_set (i := 0) HR1.out (by decide) HOC.out)
end Go.Proofs.Ytbpgfmcnpifmdaa
end

section
namespace Go.Proofs.Ytbpgfmcnpifmdaa
open Go.RowKit Go Go.Sort
set_option linter.unusedVariables false
set_option maxRecDepth 20000

/-- The rows behind a Set. -/
def rowR (R : List Rp) (r : Rp) : List Rp := if r.1 = [] then R else setR Op.bytesLess Prod.fst ([], []) r R
/-- The rows that acts make, each set. -/
def actsR (l : List Ac) : List Rp := l.foldl (fun R a => rowR R (a.r.k, a.cs)) []
theorem actsR_snoc (l : List Ac) (a : Ac) : actsR (l ++ [a]) = rowR (actsR l) (a.r.k, a.cs) := by simp [actsR]
theorem rowR_asc {R : List Rp} (r : Rp) (h : KAsc Op.bytesLess R) : KAsc Op.bytesLess (rowR R r) := by
  unfold rowR
  split
  · exact h
  · exact setR_asc h
theorem rowR_few (R : List Rp) (r : Rp) : (rowR R r).length ≤ R.length + 1 := by
  unfold rowR
  split
  · omega
  · exact setR_few (lt := Op.bytesLess) Prod.fst ([], []) r R
/-- Whatever the new row and the old ones keep, all keep. -/
theorem rowR_all {R : List Rp} {r : Rp} (h : KAsc Op.bytesLess R) {p : Rp → Prop} (hR : ∀ z ∈ R, p z) (hr : r.1 ≠ [] → p r) : ∀ z ∈ rowR R r, p z := by
  intro z hz
  unfold rowR at hz
  split at hz
  · exact hR z hz
  · rename_i e
    rcases (mem_setR h).1 hz with rfl | ⟨h1, -⟩
    · exact hr e
    · exact hR z h1
theorem actsR_facts : ∀ (n : Nat) (l : List Ac), l.length = n → KAsc Op.bytesLess (actsR l) ∧ (actsR l).length ≤ n ∧ ∀ z ∈ actsR l, z.1 ≠ [] ∧ ∃ a ∈ l, z.1 = a.r.k ∧ z.2 = a.cs
  | 0, l, h => by
    obtain rfl := List.eq_nil_of_length_eq_zero h
    exact ⟨List.Pairwise.nil, Nat.le_refl _, fun z hz => (nomatch hz)⟩
  | n + 1, l, h => by
    obtain ⟨l', a, rfl⟩ : ∃ l' a, l = l' ++ [a] := by
      rcases List.eq_nil_or_concat l with rfl | ⟨x, y, rfl⟩
      · simp at h
      · exact ⟨x, y, by rw [List.concat_eq_append]⟩
    obtain ⟨h1, h2, h3⟩ := actsR_facts n l' (by simpa using h)
    rw [actsR_snoc]
    refine ⟨rowR_asc _ h1, Nat.le_trans (rowR_few _ _) (by omega), rowR_all h1 (fun z hz => ?_) (fun e => ?_)⟩
    · obtain ⟨e1, b, hb, e2⟩ := h3 z hz
      exact ⟨e1, b, List.mem_append.2 (.inl hb), e2⟩
    · exact ⟨e, a, List.mem_append.2 (.inr (List.mem_singleton.2 rfl)), rfl, rfl⟩
theorem acts_few (l : List Ac) (n : Nat) (i : Nat) (h : l.length = n) : (actsR (l.take i)).length ≤ n := by
  have := (actsR_facts _ (l.take i) rfl).2.1
  rw [List.length_take] at this
  omega
/-- Set of a row, whatever its key. -/
theorem msetr_c {w : World} {q : Nat} {vb : Value} {BS : List Blk} (h : MapIn w q vb BS) (hf : (rowsOf BS).length ≤ 900000) {x : Option Addr} {m cap : Nat} {cs : List Cl} (hl : Cls w x m cap cs) (hm : m ≤ 1000000) (kk : List UInt8) :
    Calls Try.prog 17 #[.pointer (some ⟨q, 0, none⟩), .agg #[.string (text kk), .slice x m cap]] w (fun e w' => e = .returned (.int .i64 (if kk = [] then 2 else 0)) ∧ MDone q vb BS (rowR ((rowsOf BS).map Rw.pr) (kk, cs)) w w') := by
  by_cases hk : kk = []
  · subst hk
    rw [if_pos rfl]
    refine (mset_empty h.head).mono fun e w' hp => ⟨hp.1, vb, BS, h.below hp.2, ?_, Turn.of_below hp.2, fun k hk => .inl hk, fun k hk => .inl hk⟩
    unfold rowR
    rw [if_pos rfl]
  · rw [if_neg hk]
    refine (mset_c h hf hl hm hk).mono fun e w' hp => ⟨hp.1, ?_⟩
    unfold rowR
    rw [if_neg hk]
    exact hp.2
/-- What a scan without a bound chooses. -/
def restP (R : List Rp) (fr un : List UInt8) : List Rp := (R.filter (fun r => !Op.bytesLess r.1 fr)).takeWhile (fun r => un.isEmpty || Op.bytesLess r.1 un)
theorem scan_rest (R : List Rp) (fr un : List UInt8) (n : Int) : scanP R fr un n = (restP R fr un).take n.toNat := rfl
theorem less_succ : ∀ a z : List UInt8, Op.bytesLess a (z ++ [0]) = !Op.bytesLess z a
  | [], [] => rfl
  | [], _ :: _ => rfl
  | a :: x, [] => by
    show (decide (a < 0) || (a == 0 && Op.bytesLess x [])) = false
    have h1 : Op.bytesLess x [] = false := by cases x <;> rfl
    rw [h1, Bool.and_false, Bool.or_false]
    exact decide_eq_false (by simp)
  | a :: x, b :: y => by
    show (decide (a < b) || (a == b && Op.bytesLess x (y ++ [0]))) = !(decide (b < a) || (b == a && Op.bytesLess y x))
    rw [less_succ x y]
    by_cases h1 : a < b
    · have h2 : ¬ b < a := fun h => by rw [UInt8.lt_iff_toNat_lt] at h1 h; omega
      have h3 : (b == a) = false := by
        rw [beq_eq_false_iff_ne]
        rintro rfl
        rw [UInt8.lt_iff_toNat_lt] at h1; omega
      simp [h1, h2, h3]
    · by_cases h2 : b < a
      · have h3 : (a == b) = false := by
          rw [beq_eq_false_iff_ne]
          rintro rfl
          rw [UInt8.lt_iff_toNat_lt] at h2; omega
        simp [h1, h2, h3]
      · have h3 : a = b := by
          rw [UInt8.lt_iff_toNat_lt] at h1 h2
          exact UInt8.toNat_inj.1 (by omega)
        subst h3
        simp [h1]
theorem takeWhile_asc {un : List UInt8} : ∀ {R : List Rp}, KAsc Op.bytesLess R → R.takeWhile (fun r => un.isEmpty || Op.bytesLess r.1 un) = R.filter (fun r => un.isEmpty || Op.bytesLess r.1 un)
  | [], _ => rfl
  | r :: R, h => by
    have h2 := List.pairwise_cons.1 h
    rw [List.takeWhile_cons, List.filter_cons]
    by_cases hr : (un.isEmpty || Op.bytesLess r.1 un) = true
    · rw [if_pos hr, if_pos hr, takeWhile_asc h2.2]
    · rw [if_neg hr, if_neg hr, filter_none]
      intro z hz
      have h3 := h2.1 z hz
      cases h4 : (un.isEmpty || Op.bytesLess z.1 un) with
      | false => rfl
      | true =>
        exfalso
        apply hr
        rw [Bool.or_eq_true] at h4 ⊢
        exact h4.imp_right fun h5 => strictT.tr _ _ _ h3 h5
theorem restP_asc {R : List Rp} (h : KAsc Op.bytesLess R) (fr un : List UInt8) : restP R fr un = R.filter (fun r => !Op.bytesLess r.1 fr && (un.isEmpty || Op.bytesLess r.1 un)) := by
  unfold restP
  rw [takeWhile_asc (List.Pairwise.filter _ h), List.filter_filter]
  refine List.filter_congr fun z _ => ?_
  rw [Bool.and_comm]
/-- What is left behind the first ones. -/
theorem rest_next {R : List Rp} (h : KAsc Op.bytesLess R) {fr un : List UInt8} {a b : List Rp} {z : Rp} (he : restP R fr un = a ++ z :: b) : restP R (z.1 ++ [0]) un = b := by
  have hasc : KAsc Op.bytesLess (a ++ z :: b) := by
    rw [← he, restP_asc h]
    exact List.Pairwise.filter _ h
  have hz : z ∈ restP R fr un := by rw [he]; simp
  rw [restP_asc h] at he hz ⊢
  have hzf := (List.mem_filter.1 hz).2
  rw [Bool.and_eq_true] at hzf
  have e1 : R.filter (fun r => !Op.bytesLess r.1 (z.1 ++ [0]) && (un.isEmpty || Op.bytesLess r.1 un)) = (R.filter (fun r => !Op.bytesLess r.1 fr && (un.isEmpty || Op.bytesLess r.1 un))).filter (fun r => Op.bytesLess z.1 r.1) := by
    rw [List.filter_filter]
    refine List.filter_congr fun r _ => ?_
    rw [less_succ, Bool.not_not]
    cases h1 : Op.bytesLess z.1 r.1 with
    | false => simp
    | true =>
      have h2 : Op.bytesLess r.1 fr = false := by
        cases h3 : Op.bytesLess r.1 fr with
        | false => rfl
        | true =>
          have h4 := strictT.tr _ _ _ h1 h3
          have h5 := hzf.1
          rw [h4] at h5
          cases h5
      rw [h2]
      simp
  rw [e1, he, List.filter_append, List.filter_cons]
  unfold KAsc at hasc
  obtain ⟨h1, h2, h3⟩ := List.pairwise_append.1 hasc
  have h4 := List.pairwise_cons.1 h2
  rw [filter_none, if_neg (by rw [strictT.irr]; decide), filter_all, List.nil_append]
  · exact fun r hr => h4.1 r hr
  · intro r hr
    have h5 := h3 r hr z (List.mem_cons_self ..)
    cases h6 : Op.bytesLess z.1 r.1 with
    | false => rfl
    | true =>
      have h7 := strictT.tr _ _ _ h5 h6
      rw [strictT.irr] at h7
      cases h7
theorem rest_few (R : List Rp) (fr un : List UInt8) : (restP R fr un).length ≤ R.length := by
  unfold restP
  exact Nat.le_trans ((List.takeWhile_sublist _).length_le) (List.length_filter_le _ _)
theorem rest_mem {R : List Rp} {fr un : List UInt8} {z : Rp} (h : z ∈ restP R fr un) : z ∈ R := by
  unfold restP at h
  exact (List.mem_filter.1 (List.takeWhile_sublist _ |>.subset h)).1
end Go.Proofs.Ytbpgfmcnpifmdaa
end

section
namespace Go.Proofs.Ytbpgfmcnpifmdaa
open Go.RowKit Go Go.Sort Go.Deep
set_option linter.unusedVariables false
set_option maxRecDepth 20000

theorem text_adds (x y : List UInt8) (h : x.length + y.length ≤ 10000000) (W : World) : (Op.stringOp .add (text x) (text y)).run Try.prog W = .ok (.string (text (x ++ y))) W := by
  rw [run_string_add_sum W _ _ (by rw [text_size, text_size]; omega)]
  have : text x ++ text y = text (x ++ y) := by
    apply ByteArray.ext
    rw [ByteArray.data_append]
    simp [text]
  rw [this]
/-- Rows in a slice of the call's own, each with cells of the call's own. -/
structure LsIn (W : World) (B : Nat) (v : Value) (L : List Rw) : Prop where
  row : OwnL 2 30 Rw.arr W B v L
  own : ∀ r ∈ L, OwnC W B r.u r.cs
theorem LsIn.nil (W : World) (B : Nat) : LsIn W B (.slice none 0 0) [] := ⟨OwnL.nil _ _ _, fun r hr => (nomatch hr)⟩
theorem LsIn.kept {W W' : World} {B : Nat} {v : Value} {L : List Rw} (h : LsIn W B v L) (hb : Below W.heap.size W W') : LsIn W' B v L := ⟨h.row.kept hb, fun r hr => (h.own r hr).kept hb⟩
theorem LsIn.all {W : World} {B : Nat} {v : Value} {L : List Rw} (h : LsIn W B v L) : ∃ a c, v = .slice a L.length c ∧ RwsAt W a L.length c L := by
  obtain ⟨a, c, ev, hl⟩ := h.row.ls (z := Rw.zero) rw_size
  exact ⟨a, c, ev, hl, fun j hj => (h.own _ (rw_mem hj)).cls⟩
theorem LsIn.join {W W' : World} {B B2 : Nat} {v v' u : Value} {L M : List Rw} (h : LsIn W B v L) (hm : OwnRs W B2 u M) (hB : B ≤ B2) (hr : OwnL 2 30 Rw.arr W' B v' (L ++ M)) (hg : W.grownBy W' v.ownBlock) : LsIn W' B v' (L ++ M) := by
  refine ⟨hr, fun r hx => ?_⟩
  rcases List.mem_append.1 hx with hx | hx
  · exact (h.own r hx).turn0 h.row hg
  · exact ((hm.own r hx).1.mono hB).turn0 h.row hg
theorem wpList_append_rwsm {w : World} {ops : Array Oper} {rest : List Oper} {o : Oper} {ac : Act} {Q : Exit → Act → World → Prop} (hgd : o.guard = none) (os ox : Operand)
    (ho : o.op = .call { callee := .builtin .append, args := #[os, ox], argTypes := #[27, 27] })
    {base m : Nat} {u : Value} {l M : List Rw} (hs : ac.eval os = u) (hown : OwnL 2 30 Rw.arr w base u l) {a : Option Addr} {cap : Nat} (hM : M.length = m) (hx : ac.eval ox = .slice a m cap) (hm : RwsAt w a m cap M) (h63 : l.length + m ≤ 1000000000) (hbase : base ≤ w.heap.size)
    (h : ∀ v' w', OwnL 2 30 Rw.arr w' base v' (l ++ M) → w.grownBy w' u.ownBlock → wpList Try.prog ops Q rest (ac.put o.dst v') w') :
    wpList Try.prog ops Q (o :: rest) ac w := by
  subst hM
  exact wpList_append_rws hgd os ox ho hs hown hx hm h63 hbase h
theorem part_next {R : List Rp} (h : KAsc Op.bytesLess R) {fr un : List UInt8} {L : List Rw} {kk p : Nat} (hL : L.map Rw.pr = (restP R fr un).take kk) (hp : L.length = p + 1) :
    restP R ((L.getD p Rw.zero).k ++ [0]) un = (restP R fr un).drop kk ∧ ((restP R fr un).drop kk).length + 1 ≤ (restP R fr un).length ∧ (L.getD p Rw.zero).pr ∈ R := by
  have e1 : L = L.take p ++ [L.getD p Rw.zero] := by
    have h1 : L.take (p + 1) = L := List.take_of_length_le (by omega)
    rw [List.take_add_one, List.getElem?_eq_getElem (show p < L.length by omega)] at h1
    rw [List.getD_eq_getElem?_getD, List.getElem?_eq_getElem (show p < L.length by omega)]
    exact h1.symm
  have e2 : restP R fr un = (L.take p).map Rw.pr ++ (L.getD p Rw.zero).pr :: (restP R fr un).drop kk := by
    have h2 : L.map Rw.pr = (L.take p).map Rw.pr ++ [(L.getD p Rw.zero).pr] := by
      have h3 := congrArg (List.map Rw.pr) e1
      rw [List.map_append] at h3
      exact h3
    have h4 := (List.take_append_drop kk (restP R fr un)).symm
    rw [← hL, h2, List.append_assoc] at h4
    exact h4
  refine ⟨rest_next h e2, ?_, rest_mem (fr := fr) (un := un) (by rw [e2]; simp)⟩
  have h5 := congrArg List.length e2
  rw [List.length_append, List.length_cons] at h5
  omega
/-- A map of the call's own, behind the first acts. -/
def SetsIn (w wr : World) (q : Nat) (l : List Ac) (i : Nat) : Prop := ∃ (va : Value) (BA : List Blk), MapIn wr q va BA ∧ (rowsOf BA).map Rw.pr = actsR (l.take i) ∧ (∀ k, foot q va BA k → w.heap.size ≤ k) ∧ Below w.heap.size w wr
theorem SetsIn.start {w : World} (l : List Ac) : SetsIn w (w.alloc (.cells #[.bool true, .int .i64 0, .slice none 0 0] 57)) w.heap.size l 0 := by
  refine ⟨_, [], MapIn.new w, rfl, ?_, alloc_below w _⟩
  rintro k (h | h | ⟨b, hb, -⟩)
  · rw [h]; exact Nat.le_refl _
  · cases h
  · cases hb
theorem SetsIn.kept {w wr W : World} {q : Nat} {l : List Ac} {i : Nat} (h : SetsIn w wr q l i) (hb : Below wr.heap.size wr W) : SetsIn w W q l i := by
  obtain ⟨va, BA, h1, h2, h3, h4⟩ := h
  exact ⟨va, BA, h1.below hb, h2, h3, h4.trans (hb.mono h4.size)⟩
/-- One act more. -/
theorem SetsIn.set {w wr : World} {q : Nat} {l : List Ac} {n i : Nat} (h : SetsIn w wr q l i) (hn : l.length = n) (hi : i < n) (h1000 : n ≤ 1000) {x : Option Addr} {m cap : Nat} {cs : List Cl} {kk : List UInt8} (hl : Cls wr x m cap cs) (hm : m ≤ 1000000) (he : ((l.getD i Ac.zero).r.k, (l.getD i Ac.zero).cs) = (kk, cs)) :
    Calls Try.prog 17 #[.pointer (some ⟨q, 0, none⟩), .agg #[.string (text kk), .slice x m cap]] wr (fun e w' => (∃ v, e = .returned v) ∧ SetsIn w w' q l (i + 1) ∧ Below w.heap.size w w') := by
  obtain ⟨va, BA, h1, h2, h3, h4⟩ := h
  have hlen : (rowsOf BA).length ≤ 1000 := by
    have h5 := congrArg List.length h2
    rw [List.length_map] at h5
    rw [h5]
    exact Nat.le_trans (acts_few l n i hn) h1000
  refine (msetr_c h1 (by omega) hl hm kk).mono fun e w' ⟨he1, va', BA', g1, g2, g3, g4, g5⟩ => ?_
  have hb := h4.trans (g3.below h4.size h3)
  refine ⟨⟨_, he1⟩, ⟨va', BA', g1, ?_, fun k hk => (g4 k hk).elim (h3 k) (fun h => Nat.le_trans h4.size h), hb⟩, hb⟩
  rw [g2, h2, takeA_snoc (by omega), actsR_snoc, he]
set_option maxRecDepth 100000 in
set_option maxHeartbeats 12800000 in
theorem sparts_walk {w : World} {x : Option Addr} {n cap : Nat} {l : List Ac} (hl : ActsAt w x n cap l) (hs : ∀ q ∈ l, q.r.k.length ≤ 9223372036854775807 ∧ q.un.length ≤ 9223372036854775807 ∧ ∀ c ∈ q.r.cs, c.t.length ≤ 9223372036854775807) (un : List UInt8) (size : Int) :
    Calls Try.prog 5 #[.slice x n cap, .string (text un), .int .i64 size] w (Tells (.bool true) w) := by
  have hle := hl.1.le
  have hmax := hl.1.max
  have HLL := Lib.hid hl.1.len
  have HL := Lib.hid hl
  have HLI := Lib.hid (slight_c hl hs)
  have hsz : ((text un).size : Int) = (un.length : Int) := by rw [text_size]
  clear hl hs
  by_cases hun : 1000 < un.length
  · have hui : (1000 : Int) < (un.length : Int) := by omega
    go_enter Try.func5, Try.ntmps5
    go_wp2_with (first | (go_at_call 14; (with_reducible refine HLI.out.mono ?_); rintro e1 w1 ⟨b, rfl, hb, hb1⟩) | (go_at_call 15; (with_reducible refine (slives_c _).mono ?_); rintro e8 w8 ⟨rfl, hb8⟩))
    all_goals
      go_ret
      exact ⟨rfl, hb1.trans (hb8.mono hb1.size)⟩
  have hd1 : decide ((1000 : Int) < (un.length : Int)) = false := by rw [decide_eq_false_iff_not]; omega
  go_enter Try.func5, Try.ntmps5
  go_upto_region 3 with (first | (go_at_call 14; (with_reducible refine HLI.out.mono ?_); rintro e1 w1 ⟨b, rfl, hb, hb1⟩) | (go_at_call 15; (with_reducible refine (slives_c _).mono ?_); rintro e8 w8 ⟨rfl, hb8⟩))
  rotate_left
  · go_ret
    exact ⟨rfl, hb1.trans (hb8.mono hb1.size)⟩
  obtain ⟨h1000, hlight⟩ := hb (by simp_all)
  have HLT := Lib.hid hlight
  have HB1 := Lib.hid hb1
  clear hlight hb hb1 hsz hd1 HLI
  go_upto_region 6 with (go_at_call 13; (with_reducible refine (snew_c _).mono ?_); rintro e2 w2 ⟨rfl, rfl⟩)
  have hst := SetsIn.start (w := w1) l
  obtain ⟨W2, hW2⟩ : ∃ X, w1.alloc (.cells #[.bool true, .int .i64 0, .slice none 0 0] 57) = X := ⟨_, rfl⟩
  obtain ⟨q, hq⟩ : ∃ z, w1.heap.size = z := ⟨_, rfl⟩
  rw [hW2, hq] at hst
  simp only [hW2, hq]
  have HST := Lib.hid hst
  clear hst hW2 hq
  go_wp2
  go_loopw [29] (fun j wr => ∃ i, i ≤ n ∧ j = .int .i64 (i : Int) ∧ SetsIn w1 wr q l i) (fun j _ => n - (intOf j).toNat)
  case atStart => exact ⟨0, Nat.zero_le _, rfl, HST.out⟩
  case round =>
    clear HST
    obtain ⟨i, hi, rfl, hsi⟩ := hrel
    have hbw : Below w1.heap.size w1 wr := by obtain ⟨_, _, -, -, -, h⟩ := hsi; exact h
    have HSI := Lib.hid hsi
    clear hsi
    by_cases hlt : i < n
    · have hii : (i : Int) < (n : Int) := by omega
      have hic : (i : Int) < (cap : Int) := by omega
      obtain ⟨b, off, xa, ca, rfl, eu, hcl, hat⟩ := HL.out.place hlt
      have hbb := HB1.out.trans (hbw.mono HB1.out.size)
      obtain ⟨c0, c1, c2, c3, c4⟩ := hat _ hbb
      have hla := HLT.out (l.getD i Ac.zero) (by
        rw [List.getD_eq_getElem?_getD, List.getElem?_eq_getElem (by have := HLL.out; omega)]
        exact List.getElem_mem _)
      obtain ⟨A, hA⟩ : ∃ z, l.getD i Ac.zero = z := ⟨_, rfl⟩
      rw [hA] at c0 c1 c2 c3 c4 hla hcl eu
      obtain ⟨kd, ⟨rk, ru, cs⟩, au, an⟩ := A
      replace hla : cs.length ≤ 2000 := hla.2.2.1
      replace hcl : Cls w xa cs.length ca cs := hcl
      replace c0 : wr.cell? ⟨b, off + i * 5, none⟩ = some (.int .i64 kd) := c0
      replace c1 : wr.cell? ⟨b, off + i * 5 + 1, none⟩ = some (.string (text rk)) := c1
      replace c2 : wr.cell? ⟨b, off + i * 5 + 2, none⟩ = some (.slice xa cs.length ca) := c2
      replace c3 : wr.cell? ⟨b, off + i * 5 + 3, none⟩ = some (.string (text au)) := c3
      replace c4 : wr.cell? ⟨b, off + i * 5 + 4, none⟩ = some (.int .i64 an) := c4
      have he : ((l.getD i Ac.zero).r.k, (l.getD i Ac.zero).cs) = (rk, if kd = 4 then [(⟨0, 0, 0, 0, false, au, 0, 0⟩ : Cl)] else cs) := by rw [hA]; rfl
      obtain ⟨RC, hRC⟩ : ∃ z, (if kd = 4 then [(⟨0, 0, 0, 0, false, au, 0, 0⟩ : Cl)] else cs) = z := ⟨_, rfl⟩
      have hrl : RC.length ≤ 2000 := by
        rw [← hRC]
        split
        · show 1 ≤ 2000; omega
        · exact hla
      rw [hRC] at he
      have hz := heap_alloc_new wr (.cells #[.int .i64 kd, .string (text rk), .slice xa cs.length ca, .string (text au), .int .i64 an] 32)
      have hal := alloc_below wr (.cells #[.int .i64 kd, .string (text rk), .slice xa cs.length ca, .string (text au), .int .i64 an] 32)
      have HRW := Lib.hid (show Calls Try.prog 16 #[.agg #[.int .i64 kd, .string (text rk), .slice xa cs.length ca, .string (text au), .int .i64 an]] (wr.alloc (.cells #[.int .i64 kd, .string (text rk), .slice xa cs.length ca, .string (text au), .int .i64 an] 32)) _ from sarow_c (un := au) (hcl.below (hbb.trans (hal.mono hbb.size))) (by omega))
      rw [hRC] at HRW
      have HAL := Lib.hid hal
      have HE := Lib.hid he
      have HRL := Lib.hid hrl
      clear hA eu hat hcl hbb hal he hrl hRC hla
      go_upto_region 9 with (fail)
      obtain ⟨d0, d1, d2, d3, d4⟩ := actb_cells hz
      clear hz c0 c1 c2 c3 c4
      go_wp2_with (first | (go_at_call 16; (with_reducible refine HRW.out.mono ?_); rintro e3 w3 ⟨v3, rfl, ho3, hb3⟩; obtain ⟨a3, c3, rfl, hcl3⟩ := ho3.cls; have HSB := Lib.hid (SetsIn.set (HSI.out.kept (HAL.out.trans (hb3.mono HAL.out.size))) HLL.out hlt h1000 hcl3 (by have := HRL.out; omega) HE.out); clear ho3 hb3 hcl3) | (go_at_call 17; (with_reducible refine HSB.out.mono ?_); rintro e4 w4 ⟨⟨v4, rfl⟩, hs4, -⟩; have HS4 := Lib.hid hs4; clear hs4))
      go_roundw
      case rel => exact ⟨i + 1, by omega, by go_num, HS4.out⟩
      case measure => simp [intOf]; omega
    · obtain rfl : i = n := by omega
      obtain ⟨va, BA, hmi, hra, hfa, -⟩ := HSI.out
      rw [List.take_of_length_le (by have := HLL.out; omega)] at hra
      obtain ⟨tu, htu⟩ : ∃ tu : Nat, IntKind.u64.wrap size = (tu : Int) := ⟨(IntKind.u64.wrap size).toNat, by
        have : 0 ≤ IntKind.u64.wrap size := by simp [IntKind.wrap, IntKind.signed, IntKind.bits]; omega
        omega⟩
      clear hbw
      go_upto_region 12 with (fail)
      obtain ⟨kk, hkk⟩ : ∃ kk : Nat, (1 : Int) + (tu : Int) % 20 = (kk : Int) := ⟨1 + tu % 20, by omega⟩
      have hkb : 1 ≤ kk ∧ kk ≤ 20 := by omega
      obtain ⟨hk1, hk20⟩ := hkb
      simp only [hkk]
      obtain ⟨hasc, hfew, hall⟩ := actsR_facts i l (by have := HLL.out; omega)
      have hlr : (rowsOf BA).length ≤ 1000 := by
        have h5 := congrArg List.length hra
        rw [List.length_map] at h5
        omega
      have HMI := Lib.hid hmi
      have HRA := Lib.hid hra
      have HASC := Lib.hid hasc
      have HFEW := Lib.hid hfew
      have HALL := Lib.hid hall
      have HLR := Lib.hid hlr
      have HKK := Lib.hid (show ((kk : Int)).toNat = kk from Int.toNat_natCast kk)
      have HBW := Lib.hid (HB1.out.trans ((show Below w1.heap.size w1 wr from (by obtain ⟨_, _, -, -, -, h⟩ := HSI.out; exact h)).mono HB1.out.size))
      obtain ⟨R, hR⟩ : ∃ z, actsR l = z := ⟨_, rfl⟩
      rw [hR] at HRA HASC HFEW HALL
      clear hmi hra hasc hfew hall hlr hkk htu hfa HSI hR HB1
      go_wp2
      go_loopw [11, 12, 13] (fun a b j wz => ∃ (i2 : Nat) (f : List UInt8) (NN : List Rw), j = .int .i64 (i2 : Int) ∧ b = .string (text f) ∧ LsIn wz wr.heap.size a NN ∧ NN.map Rw.pr ++ restP R f un = restP R [] un ∧ (restP R f un).length + i2 ≤ i ∧ Below wr.heap.size wr wz) (fun _ _ j _ => i + 1 - (intOf j).toNat)
      case atStart => exact ⟨0, [], [], rfl, rfl, LsIn.nil _ _, rfl, Nat.le_trans (rest_few _ _ _) HFEW.out, Below.refl _ _⟩
      case round =>
        obtain ⟨i2, f, NN, rfl, rfl, hls, hnn, hrl, hbz⟩ := hrel
        have hi2 : (i2 : Int) ≤ (i : Int) := by omega
        have hsc := mscanp_c (HMI.out.below hbz) (by have := HLR.out; omega) f un (kk : Int)
        rw [HRA.out, scan_rest, HKK.out] at hsc
        have HSC := Lib.hid hsc
        have HLS := Lib.hid hls
        have HNN := Lib.hid hnn
        have HRL := Lib.hid hrl
        have HBZ := Lib.hid hbz
        clear hsc hls hnn hrl hbz
        go_upto_region 18 with (go_at_call 24; (with_reducible refine HSC.out.mono ?_); rintro e5 w5 ⟨v5, L, rfl, ho5, hl5, hb5⟩)
        have hLk : L.length ≤ kk := by
          have h5 := congrArg List.length hl5
          rw [List.length_map, List.length_take] at h5
          omega
        obtain ⟨a5, c5, rfl, hrw5⟩ := ho5.all
        obtain ⟨m, hm⟩ : ∃ z, L.length = z := ⟨_, rfl⟩
        rw [hm] at hrw5 hLk ⊢
        have hle5 := hrw5.1.le
        have hmax5 := hrw5.1.max
        have hkm : ¬ (kk : Int) < (m : Int) := by omega
        have HO5 := Lib.hid ho5
        have HL5 := Lib.hid hl5
        have HM := Lib.hid hm
        have HRW := Lib.hid hrw5
        have HB5 := Lib.hid (HBZ.out.trans (hb5.mono HBZ.out.size))
        have HSZ := Lib.hid hb5.size
        have HLS5 := Lib.hid (HLS.out.kept hb5)
        have HLT5 := Lib.hid HLS.out.row.lt
        clear ho5 hl5 hm hrw5 hb5 HLS HSC
        by_cases hm0 : m = 0
        · subst hm0
          have hnil : restP R f un = [] := by
            have h5 := congrArg List.length HL5.out
            rw [List.length_map, List.length_take, HM.out] at h5
            exact List.eq_nil_of_length_eq_zero (by omega)
          have hfin : NN.map Rw.pr = restP R [] un := by
            have h6 := HNN.out
            rw [hnil, List.append_nil] at h6
            exact h6
          have hsc : Calls Try.prog 24 #[.pointer (some ⟨q, 0, none⟩), .string ⟨#[]⟩, .string (text un), .int .i64 1000000] w5 (fun e w' => ∃ v L, e = .returned v ∧ OwnRs w' w5.heap.size v L ∧ L.map Rw.pr = scanP ((rowsOf BA).map Rw.pr) [] un 1000000 ∧ Below w5.heap.size w5 w') := mscanp_c (HMI.out.below HB5.out) (by have := HLR.out; omega) [] un 1000000
          rw [HRA.out, scan_rest, List.take_of_length_le (by have := rest_few R [] un; have := HFEW.out; show _ ≤ 1000000; omega)] at hsc
          have HSC := Lib.hid hsc
          obtain ⟨a6, c6, rfl, hls6⟩ := HLS5.out.all
          have HLS6 := Lib.hid hls6
          have HFIN := Lib.hid hfin
          clear hsc hls6 hfin hnil
          go_wp2_with (first
            | (go_at_call 24; (with_reducible refine HSC.out.mono ?_); rintro e6 w6 ⟨v6, L6, rfl, ho6, hl6, hb6⟩; obtain ⟨a6, c6, rfl, hrw6⟩ := ho6.all; have HRW6 := Lib.hid hrw6; have HL6 := Lib.hid hl6; have HB6 := Lib.hid hb6; clear ho6 hl6 hb6 hrw6)
            | (go_at_call 26; (with_reducible refine (rall2_c (HLS6.out.below HB6.out) HRW6.out).mono ?_); rintro e7 w7 ⟨rfl, hb7⟩; rw [show decide (NN.map Rw.pr = L6.map Rw.pr) = true from decide_eq_true (HFIN.out.trans HL6.out.symm)]; have HB7 := Lib.hid (HB6.out.trans (hb7.mono HB6.out.size)); clear hb7)
            | (go_at_call 15; (with_reducible refine (slives_c _).mono ?_); rintro e8 w8 ⟨rfl, hb8⟩; have HB8 := Lib.hid (HB7.out.trans (hb8.mono HB7.out.size)); clear hb8))
          go_ret
          exact ⟨rfl, (HBW.out.trans (HB5.out.mono HBW.out.size)).trans (HB8.out.mono (Nat.le_trans HBW.out.size HB5.out.size))⟩
        · obtain ⟨p, hp⟩ : ∃ p, m = p + 1 := ⟨m - 1, by omega⟩
          obtain ⟨hn1, hn2, hn3⟩ := part_next HASC.out HL5.out (by rw [HM.out]; exact hp)
          obtain ⟨hne, a9, ha9, hka, -⟩ := HALL.out _ hn3
          have hkl : (L.getD p Rw.zero).k.length ≤ 20000 := by
            have h6 := (HLT.out a9 ha9).1
            rw [← hka] at h6
            exact h6
          have hpw : IntKind.i64.wrap ((m : Int) - 1) = (p : Int) := by rw [IntKind.wrap_i64]; omega
          have hpw2 : IntKind.i64.wrap (p : Int) = (p : Int) := by rw [IntKind.wrap_i64]; omega
          have hpm : (p : Int) < (m : Int) := by omega
          have hpc : (p : Int) < (c5 : Int) := by omega
          have hNL : NN.length + m ≤ 1000000000 := by
            have h6 := congrArg List.length HNN.out
            rw [List.length_append, List.length_map] at h6
            have := rest_few R [] un
            have := HFEW.out
            omega
          obtain ⟨b5, off5, x9, n9, c9, rfl, -, -, -, hat⟩ := HRW.out.place (k := p) (by omega)
          have hb5 := And.intro (Nat.le_trans HBZ.out.size (HO5.out.row.lt b5 rfl).1) (HO5.out.row.lt b5 rfl).2
          have hold : ∀ k, u11.ownBlock = some k → k ≠ b5 := fun k hk e => by
            have h6 := HO5.out.row.lt b5 rfl
            have h7 := (HLT5.out k hk).2
            omega
          have hc0 := (hat _ (Below.refl _ _)).1
          obtain ⟨t, ht⟩ : ∃ z, (L.getD p Rw.zero).k = z := ⟨_, rfl⟩
          rw [ht] at hc0 hn1 hkl
          have hadd : ∀ W, (Op.stringOp .add (text t) ⟨#[0]⟩).run Try.prog W = .ok (.string (text (t ++ [0]))) W := fun W => text_adds t [0] (by simp; omega) W
          have HN1 := Lib.hid hn1
          have HN2 := Lib.hid hn2
          have HC0 := Lib.hid hc0
          have HOLD := Lib.hid hold
          have HBB := Lib.hid hb5
          have HNL := Lib.hid hNL
          obtain ⟨tt, htt⟩ : ∃ z, text t = z := ⟨_, rfl⟩
          rw [htt] at hadd HC0
          obtain ⟨t2, ht2⟩ : ∃ z, text (t ++ [0]) = z := ⟨_, rfl⟩
          rw [ht2] at hadd
          have HT2 := Lib.hid ht2
          clear hn1 hn2 hn3 hne ha9 hka hkl hNL hat hb5 hold hc0 ht htt ht2 hp hm0
          go_upto_region 22 with (at_builtin; refine wpList_append_rwsm rfl _ _ rfl rfl HLS5.out.row HM.out rfl HRW.out HNL.out HB5.out.size ?_; intro v' w' ho' hg'; have HJ := Lib.hid (HLS5.out.join HO5.out HBZ.out.size ho' hg'); have HBJ := Lib.hid (HB5.out.grown hg' HB5.out.size (fun z e => (HLS5.out.row.lt z e).1)); have hcell : w'.cell? ⟨b5, off5 + p * 2, none⟩ = some (.string tt) := (by have h6 := hg'.block b5 HBB.out.2 (fun e => HOLD.out b5 e.symm rfl); have h7 := HC0.out; simp only [World.cell?, h6]; exact h7); clear ho' hg')
          go_wp2
          go_roundw
          case rel => exact ⟨i2 + 1, _, _, by go_num, by rw [← HT2.out], HJ.out, by rw [HN1.out, List.map_append, HL5.out, List.append_assoc, List.take_append_drop]; exact HNN.out, by rw [HN1.out]; have := HN2.out; have := HRL.out; omega, HBJ.out⟩
          case measure => simp [intOf]; omega
end Go.Proofs.Ytbpgfmcnpifmdaa
end

