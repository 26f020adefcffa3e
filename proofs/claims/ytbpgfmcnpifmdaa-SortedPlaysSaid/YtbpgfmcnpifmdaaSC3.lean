/-
  Merged: OH OI OJ AB AC AF AK H1 AQ AS AW OK OL ON AY AZ.
-/
import Derived.Deep.QuietTactic
import Derived.StillTail
import Derived.Lib.QuietBelow
import Derived.Test.YtbpgfmcnpifmdaaRows
import Derived.OrdersIn
import Derived.TacticsIn
import Derived.RangeFuncNested
import Derived.RangeFuncBound
import Derived.RangeFuncCalls
import Derived.RangeFuncLeaves
import Derived.WalkKit
import Derived.Lib.Hide
import Derived.BigQuiet
import Derived.BigRegion
import Derived.Deep.Cut
import Derived.Deep.MidRow
import Derived.Great.BuildSlice
import Derived.Outline
import Derived.OwnWalk
import Derived.Laws.Rows
import Derived.ChangeKeysEq
import Derived.Laws.StructEq
import Derived.WalkSpells
import Derived.WalkLawsBesides
import Derived.Laws.CopyOwn
import Derived.WalkSmall
import Derived.Lib.LaidTab
import Derived.Deep.RegionWith
import Derived.Lib.MinMax
import Derived.WideShapes
import Derived.ChangeSame
import Derived.OpenShut
import Derived.Deep.Slices
import Derived.Deep.AppendSrc
import Derived.Lib.AppendZerosOnto
import Derived.Lib.SliceRun
import Derived.Lib.Walk
import Derived.Lib.OthersKept
import Derived.Laws.RangeAny
import Derived.Maps.OwnOps
import Derived.Maps.Views
import Derived.ChangeSlices
import Derived.ChangeArms
import Derived.Deep.DeepAppendWide
import Derived.Maps.AppendAt
import Derived.Shelf.Abstract
import Derived.OwnWalkIn
import Derived.TacticsInMore
import Derived.LoopNIn
import Derived.LoopIn
import Derived.Shelf.Spec.SlicesInsertGrow
import Derived.Test.YtbpgfmcnpifmdaaSC2

section
namespace Go.Proofs.Ytbpgfmcnpifmdaa
open Go.RowKit Go Go.Sort
set_option linter.unusedVariables false
set_option maxRecDepth 20000

theorem slice_any {α : Type} {sz : Nat} {arr : α → Array Value} {z : α} {W : World} {a : Option Addr} {n cap : Nat} {l : List α} (T E : TypeId) (hT : Try.prog.underlying T = some (.slice E)) (he : Try.prog.elem T = E) (hz : ∃ i0, Try.prog.info? E = some i0 ∧ i0.size = sz) (h : Ls sz arr z W a n cap l) {q : Nat} (hq : q ≤ n) :
    ∃ a', (∀ W', (Instr.slice T (.slice a n cap) (some (.int .i64 (q : Int))) none none).run Try.prog W' = .ok (.slice a' (n - q) (cap - q)) W') ∧
      (∀ W', (Instr.sliceAt T (.slice a n cap) (some (.int .i64 (q : Int))) none none).run Try.prog W' = .ok (.slice a' (n - q) (cap - q)) W') ∧ Ls sz arr z W a' (n - q) (cap - q) (l.drop q) := by
  have hle := h.le
  obtain ⟨i0, hi, hz1⟩ := hz
  have key : ∀ W', (Instr.slice T (.slice a n cap) (some (.int .i64 (q : Int))) none none).run Try.prog W' = .ok (.slice (if cap = q then a else a.map (fun x => x.add (q * sz))) (n - q) (cap - q)) W' := fun W' => by
    rw [run_slice_l W' T a n cap (by rw [hT, he]) .i64 (q : Int) (by omega) (by omega), he]
    have hsz : (sizeOf E).run Try.prog W' = .ok sz W' := by simp [sizeOf, typeInfo, hi, hz1, go_sem]
    rw [hsz]
    simp only [Result.andThen_ok, sliced, Int.toNat_natCast]
  refine ⟨_, key, fun W' => ?_, h.drop hq⟩
  rw [run_sliceAt_slice _ _ _ _ _ _ (by rw [hT, he])]
  exact key W'
/-- How a map's rows from a place on lie: block by block. -/
structure Segs (BS : List Blk) (at' i N : Nat) (RS : List Rw) (SEG PRE : Nat → List Rw) (IP : Nat → Nat) : Prop where
  n : N = BS.length - at'
  le : at' ≤ BS.length
  ip0 : IP 0 = i
  ips : ∀ p, IP (p + 1) = 0
  pre0 : PRE 0 = []
  pres : ∀ p, p < N → PRE (p + 1) = PRE p ++ SEG p
  pren : PRE N = RS
  pfx : ∀ p, p < N → PRE (p + 1) <+: RS
  seg : ∀ p, p < N → at' + p < BS.length ∧ IP p ≤ (BS.getD (at' + p) Blk.zero).rows.length ∧ SEG p = (BS.getD (at' + p) Blk.zero).rows.drop (IP p)
theorem segs_of {BS : List Blk} {key : List UInt8} {at' i : Nat} {is : Bool}
    (h : (at' = BS.length ∧ i = 0 ∧ is = false ∧ ∀ r ∈ rowsOf BS, Op.bytesLess r.k key = true) ∨
     ∃ A b C, BS = A ++ b :: C ∧ at' = A.length ∧ i < b.rows.length ∧ (∀ r ∈ rowsOf A ++ b.rows.take i, Op.bytesLess r.k key = true) ∧ (∀ r ∈ b.rows.drop i ++ rowsOf C, Op.bytesLess r.k key = false) ∧ is = ((b.rows.getD i Rw.zero).k == key)) :
    ∃ SEG PRE IP, Segs BS at' i (BS.length - at') ((rowsOf BS).filter (fun r => !Op.bytesLess r.k key)) SEG PRE IP := by
  rcases h with ⟨rfl, rfl, -, hall⟩ | ⟨A, b, C, rfl, rfl, hin, hlo, hhi, -⟩
  · refine ⟨fun _ => [], fun _ => [], fun _ => 0, rfl, Nat.le_refl _, rfl, fun _ => rfl, rfl, fun p hp => by omega, ?_, fun p hp => by omega, fun p hp => by omega⟩
    rw [filter_none fun r hr => by rw [hall r hr]; rfl]
  · have hRS : (rowsOf (A ++ b :: C)).filter (fun r => !Op.bytesLess r.k key) = b.rows.drop i ++ rowsOf C := by
      have e : rowsOf (A ++ b :: C) = (rowsOf A ++ b.rows.take i) ++ (b.rows.drop i ++ rowsOf C) := by
        rw [rowsOf_append, rowsOf_cons, List.append_assoc (rowsOf A), ← List.append_assoc (b.rows.take i) (b.rows.drop i), List.take_append_drop]
      rw [e, List.filter_append, filter_none (fun r hr => by rw [hlo r hr]; rfl), filter_all (fun r hr => by rw [hhi r hr]; rfl), List.nil_append]
    have hN : (A ++ b :: C).length - A.length = C.length + 1 := by simp
    have hget : ∀ p, p < C.length → (A ++ b :: C).getD (A.length + (p + 1)) Blk.zero = C.getD p Blk.zero := fun p hp => by
      rw [List.getD_eq_getElem?_getD, List.getElem?_append_right (by omega), show A.length + (p + 1) - A.length = p + 1 by omega, List.getElem?_cons_succ, List.getD_eq_getElem?_getD]
    have hget0 : (A ++ b :: C).getD (A.length + 0) Blk.zero = b := by
      rw [List.getD_eq_getElem?_getD, List.getElem?_append_right (by omega), Nat.add_zero, Nat.sub_self]; rfl
    refine ⟨fun p => match p with | 0 => b.rows.drop i | p + 1 => (C.getD p Blk.zero).rows, fun p => match p with | 0 => [] | p + 1 => b.rows.drop i ++ rowsOf (C.take p), fun p => match p with | 0 => i | p + 1 => 0, rfl, by simp, rfl, fun _ => rfl, rfl, fun p hp => ?_, ?_, fun p hp => ?_, fun p hp => ?_⟩
    · rw [hN] at hp
      cases p with
      | zero => simp [rowsOf]
      | succ p =>
        have hp' : p < C.length := by omega
        show b.rows.drop i ++ rowsOf (C.take (p + 1)) = b.rows.drop i ++ rowsOf (C.take p) ++ (C.getD p Blk.zero).rows
        rw [List.take_add_one, List.getElem?_eq_getElem hp', rowsOf_append, List.append_assoc, List.getD_eq_getElem?_getD, List.getElem?_eq_getElem hp']
        simp [rowsOf]
    · rw [hN, hRS]
      show b.rows.drop i ++ rowsOf (C.take C.length) = _
      rw [List.take_length]
    · rw [hRS]
      show b.rows.drop i ++ rowsOf (C.take p) <+: b.rows.drop i ++ rowsOf C
      refine (List.prefix_append_right_inj _).2 ⟨rowsOf (C.drop p), ?_⟩
      rw [← rowsOf_append, List.take_append_drop]
    · rw [hN] at hp
      cases p with
      | zero => exact ⟨by simp, by rw [hget0]; exact Nat.le_of_lt hin, by rw [hget0]⟩
      | succ p => exact ⟨by simp; omega, Nat.zero_le _, by rw [hget p (by omega)]; rfl⟩
/-- A row that came, with its cells. -/
def RwLies (W : World) (x : Rw) : Prop := ∃ a c, x.u = .slice a x.cs.length c ∧ Cls W a x.cs.length c x.cs ∧ x.cs.length ≤ 1000000
def rwenc (x : Rw) : Array Value := #[.agg #[.string (text x.k), x.u]]
set_option maxRecDepth 100000 in
set_option maxHeartbeats 6400000 in
theorem rows_tells {w0 w : World} {q : Nat} {vb : Value} {BS : List Blk} {key : List UInt8} (h : MapIn w0 q vb BS) (hf : (rowsOf BS).length ≤ 1000000) (hw : Below w0.heap.size w0 w) (N9 Bq Bf : Nat) (Bs : Nat → Prop)
    (hcq : w.heap[Bq]? = some (.cells #[.pointer (some ⟨q, 0, none⟩)] 23 (0, 0))) (hcf : w.heap[Bf]? = some (.cells #[.string (text key)] 9 (0, 0))) (hs1 : Bs Bq) (hs2 : Bs Bf) :
    SeqTellsW Fence.wide N9 Try.prog 4 100 #[.pointer (some ⟨Bq, 0, none⟩), .pointer (some ⟨Bf, 0, none⟩)] rwenc (KP w0.heap.size Bs) (fun pre x W => pre ++ [x] <+: (rowsOf BS).filter (fun r => !Op.bytesLess r.k key) ∧ RwLies W x) (fun _ => True)
      (fun xs _ => xs = (rowsOf BS).filter (fun r => !Op.bytesLess r.k key)) (fun _ _ => True) w := fun l9 J Jx W hW hJ hY h0 => by
  have hBq := (Array.getElem?_eq_some_iff.1 hcq).1
  have hBf := (Array.getElem?_eq_some_iff.1 hcf).1
  have hW0 : w0.heap.size ≤ W.heap.size := Nat.le_trans hw.size hW.size
  have hkW : KP w0.heap.size Bs w W := KP.of_below hw.size hW
  have hcell : W.cell? ⟨Bq, 0, none⟩ = some (.pointer (some ⟨q, 0, none⟩)) := by
    have := (hW.block Bq hBq).trans hcq
    simp [World.cell?, this]
  have hcell2 : W.cell? ⟨Bf, 0, none⟩ = some (.string (text key)) := by
    have := (hW.block Bf hBf).trans hcf
    simp [World.cell?, this]
  have HMF := Lib.hid (mfound_c (h.below (hw.trans (hW.mono hw.size))) hf key)
  have HM := Lib.hid (fun W' (hb : Below w0.heap.size w0 W') => map_cells (h.below hb).head)
  obtain ⟨ab, cb, hvb, hbk⟩ := h.blks hf
  subst hvb
  have HBK := Lib.hid hbk
  have HROW := Lib.hid h.body.row
  have HLEN := Lib.hid (fun b (hb : b ∈ BS) => Nat.le_trans (rows_le hb) hf)
  obtain ⟨RS, hRS⟩ : ∃ z, (rowsOf BS).filter (fun r => !Op.bytesLess r.k key) = z := ⟨_, rfl⟩
  rw [hRS] at hY
  rw [hRS]
  have HYY := Lib.hid @hY
  have HRS := Lib.hid hRS
  obtain ⟨nb, hnb⟩ : ∃ z, BS.length = z := ⟨_, rfl⟩
  rw [hnb] at HM HBK
  have HNB := Lib.hid hnb
  clear hY hRS h hf hbk hnb
  refine callsIn_of_wp Try.func100 rfl trivial ?_ rfl
  simp only [Try.ntmps100, List.size_toArray, List.length_cons, List.length_nil, Nat.reduceAdd, Nat.reduceSub, Array.replicate_succ, Array.replicate_zero, List.push_toArray, List.append_toArray, List.nil_append, List.cons_append]
  gi_wp2_with fail
  refine ⟨trivial, fun h => (by cases h), (callsIn_wide.2 HMF.out).mono ?_⟩
  rintro e w1 ⟨at', i, is, rfl, hb1, hfd⟩
  have hj1 := hJ [] W w1 none h0 (grown_none hb1) (fun r e => by cases e)
  have hk1 : KP w0.heap.size Bs w w1 := hkW.trans (KP.of_below hW0 hb1)
  have hs1w : W.heap.size ≤ w1.heap.size := hb1.size
  have hcell : w1.cell? ⟨Bq, 0, none⟩ = some (.pointer (some ⟨q, 0, none⟩)) := by simp [World.cell?, hk1.box Bq _ hs1 hcq]
  obtain ⟨m0, m1, m2, mf⟩ := HM.out w1 (hw.trans (hk1.below.mono (Nat.le_refl _)))
  obtain ⟨SEG, PRE, IP, hsg⟩ := segs_of hfd
  rw [HRS.out, HNB.out] at hsg
  have hatn : at' ≤ nb := by have := hsg.le; have := HNB.out; omega
  obtain ⟨n1, hn1⟩ : ∃ z, nb - at' = z := ⟨_, rfl⟩
  rw [hn1] at hsg
  have hbw1 := hw.trans (hk1.below.mono (Nat.le_refl _))
  obtain ⟨a1, hsl1, hsl1', hl1⟩ := slice_any 55 107 Try.underlying55 (by kernel_rfl) (by obtain ⟨i0, h1, -, h2, -⟩ := info_parts Try.infoBk; exact ⟨i0, h1, h2⟩) HBK.out.row (q := at') hatn
  have hle1 := hl1.le
  have hmax1 := hl1.max
  rw [hn1] at hsl1 hsl1' hl1 hle1
  obtain ⟨c1, hc1⟩ : ∃ z, cb - at' = z := ⟨_, rfl⟩
  rw [hc1] at hsl1 hsl1' hl1 hle1 hmax1
  have HSG := Lib.hid hsg
  have HL1 := Lib.hid hl1
  have HIP0 := Lib.hid hsg.ip0
  have hatz : (0 : Int) ≤ (at' : Int) := by omega
  clear hb1 HMF hfd hl1 hn1 hc1 hsg hcell2 h0 hkW hbw1
  gi_wp2_with fail
  clear hcell m0 m1 m2 mf hsl1 hsl1' hatz
  gi_loopw [5, 25] (fun ip p wr => ∃ k : Nat, p = .int .i64 (k : Int) ∧ k ≤ n1 ∧ ip = .int .i64 ((IP k : Nat) : Int) ∧ J (PRE k) wr ∧ KP w0.heap.size Bs w wr ∧ W.heap.size ≤ wr.heap.size) (fun _ p _ => n1 - placeOf p)
  case atStart => exact ⟨0, rfl, Nat.zero_le _, by rw [HIP0.out], by rw [HSG.out.pre0]; exact hj1, hk1, hs1w⟩
  case round =>
    clear hj1 hk1 hs1w
    obtain ⟨k, rfl, hk, rfl, hJk, hkk, hsk⟩ := hrel
    by_cases hlt : k < n1
    · have hki : (k : Int) < (n1 : Int) := by omega
      have hkc : (k : Int) < (c1 : Int) := by omega
      obtain ⟨hkb, hipl, hseg⟩ := HSG.out.seg k hlt
      have hpres := HSG.out.pres k hlt
      have hpfx := HSG.out.pfx k hlt
      have hips := HSG.out.ips k
      rw [HNB.out] at hkb
      obtain ⟨bo, offo, rfl, hat⟩ := HL1.out.at hlt
      have hbw := hw.trans (hkk.below.mono (Nat.le_refl _))
      obtain ⟨ax, cx, hvx, hp0, hpl, hlx⟩ := HBK.out.blk (at' + k) hkb
      have hgd : ((BS.map Blk.val).drop at').getD k undef = (BS.map Blk.val).getD (at' + k) undef := by
        rw [List.getD_eq_getElem?_getD, List.getElem?_drop, List.getD_eq_getElem?_getD]
      have hcc := hat wr hbw 0 (.slice ax ((BS.map Blk.rows).getD (at' + k) []).length cx) (by rw [hgd, hvx]; rfl)
      rw [Nat.mul_one, Nat.add_zero] at hcc
      have hbm : BS.getD (at' + k) Blk.zero ∈ BS := blk_mem (by have := HNB.out; omega)
      have hro := HROW.out _ hbm
      have hln := HLEN.out _ hbm
      have hlx2 := hlx.below hbw
      rw [getD_mapB Blk.rows [] (by have := HNB.out; omega)] at hcc hp0 hpl hlx hlx2
      obtain ⟨lr, hlr⟩ : ∃ z, (BS.getD (at' + k) Blk.zero).rows = z := ⟨_, rfl⟩
      rw [hlr] at hcc hp0 hpl hlx hlx2 hipl hseg hro hln
      obtain ⟨ml, hml⟩ : ∃ z, lr.length = z := ⟨_, rfl⟩
      rw [hml] at hcc hp0 hpl hlx hlx2 hipl hln
      obtain ⟨ip, hip⟩ : ∃ z, IP k = z := ⟨_, rfl⟩
      rw [hip] at hipl hseg ⊢
      obtain ⟨a2, hsl2, hsl2', hl2⟩ := slice_any 107 30 Try.underlying107 (by kernel_rfl) (by obtain ⟨i0, h1, -, h2, -⟩ := info_parts Try.infoRw; exact ⟨i0, h1, h2⟩) hlx (q := ip) hipl
      have hle2 := hl2.le
      have hmax2 := hl2.max
      obtain ⟨n2, hn2⟩ : ∃ z, ml - ip = z := ⟨_, rfl⟩
      obtain ⟨c2, hc2⟩ : ∃ z, cx - ip = z := ⟨_, rfl⟩
      rw [hn2, hc2] at hsl2 hsl2' hl2 hle2
      rw [hc2] at hmax2
      rw [← hseg] at hl2
      have hsgl : (SEG k).length = n2 := hl2.len
      have HL2 := Lib.hid hl2
      have HRO := Lib.hid (fun x (hx : x ∈ SEG k) => hro x (by rw [hseg] at hx; exact List.mem_of_mem_drop hx))
      have HPRS := Lib.hid hpres
      have HPFX := Lib.hid hpfx
      have HIPS := Lib.hid hips
      have HSGL := Lib.hid hsgl
      have HMLL := Lib.hid hlx2.le
      have hn2s : n2 ≤ 1000000 := by omega
      have HK := Lib.hid hkk
      have HJ0 := Lib.hid hJk
      have HSK := Lib.hid hsk
      clear hat hgd hvx hlx hlx2 hl2 hro hseg hpres hpfx hips hsgl hlr hml hip hn2 hc2 hkk hJk hsk hp0 hbm hbw hkb hln
      gi_wp2_with fail
      clear hcc hsl2 hsl2'
      gi_loopw [33] (fun p2 wr2 => ∃ j : Nat, p2 = .int .i64 (j : Int) ∧ j ≤ n2 ∧ J (PRE k ++ (SEG k).take j) wr2 ∧ KP w0.heap.size Bs w wr2 ∧ W.heap.size ≤ wr2.heap.size) (fun p2 _ => n2 - placeOf p2)
      case atStart => exact ⟨0, rfl, Nat.zero_le _, by rw [List.take_zero, List.append_nil]; exact HJ0.out, HK.out, HSK.out⟩
      case round =>
        clear HJ0 HK HSK
        obtain ⟨j, rfl, hj, hJj, hkj, hsj⟩ := hrel
        by_cases hjl : j < n2
        · have hji : (j : Int) < (n2 : Int) := by omega
          have hjc : (j : Int) < (c2 : Int) := by omega
          obtain ⟨b2, off2, rfl, hat2⟩ := HL2.out.at hjl
          have hbw := hw.trans (hkj.below.mono (Nat.le_refl _))
          have d0 : wr.cell? ⟨b2, off2 + j * 2, none⟩ = some (.string (text ((SEG k).getD j Rw.zero).k)) := hat2 _ hbw 0 _ rfl
          have d1 : wr.cell? ⟨b2, off2 + j * 2 + 1, none⟩ = some ((SEG k).getD j Rw.zero).u := hat2 _ hbw 1 _ rfl
          have hxm : (SEG k).getD j Rw.zero ∈ SEG k := rw_mem (by have := HSGL.out; omega)
          have htk : (SEG k).take (j + 1) = (SEG k).take j ++ [(SEG k).getD j Rw.zero] := by
            rw [take_last (by omega) (by have := HSGL.out; omega), Nat.add_sub_cancel]
          have hrx := HRO.out _ hxm
          obtain ⟨x, hx⟩ : ∃ z, (SEG k).getD j Rw.zero = z := ⟨_, rfl⟩
          rw [hx] at d0 d1 hrx htk
          obtain ⟨xk, xu, xc⟩ := x
          simp only at d0 d1 hrx
          obtain ⟨aq, cq, eu, hcl⟩ := hrx.1.cls
          subst eu
          have HTK := Lib.hid htk
          have hal := alloc_below wr (.cells #[.string (text xk), .slice aq xc.length cq] 30)
          have hnew := heap_alloc_new wr (.cells #[.string (text xk), .slice aq xc.length cq] 30)
          obtain ⟨r0, r1, -⟩ := row_cells hnew
          have HLY := Lib.hid (show RwLies (wr.alloc (.cells #[.string (text xk), .slice aq xc.length cq] 30)) ⟨xk, .slice aq xc.length cq, xc⟩ from ⟨aq, cq, rfl, hcl.below (hbw.trans (hal.mono hbw.size)), hrx.2⟩)
          have HK3 := Lib.hid (hkj.trans (KP.of_below (Nat.le_trans hW0 hsj) hal))
          have HS3 := Lib.hid (Nat.le_trans hsj hal.size)
          have HJ3 := Lib.hid (hJ _ _ _ none hJj (grown_none hal) (fun r e => by cases e))
          have HPX := Lib.hid (show PRE k ++ (SEG k).take j ++ [(⟨xk, .slice aq xc.length cq, xc⟩ : Rw)] <+: RS from by
            rw [List.append_assoc, ← HTK.out]
            refine List.IsPrefix.trans ?_ HPFX.out
            rw [HPRS.out]
            exact (List.prefix_append_right_inj _).2 (List.take_prefix _ _))
          obtain ⟨fn, tmps, assign, body, hy, hR⟩ := HYY.out (PRE k ++ (SEG k).take j) ⟨xk, .slice aq xc.length cq, xc⟩ _ HJ3.out ⟨HPX.out, HLY.out⟩
          unfold rwenc at hy
          simp only at hy
          clear hat2 hx hrx htk hcl hal hnew hbw hJj hkj hsj hxm
          gi_wp2_with fail
          refine ⟨fun h => (by cases h), hR.mono ?_⟩
          rintro e9 W2 (⟨rfl, hJ2, hk2, -⟩ | ⟨rfl, hJx2, hk2⟩)
          · have HK7 := Lib.hid (HK3.out.trans hk2)
            have HS7 := Lib.hid (Nat.le_trans HS3.out hk2.below.size)
            have HJ7 := Lib.hid (show J (PRE k ++ (SEG k).take (j + 1)) W2 from by rw [HTK.out, ← List.append_assoc]; exact hJ2)
            clear hy hR hJ2 hk2 r0 r1 d0 d1
            gi_wp2
            go_roundw
            case rel => exact ⟨j + 1, by go_num, by omega, HJ7.out, HK7.out, HS7.out⟩
            case measure => simp [placeOf]; omega
          · gi_wp2
            refine bodyPost_ret (results_none rfl _ _ _) rfl ?_
            exact ⟨⟨_, rfl⟩, .inr ⟨_, trivial, hJx2⟩⟩
        · obtain rfl : j = n2 := by omega
          have HJ8 := Lib.hid (show J (PRE (k + 1)) _ from by rw [HPRS.out, ← List.take_of_length_le (l := SEG k) (i := j) (by have := HSGL.out; omega)]; exact hJj)
          have HK8 := Lib.hid hkj
          have HS8 := Lib.hid hsj
          clear hJj hkj hsj
          gi_wp2
          go_roundw
          case rel => exact ⟨k + 1, by go_num, by omega, by rw [HIPS.out]; rfl, HJ8.out, HK8.out, HS8.out⟩
          case measure => simp [placeOf]; omega
    · obtain rfl : k = n1 := by omega
      have hfin := HSG.out.pren
      gi_wp2
      go_end0
      exact ⟨⟨_, rfl⟩, .inl ⟨PRE k, hfin, hJk⟩⟩
end Go.Proofs.Ytbpgfmcnpifmdaa
end

section
namespace Go.Proofs.Ytbpgfmcnpifmdaa
open Go.RowKit Go Go.Sort
set_option linter.unusedVariables false
set_option maxRecDepth 20000

/-- Rows of a call's own, each with cells of its own. -/
structure OwnRs (W : World) (B : Nat) (v : Value) (L : List Rw) : Prop where
  row : OwnL 2 30 Rw.arr W B v L
  own : ∀ r ∈ L, OwnC W B r.u r.cs ∧ r.cs.length ≤ 1000000
  apart : L.Pairwise (fun a b => ∀ q, a.u.ownBlock = some q → b.u.ownBlock ≠ some q)
theorem OwnRs.nil (W : World) (B : Nat) : OwnRs W B (.slice none 0 0) [] := ⟨OwnL.nil _ _ _, fun r hr => (nomatch hr), List.Pairwise.nil⟩
theorem OwnRs.kept {W W' : World} {B : Nat} {v : Value} {L : List Rw} (h : OwnRs W B v L) (hb : Below W.heap.size W W') : OwnRs W' B v L := ⟨h.row.kept hb, fun r hr => ⟨(h.own r hr).1.kept hb, (h.own r hr).2⟩, h.apart⟩
theorem OwnRs.of_keep {X Y : World} {B : Nat} {v : Value} {L : List Rw} (h : OwnRs X B v L) (hk : ∀ (q : Nat) (cs : Array Value) (fr : Nat × Nat), (X.heap[q]? = some (.cells cs 30 fr) ∨ X.heap[q]? = some (.cells cs 103 fr)) → Y.heap[q]? = X.heap[q]?) : OwnRs Y B v L := by
  refine ⟨h.row.of_block fun q hq => ?_, fun r hr => ⟨(h.own r hr).1.of_block fun q hq => ?_, (h.own r hr).2⟩, h.apart⟩
  · obtain ⟨hlen, ⟨ev, hn⟩ | ⟨g, cap, cur, ev, hB, hg, -⟩⟩ := h.row
    · subst ev; cases hq
    · subst ev
      obtain rfl : g = q := Option.some.inj hq
      exact hk g cur _ (.inl hg)
  · obtain ⟨cur, fr, hc⟩ := own_block (h.own r hr).1 hq
    exact hk q cur fr (.inr hc)
theorem OwnRs.lt {W : World} {B : Nat} {v : Value} {L : List Rw} (h : OwnRs W B v L) : ∀ r ∈ L, ∀ q, r.u.ownBlock = some q → q < W.heap.size := fun r hr q hq => ((h.own r hr).1.lt q hq).2
theorem OwnRs.all {W : World} {B : Nat} {v : Value} {L : List Rw} (h : OwnRs W B v L) : ∃ a c, v = .slice a L.length c ∧ RwsAt W a L.length c L := by
  obtain ⟨a, c, ev, hl⟩ := h.row.ls (z := Rw.zero) rw_size
  exact ⟨a, c, ev, hl, fun j hj => (h.own _ (rw_mem hj)).1.cls⟩
/-- One row more, whose cells are younger than all. -/
theorem OwnRs.push {W W' : World} {B B2 : Nat} {v v' : Value} {L : List Rw} {r : Rw} (h : OwnRs W B v L) (hB : B ≤ B2) (hlt : ∀ x ∈ L, ∀ q, x.u.ownBlock = some q → q < B2) (hc : OwnC W B2 r.u r.cs) (hn : r.cs.length ≤ 1000000)
    (hl : OwnL 2 30 Rw.arr W' B v' (L ++ [r])) (hg : W.grownBy W' v.ownBlock) : OwnRs W' B v' (L ++ [r]) := by
  refine ⟨hl, fun x hx => ?_, List.pairwise_append.2 ⟨h.apart, List.pairwise_singleton _ _, fun a ha b hb q hq e => ?_⟩⟩
  · rcases List.mem_append.1 hx with hx | hx
    · exact ⟨(h.own x hx).1.turn0 h.row hg, (h.own x hx).2⟩
    · rw [List.mem_singleton] at hx
      subst hx
      exact ⟨(hc.turn0 h.row hg).mono hB, hn⟩
  · rw [List.mem_singleton] at hb
    subst hb
    have h1 := hlt a ha q hq
    have h2 := (hc.lt q e).1
    omega
theorem wpListIn_append_rwg {F : Fence} {n' : Nat} {w : World} {ops : Array Oper} {rest : List Oper} {o : Oper} {ac : Act} {Q : Exit → Act → World → Prop} (hgd : o.guard = none) (os ox : Operand)
    (ho : o.op = .call { callee := .builtin .append, args := #[os, ox], argTypes := #[27, 27] })
    {base gv : Nat} {u : Value} {l : List Rw} (hs : ac.eval os = u) (hown : OwnL 2 30 Rw.arr w base u l) (k : List UInt8) {tk : ByteArray} (htk : text k = tk) (a9 : Option Addr) (n9 c9 : Nat) (cs : List Cl) {e9 : TypeId}
    (hx : ac.eval ox = .slice (some ⟨gv, 0, none⟩) 1 1) (hgv : w.heap[gv]? = some (.cells #[.string tk, .slice a9 n9 c9] e9 (0, 0))) (h63 : l.length ≤ 1000000000) (hbase : base ≤ w.heap.size)
    (h : ∀ v' w', OwnL 2 30 Rw.arr w' base v' (l ++ [⟨k, .slice a9 n9 c9, cs⟩]) → w.grownBy w' u.ownBlock → wpListIn F n' Try.prog ops Q rest (ac.put o.dst v') w') :
    wpListIn F n' Try.prog ops Q (o :: rest) ac w := by
  obtain ⟨i0, hi, hz0, hz1, hz2⟩ := info_parts Try.infoRw
  refine wpListIn_append_own (P := Try.prog) w hgd os ox 27 ho base 30 i0 _ 2 40 Try.underlying27 hi hz0 hz1 hz2 rfl (by decide) u l.length (lCells Rw.arr l) hs hown
    ⟨gv, 0, none⟩ 1 1 [.string tk, .slice a9 n9 c9] hx rfl ?_ ?_ (by unfold maxLen; omega) (by omega) hbase ?_
  · intro j v hj
    rw [addr_add, Nat.zero_add, cell_of_row _ _ j #[.string tk, .slice a9 n9 c9] e9 (0, 0) hgv]
    rw [← hj]; simp
  · intro v hv
    simp only [List.mem_cons, List.not_mem_nil, or_false] at hv
    rcases hv with rfl | rfl <;> rfl
  · intro v' w' h2 h3 _
    refine h v' w' ?_ h3
    subst htk
    unfold OwnL
    rw [List.length_append, lCells_append]
    exact h2
/-- What a scan chooses. -/
def untilS (un : List UInt8) (r : Rw) : Bool := un.isEmpty || Op.bytesLess r.k un
def takeS (RS : List Rw) (un : List UInt8) (n : Int) : List Rw := (RS.takeWhile (untilS un)).take n.toNat
theorem take_pre {RS pre : List Rw} {p : Rw → Bool} (h : pre <+: RS) (hp : ∀ r ∈ pre, p r = true) : pre <+: RS.takeWhile p := by
  obtain ⟨t, rfl⟩ := h
  rw [List.takeWhile_append_of_pos hp]
  exact ⟨_, rfl⟩
theorem take_full {RS pre : List Rw} {un : List UInt8} {n : Int} (h : pre <+: RS) (hp : ∀ r ∈ pre, untilS un r = true) (hl : pre.length = n.toNat) : takeS RS un n = pre := by
  unfold takeS
  rw [← hl]
  exact (List.prefix_iff_eq_take.1 (take_pre h hp)).symm
theorem take_end {RS pre : List Rw} {x : Rw} {un : List UInt8} {n : Int} (h : pre ++ [x] <+: RS) (hp : ∀ r ∈ pre, untilS un r = true) (hx : untilS un x = false) (hl : pre.length ≤ n.toNat) : takeS RS un n = pre := by
  obtain ⟨t, rfl⟩ := h
  unfold takeS
  rw [List.append_assoc, List.takeWhile_append_of_pos hp, List.singleton_append, List.takeWhile_cons, hx]
  simp only [Bool.false_eq_true, if_false, List.append_nil]
  exact List.take_of_length_le hl
theorem take_all {RS : List Rw} {un : List UInt8} {n : Int} (hp : ∀ r ∈ RS, untilS un r = true) (hl : RS.length ≤ n.toNat) : takeS RS un n = RS := by
  unfold takeS
  have e := List.takeWhile_append_of_pos (l₂ := []) hp
  rw [List.append_nil, List.takeWhile_nil, List.append_nil] at e
  rw [e]
  exact List.take_of_length_le hl
theorem below_turnS {n₀ B : Nat} {w W W' : World} {row : Option Nat} (hg : W.grownBy W' row) (hr : ∀ r, row = some r → B ≤ r ∧ ∃ o : Obj, W.heap[r]? = some o ∧ o.isCells = false) (h1 : n₀ ≤ B) (h2 : n₀ ≤ W.heap.size) (h : Below n₀ w W) : Below n₀ w W' :=
  h.grown hg h2 (fun k e => Nat.le_trans h1 (hr k e).1)
/-- Between two rounds. -/
def SnI (RS : List Rw) (un : List UInt8) (n : Int) (n₀ B B9 : Nat) (w : World) (xs : List Rw) (W : World) : Prop :=
  ∃ v L, OwnRs W B9 v L ∧ L.map Rw.pr = xs.map Rw.pr ∧ W.heap[B]? = some (.cells #[.string (text un)] 9 (0, 0)) ∧ W.heap[B + 1]? = some (.cells #[.int .i64 n] 3 (0, 0)) ∧ W.heap[B + 1 + 1]? = some (.cells #[v] 27 (0, 0)) ∧ xs <+: RS ∧ (∀ r ∈ xs, untilS un r = true) ∧ xs.length ≤ n.toNat ∧ Below n₀ w W ∧ B9 ≤ W.heap.size
theorem SnI.own {RS : List Rw} {un : List UInt8} {n : Int} {n₀ B B9 B8 : Nat} {w : World} (h1 : n₀ ≤ B8) (h2 : n₀ ≤ B9) : OwnT B8 4 (SnI RS un n n₀ B B9 w) := by
  rintro xs X Y row ⟨v, L, ho, he, ha, hb, hc, hp, hu, hn, hw, hs⟩ hg hr
  exact ⟨v, L, ho.of_keep fun q cs fr h => by
      rcases h with h | h
      · exact (turn_keep hg hr h (by decide)).trans h.symm
      · exact (turn_keep hg hr h (by decide)).trans h.symm, he, turn_keep hg hr ha (by decide), turn_keep hg hr hb (by decide), turn_keep hg hr hc (by decide), hp, hu, hn, turn_below hg hr h1 (Nat.le_trans h2 hs) hw, Nat.le_trans hs hg.size⟩
def SnX (RS : List Rw) (un : List UInt8) (n : Int) (n₀ B B9 : Nat) (w : World) (c : Code) (xs : List Rw) (W : World) : Prop :=
  c = .exit 0 ∧ ∃ v L, OwnRs W B9 v L ∧ W.heap[B + 1 + 1]? = some (.cells #[v] 27 (0, 0)) ∧ L.map Rw.pr = (takeS RS un n).map Rw.pr ∧ L.length ≤ RS.length ∧ Below n₀ w W ∧ B9 ≤ W.heap.size
theorem SnX.own {RS : List Rw} {un : List UInt8} {n : Int} {n₀ B B9 B8 : Nat} {w : World} (c : Code) (h1 : n₀ ≤ B8) (h2 : n₀ ≤ B9) : OwnFrom B8 (SnX RS un n n₀ B B9 w c) := by
  rintro xs X Y row ⟨hc, v, L, ho, hb, hp, hl, hw, hs⟩ hg hr
  have hr' := fun r e => (hr r e).2
  exact ⟨hc, v, L, ho.of_keep fun q cs fr h => by
      rcases h with h | h
      · exact grownBy_keeps_cells hg hr' h rfl
      · exact grownBy_keeps_cells hg hr' h rfl, (grownBy_keeps_cells hg hr' hb rfl).trans hb, hp, hl, below_turnS hg hr h1 (Nat.le_trans h2 hs) hw, Nat.le_trans hs hg.size⟩
theorem RwLies.kept {W W' : World} {x : Rw} (h : RwLies W x) (hb : Below W.heap.size W W') : RwLies W' x := by
  obtain ⟨a, c, e, hc, hn⟩ := h
  exact ⟨a, c, e, hc.below hb, hn⟩
theorem RwLies.of_cells {W W' : World} {x : Rw} (h : RwLies W x) (hk : ∀ (q : Nat) (cs : Array Value) (t : TypeId) (fr : Nat × Nat), W.heap[q]? = some (.cells cs t fr) → W'.heap[q]? = W.heap[q]?) : RwLies W' x := by
  obtain ⟨a, c, e, hc, hn⟩ := h
  refine ⟨a, c, e, hc.of_block fun hp q off ea => ?_, hn⟩
  subst ea
  obtain ⟨b9, off9, e9, hat⟩ := hc.at hp
  injection e9 with e9
  injection e9 with e91 e92
  subst e91 e92
  have hcell := (hat W (Below.refl _ _)).1
  have hex : ∃ cs t fr, W.heap[q]? = some (.cells cs t fr) := by
    cases ho : W.heap[q]? with
    | none => simp [World.cell?, ho] at hcell
    | some o =>
      cases o with
      | cells cs t fr => exact ⟨cs, t, fr, rfl⟩
      | _ => simp [World.cell?, ho] at hcell
  obtain ⟨cs, t, fr, ho⟩ := hex
  exact hk q cs t fr ho
def SnA (RS : List Rw) (B : Nat) (tm : Nat → Rw → Array Value) (z : Rw) (a' : Act) (W : World) : Prop := ∃ g a0 q c0, W.heap[g]? = some (.cells #[.string (text z.k), z.u] 30 (0, 0)) ∧ W.heap[B + 1 + 1]? = some (.cells #[.slice a0 q c0] 27 (0, 0)) ∧ RS.take q ++ [z] <+: RS ∧ RwLies W z ∧ a' = { tmps := tm g z, defers := [] }
theorem SnA.own {RS : List Rw} {B : Nat} {tm : Nat → Rw → Array Value} {B8 : Nat} (z : Rw) (a' : Act) : OwnFrom B8 (fun (_ : Unit) W => SnA RS B tm z a' W) := by
  rintro _ X Y row ⟨g, a0, q, c0, hb, hc, hp, hf, e⟩ hg hr
  have hr' := fun r e => (hr r e).2
  exact ⟨g, a0, q, c0, grownBy_keeps_cells hg hr' hb rfl |>.trans hb, grownBy_keeps_cells hg hr' hc rfl |>.trans hc, hp, hf.of_cells fun q cs t fr h => grownBy_keeps_cells hg hr' h rfl, e⟩
/-- What Scan tells. -/
def ScanRs (R : List Rw) (w : World) (e : Ending) (w' : World) : Prop := ∃ v L, e = .returned v ∧ OwnRs w' w.heap.size v L ∧ L.map Rw.pr = R.map Rw.pr ∧ Below w.heap.size w w'
set_option maxRecDepth 100000 in
theorem mscan_nil {w : World} (s1 s2 : ByteArray) (n : Int) : Calls Try.prog 24 #[.pointer none, .string s1, .string s2, .int .i64 n] w (fun e w' => e = .returned (.slice none 0 0) ∧ Below w.heap.size w w') := by
  have HB := Lib.hid ((alloc_below w (.cells #[.string s2] 9)).alloc (by simp) (.cells #[.int .i64 n] 3))
  go_enter Try.func24, Try.ntmps24
  go_wp2_with (go_at_call 60; (with_reducible refine (smade_nil _).mono ?_); rintro e9 w9 ⟨rfl, rfl⟩)
  go_ret
  exact ⟨rfl, HB.out⟩
set_option maxRecDepth 100000 in
theorem mscan_un {w : World} {q : Nat} (hq : w.cell? ⟨q, 0, none⟩ = some (.bool false)) (s1 s2 : ByteArray) (n : Int) : Calls Try.prog 24 #[.pointer (some ⟨q, 0, none⟩), .string s1, .string s2, .int .i64 n] w (fun e w' => e = .returned (.slice none 0 0) ∧ Below w.heap.size w w') := by
  have hql : q < w.heap.size := World.block_lt_of_cell? w ⟨q, 0, none⟩ hq
  have hb := (alloc_below w (.cells #[.string s2] 9)).alloc (by simp) (.cells #[.int .i64 n] 3)
  have hq2 := (hb.cell (p := ⟨q, 0, none⟩) hql).trans hq
  have HB := Lib.hid hb
  clear hb hq
  go_enter Try.func24, Try.ntmps24
  go_wp2_with (go_at_call 60; (with_reducible refine (smade_c hq2).mono ?_); rintro e9 w9 ⟨rfl, rfl⟩)
  go_ret
  exact ⟨rfl, HB.out⟩
set_option maxRecDepth 100000 in
theorem mrows_c {w : World} {q : Nat} (s : ByteArray) : Calls Try.prog 66 #[.pointer (some ⟨q, 0, none⟩), .string s] w (fun e w' => e = .returned (.func (.func 100) #[] #[.pointer (some ⟨w.heap.size, 0, none⟩), .pointer (some ⟨w.heap.size + 1, 0, none⟩)]) ∧ w' = (w.alloc (.cells #[.pointer (some ⟨q, 0, none⟩)] 23)).alloc (.cells #[.string s] 9)) := by
  go_enter Try.func66, Try.ntmps66
  go_wp2
  go_ret
  exact ⟨rfl, rfl⟩
attribute [local go_sem] Oper.semAt_some
set_option maxRecDepth 100000 in
set_option maxHeartbeats 6400000 in
theorem mscanr_c {w : World} {q : Nat} {vb : Value} {BS : List Blk} (h : MapIn w q vb BS) (hf : (rowsOf BS).length ≤ 1000000) (fr un : List UInt8) (n : Int) :
    Calls Try.prog 24 #[.pointer (some ⟨q, 0, none⟩), .string (text fr), .string (text un), .int .i64 n] w (ScanRs (takeS ((rowsOf BS).filter (fun r => !Op.bytesLess r.k fr)) un n) w) := by
  have hvl : ((rowsOf BS).filter (fun r => !Op.bytesLess r.k fr)).length ≤ 1000000 := Nat.le_trans (List.length_filter_le _ _) hf
  obtain ⟨RS, hRS⟩ : ∃ z, (rowsOf BS).filter (fun r => !Op.bytesLess r.k fr) = z := ⟨_, rfl⟩
  rw [hRS] at hvl
  have HVL := Lib.hid hvl
  have HRS := Lib.hid hRS
  clear hvl
  have hb1 := ((alloc_below w (.cells #[.string (text un)] 9)).alloc (by simp) (.cells #[.int .i64 n] 3)).alloc (by simp; omega) (.cells #[.slice none 0 0] 27)
  have hb0 := (alloc_below w (.cells #[.string (text un)] 9)).alloc (by simp) (.cells #[.int .i64 n] 3)
  have e2 := heap_alloc_new ((w.alloc (.cells #[.string (text un)] 9)).alloc (.cells #[.int .i64 n] 3)) (.cells #[.slice none 0 0] 27)
  have e1 := heap_below (heap_alloc_new (w.alloc (.cells #[.string (text un)] 9)) (.cells #[.int .i64 n] 3)) (alloc_below _ (.cells #[.slice none 0 0] 27))
  have e0 := heap_below (heap_below (heap_alloc_new w (.cells #[.string (text un)] 9)) (alloc_below _ (.cells #[.int .i64 n] 3))) (alloc_below _ (.cells #[.slice none 0 0] 27))
  have hsz : (((w.alloc (.cells #[.string (text un)] 9)).alloc (.cells #[.int .i64 n] 3)).alloc (.cells #[.slice none 0 0] 27)).heap.size = w.heap.size + 1 + 1 + 1 := by simp
  simp only [World.size_alloc] at e1 e2
  have hmd := smade_c (map_cells (h.below hb0).head).1
  rw [hRS]
  refine (callsIn_wide (n := 3)).1 ?_
  refine callsIn_of_wp_marks Try.func24 rfl trivial ?_ rfl
  simp only [Try.ntmps24, List.size_toArray, List.length_cons, List.length_nil, Nat.reduceAdd, Nat.reduceSub, Array.replicate_succ, Array.replicate_zero, List.push_toArray, List.append_toArray, List.nil_append, List.cons_append]
  gi_wp2_with fail
  refine ⟨trivial, (callsIn_wide.2 hmd).mono ?_⟩
  rintro e w1 ⟨rfl, rfl⟩
  clear hmd
  gi_wp2_with fail
  refine ⟨trivial, (callsIn_wide.2 (mrows_c (text fr))).mono ?_⟩
  rintro e w1 ⟨rfl, rfl⟩
  obtain ⟨W1, hW1⟩ : ∃ X, ((w.alloc (.cells #[.string (text un)] 9)).alloc (.cells #[.int .i64 n] 3)).alloc (.cells #[.slice none 0 0] 27) = X := ⟨_, rfl⟩
  obtain ⟨B, hB⟩ : ∃ q, w.heap.size = q := ⟨_, rfl⟩
  have HBe := Lib.hid hB
  rw [hW1] at hb1 e0 e1 e2 hsz ⊢
  rw [hB] at e0 e1 e2 hsz ⊢
  clear hW1 hB hb0
  rw [hsz]
  have f0 := heap_below (heap_alloc_new W1 (.cells #[.pointer (some ⟨q, 0, none⟩)] 23)) (alloc_below _ (.cells #[.string (text fr)] 9))
  have f1 := heap_alloc_new (W1.alloc (.cells #[.pointer (some ⟨q, 0, none⟩)] 23)) (.cells #[.string (text fr)] 9)
  have hbW := (alloc_below W1 (.cells #[.pointer (some ⟨q, 0, none⟩)] 23)).alloc (by simp) (.cells #[.string (text fr)] 9)
  have hsz0 : ((W1.alloc (.cells #[.pointer (some ⟨q, 0, none⟩)] 23)).alloc (.cells #[.string (text fr)] 9)).heap.size = B + 1 + 1 + 1 + 1 + 1 := by simp [hsz]
  simp only [World.size_alloc, hsz] at f0 f1
  gi_wp2_with fail
  obtain ⟨W0, hW0⟩ : ∃ X, (W1.alloc (.cells #[.pointer (some ⟨q, 0, none⟩)] 23)).alloc (.cells #[.string (text fr)] 9) = X := ⟨_, rfl⟩
  rw [hW0] at f0 f1 hbW hsz0 ⊢
  clear hW0
  have g0 := heap_below e0 hbW
  have g1 := heap_below e1 hbW
  have g2 := heap_below e2 hbW
  have hw0 := hb1.trans (hbW.mono hb1.size)
  clear e0 e1 e2 hb1 hbW
  have hn9 : w.heap.size ≤ W0.heap.size := hw0.size
  have HSZ0 := Lib.hid hsz0
  refine wpIn_range_tellsW (F := Fence.wide) rfl (by omega) (gf := 100) (lb := #[.pointer (some ⟨B + 1 + 1 + 1, 0, none⟩), .pointer (some ⟨B + 1 + 1 + 1 + 1, 0, none⟩)]) rfl trivial (enters_of Try.func100 (by kernel_rfl) rfl)
    (rows_tells h hf hw0 2 (B + 1 + 1 + 1) (B + 1 + 1 + 1 + 1) (fun j => j = B ∨ j = B + 1 ∨ j = B + 1 + 1 + 1 ∨ j = B + 1 + 1 + 1 + 1) f0 f1 (.inr (.inr (.inl rfl))) (.inr (.inr (.inr rfl))))
    KP.trans (fun W l o o' hl h ho _ => KP.putObj W l o o' (by omega) (by rintro k (rfl | rfl | rfl | rfl) <;> omega) h)
    (fun xs X Y row hs hg hr => hs) (fun xs X Y row hs hg hr => hs) (fun _ => rfl)
    (SnI RS un n w.heap.size B W0.heap.size w) (SnX RS un n w.heap.size B W0.heap.size w) (SnI.own hn9 hn9) (fun c => SnX.own c hn9 hn9) ⟨.slice none 0 0, [], OwnRs.nil _ _, rfl, g0, g1, g2, List.nil_prefix, fun r hr => (nomatch hr), Nat.zero_le _, hw0, Nat.le_refl _⟩
    (SnA RS B (fun g z => #[.pointer (some ⟨q, 0, none⟩), .string (text fr), .string (text un), .int .i64 n, undef, undef, .pointer (some ⟨B, 0, none⟩), .pointer (some ⟨B + 1, 0, none⟩), .slice none 0 0, .pointer (some ⟨B + 1 + 1, 0, none⟩), .pointer (some ⟨g, 0, none⟩), .pointer (some ⟨q, 0, none⟩), .bool true, .bool false, .pointer (some ⟨q, 0, none⟩), .string (text fr), .func (.func 100) #[] #[.pointer (some ⟨B + 1 + 1 + 1, 0, none⟩), .pointer (some ⟨B + 1 + 1 + 1 + 1, 0, none⟩)], .agg #[.string (text z.k), z.u], undef, undef, undef, undef, undef, undef, undef, undef, undef, undef, undef, undef, undef, undef, undef, undef, undef, undef, undef, undef])) (fun z a' => SnA.own z a') ?assign ?body ?done ?stop
  case assign =>
    clear hsz0
    rintro l9 pre z W K ⟨v, L, ho, hle, hb0, hb1, hb2, hp, hup, hn, hw, hs2⟩ ⟨hpx, hf2⟩ hK
    rw [HRS.out] at hpx
    dsimp only [rwenc]
    obtain ⟨zk, zu, zc⟩ := z
    obtain ⟨az, cz, ez, hcz, hzl⟩ := id hf2
    simp only at ez hcz hzl
    subst ez
    obtain ⟨a0, c0, ev, -⟩ := ho.all
    subst ev
    have hal := alloc_below W (.cells #[.string (text zk), .slice az zc.length cz] 30)
    have HK := Lib.hid @hK
    have HKP := Lib.hid (show KP w.heap.size (fun j => j = B ∨ j = B + 1 ∨ j = B + 1 + 1 + 1 ∨ j = B + 1 + 1 + 1 + 1) W (W.alloc (.cells #[.string (text zk), .slice az zc.length cz] 30)) from KP.of_below (by have := hw.size; omega) hal)
    have HI := Lib.hid ((SnI.own hn9 hn9).from.alloc (.cells #[.string (text zk), .slice az zc.length cz] 30) (show SnI RS un n w.heap.size B W0.heap.size w pre W from ⟨_, L, ho, hle, hb0, hb1, hb2, hp, hup, hn, hw, hs2⟩))
    have HF := Lib.hid (hf2.kept hal)
    have hpl : pre.length = L.length := by have := congrArg List.length hle; simpa using this.symm
    have HP := Lib.hid (show RS.take L.length ++ [(⟨zk, .slice az zc.length cz, zc⟩ : Rw)] <+: RS from by
      rw [← hpl, ← List.prefix_iff_eq_take.1 hp]
      exact hpx)
    have HC := Lib.hid (heap_below hb2 hal)
    clear hK ho hle hb0 hb1 hb2 hp hup hn hw hs2 hpx hf2 hal hpl hcz
    gi_wp2
    exact HK.out _ _ ((KeepsOthers.alloc _ _).from _) HKP.out HI.out ⟨W.heap.size, a0, L.length, c0, heap_alloc_new W _, HC.out, HP.out, HF.out, rfl⟩
  case body =>
    clear hsz0
    rintro l9 pre z a' Wb ⟨v, L, ho, hle, hb0, hb1, hb2, hp, hup, hn, hw, hs2⟩ ⟨g, a0, q0, c0, hgz, hb2', hpx, hf2, rfl⟩
    obtain rfl : v = .slice a0 q0 c0 := by simpa using hb2.symm.trans hb2'
    obtain ⟨a1, c1, ev, -⟩ := ho.all
    injection ev with e1 e2 e3
    subst e1 e2 e3
    obtain ⟨zk, zu, zc⟩ := z
    obtain ⟨az, cz, ez, hcz, hzl⟩ := id hf2
    simp only at ez hcz hzl hgz
    subst ez
    have hpl : pre.length = L.length := by have := congrArg List.length hle; simpa using this.symm
    rw [← hpl] at hpx
    rw [← List.prefix_iff_eq_take.1 hp] at hpx
    have hpx2 := hpx
    have hplS : pre.length ≤ 1000000 := by have h1 := hp.length_le; have := HVL.out; omega
    obtain ⟨m0, hm0⟩ : ∃ z, L.length = z := ⟨_, rfl⟩
    rw [hm0] at hb2 hb2' hpl ho
    have r0 : Wb.cell? ⟨g, 0, none⟩ = some (.string (text zk)) := by rw [cell_of_row _ g 0 _ _ (0, 0) hgz]; rfl
    have d0 : Wb.cell? ⟨B + 1 + 1, 0, none⟩ = some (.slice a0 m0 c0) := by rw [cell_of_row _ (B + 1 + 1) 0 _ _ (0, 0) hb2]; rfl
    have n0 : Wb.cell? ⟨B + 1, 0, none⟩ = some (.int .i64 n) := by rw [cell_of_row _ (B + 1) 0 _ _ (0, 0) hb1]; rfl
    have u0 : Wb.cell? ⟨B, 0, none⟩ = some (.string (text un)) := by rw [cell_of_row _ B 0 _ _ (0, 0) hb0]; rfl
    have hX : takeS RS un n = pre → RoundPost W0.heap.size (KP w.heap.size (fun j => j = B ∨ j = B + 1 ∨ j = B + 1 + 1 + 1 ∨ j = B + 1 + 1 + 1 + 1)) (fun _ => True) (SnI RS un n w.heap.size B W0.heap.size w) (SnX RS un n w.heap.size B W0.heap.size w) pre ⟨zk, .slice az zc.length cz, zc⟩ Wb (.exit 0) { tmps := #[], defers := [] } Wb := fun ht =>
      ⟨KeepsFrom.refl _ _, KP.refl _ _ _, rfl, _, L, ho, hb2, by rw [ht]; exact hle, by rw [hm0, ← hpl]; exact hp.length_le, hw, hs2⟩
    have hul : (text un).toList.isEmpty = un.isEmpty := by rw [text_toList]
    have htl := text_lss zk un
    have huu : untilS un ⟨zk, .slice az zc.length cz, zc⟩ = (un.isEmpty || Op.bytesLess zk un) := rfl
    obtain ⟨tz, htz⟩ : ∃ z, text zk = z := ⟨_, rfl⟩
    have HTZ := Lib.hid htz
    rw [htz] at r0 htl hgz
    simp only [htz]
    obtain ⟨UE, hUE⟩ : ∃ z, un.isEmpty = z := ⟨_, rfl⟩
    obtain ⟨UL, hUL⟩ : ∃ z, Op.bytesLess zk un = z := ⟨_, rfl⟩
    rw [hUE, hUL] at huu
    rw [hUE] at hul
    rw [hUL] at htl
    have HX := Lib.hid hX
    have HUU := Lib.hid huu
    clear hX huu hUE hUL htz hb2' hpx
    by_cases hln : (m0 : Int) < n
    · have hln2 : ¬ (n ≤ (m0 : Int)) := by omega
      have HRD := Lib.hid (fun huz : untilS un ⟨zk, .slice az zc.length cz, zc⟩ = true => (show untilS un ⟨zk, .slice az zc.length cz, zc⟩ = true from huz))
      cases UE with
      | true =>
        have huz : untilS un ⟨zk, .slice az zc.length cz, zc⟩ = true := by rw [HUU.out]; rfl
        clear HUU HX HRD
        have HOLT := Lib.hid ho.lt
        have HD0 := Lib.hid (fun W (h : Below Wb.heap.size Wb W) => (show W.cell? ⟨B + 1 + 1, 0, none⟩ = some (.slice a0 m0 c0) from by rw [cell_of_row _ (B + 1 + 1) 0 _ _ (0, 0) (heap_below hb2 h)]; rfl))
        have HR0 := Lib.hid (fun W (h : Below Wb.heap.size Wb W) => (show W.cell? ⟨g, 0, none⟩ = some (.string tz) ∧ W.cell? ⟨g, 1, none⟩ = some (.slice az zc.length cz) from by
          have h9 := heap_below hgz h
          exact ⟨by rw [cell_of_row _ g 0 _ _ (0, 0) h9]; rfl, by rw [cell_of_row _ g 1 _ _ (0, 0) h9]; rfl⟩))
        have HM0 := Lib.hid (show L.length ≤ 1000000000 by omega)
        have HS2 := Lib.hid hs2
        gi_wp2_with fail
        clear r0 d0 n0 u0 hul htl
        refine wpIn_region_flow (fun x y => Below x.heap.size x y) 4 [none, none, none, none, none, none, none, none, none, none, none, none, none, none, none, none, none, none, none, none, none, none, none, none, none, none, none, none, none, none, none, none, some 0, some 1, some 2, some 3, none, none] (fun i => [undef, undef, undef, undef].getD i undef) [(fun v _ => v = .slice a0 m0 c0), (fun v _ => v = .agg #[.string tz, .slice az zc.length cz]), (RowV Wb.heap.size tz zc), (fun v W => ∃ gv a9 c9, v = .slice (some ⟨gv, 0, none⟩) 1 1 ∧ W.heap[gv]? = some (.cells #[.string tz, .slice a9 zc.length c9] 30 (0, 0)) ∧ OwnC W Wb.heap.size (.slice a9 zc.length c9) zc)] (fun _ => False) (by kernel_rfl) (by kernel_rfl) (by kernel_rfl) rfl rfl rfl (fun a b c h1 h2 => h1.trans (h2.mono h1.size)) ⟨rfl, rfl, rfl, Nat.le_refl _, fun _ _ => rfl⟩ ?_ ?_ ?_
        · intro g hg v X Y hX hY hv
          simp only [List.mem_cons, List.not_mem_nil, or_false] at hg
          rcases hg with rfl | rfl | rfl | rfl
          all_goals first
            | exact hv
            | (obtain ⟨a9, c9, e9, ho9⟩ := hv; exact ⟨a9, c9, e9, ho9.kept hY⟩)
            | (obtain ⟨gv, a9, c9, e9, h9, ho9⟩ := hv; exact ⟨gv, a9, c9, e9, heap_below h9 hY, ho9.kept hY⟩)
        · simp only [flowOpsI, List.take_succ_cons, List.take_zero, and_true]
          refine ⟨?_, ?_, ?_, ?_⟩
          · intro xs W hW hn
            have d0 := HD0.out W hW
            simp only [flowAct, List.zipWith_cons_cons, List.zipWith_nil_left]
            gi_wp2_with (fail)
            exact ⟨rfl, _, rfl, Below.refl _ _, rfl, fun h => h.elim⟩
          · intro xs W hW hn
            obtain ⟨r0, r1⟩ := HR0.out W hW
            simp only [flowAct, List.zipWith_cons_cons, List.zipWith_nil_left]
            gi_wp2_with (fail)
            exact ⟨rfl, _, rfl, Below.refl _ _, rfl, fun h => h.elim⟩
          · intro xs W hW hn
            simp [flowNeeds, Region.binds] at hn
            simp only [flowAct, List.zipWith_cons_cons, List.zipWith_nil_left]
            simp only [hn]
            gi_wp2_with (fail)
            refine ⟨trivial, (CallsIn.inRound l9 (callsIn_wide.2 (scopied_c (hcz.below hW) hzl tz))).mono ?_⟩
            rintro e8 w9 ⟨v9, rfl, ho9, hb9⟩
            obtain ⟨a9, c9, ev9, -⟩ := ho9.cls
            subst ev9
            try gi_wp2_with (fail)
            exact ⟨rfl, _, rfl, hb9, ⟨a9, c9, rfl, ho9.mono hW.size⟩, fun h => h.elim⟩
          · intro xs W hW hn
            simp [flowNeeds, Region.binds] at hn
            obtain ⟨a9, c9, hv9, ho9⟩ := hn
            simp only [flowAct, List.zipWith_cons_cons, List.zipWith_nil_left]
            simp only [hv9]
            gi_wp2_with (fail)
            exact ⟨rfl, _, rfl, alloc_below _ _, ⟨_, a9, c9, rfl, heap_alloc_new _ _, ho9.kept (alloc_below _ _)⟩, fun h => h.elim⟩
        · intro xs W hW hall hfr
          clear hfr
          simp only [flowAll, and_true, Nat.zero_add, Nat.reduceAdd] at hall
          obtain ⟨h32, -, -, gv, a9, c9, h35, hgv, ho9⟩ := hall
          simp only [flowAct, List.zipWith_cons_cons, List.zipWith_nil_left, List.drop_succ_cons, List.drop_zero]
          simp only [h32, h35]
          have HO := Lib.hid (ho.kept hW)
          have HGV := Lib.hid hgv
          have HO9 := Lib.hid ho9
          have HWW := Lib.hid hW
          have hfin : ∀ (v' : Value) (w' : World), OwnL 2 30 Rw.arr w' W0.heap.size v' (L ++ [⟨zk, .slice a9 zc.length c9, zc⟩]) → W.grownBy w' (Value.ownBlock (.slice a0 m0 c0)) →
              (∃ cs, w'.heap[B + 1 + 1]? = some (.cells cs 27 (0, 0)) ∧ cs.size = 1) ∧ RoundPost W0.heap.size (KP w.heap.size (fun j => j = B ∨ j = B + 1 ∨ j = B + 1 + 1 + 1 ∨ j = B + 1 + 1 + 1 + 1)) (fun _ => True) (SnI RS un n w.heap.size B W0.heap.size w) (SnX RS un n w.heap.size B W0.heap.size w) pre ⟨zk, .slice az zc.length cz, zc⟩ Wb .normal { tmps := #[], defers := [] } (w'.setCell ⟨B + 1 + 1, 0, none⟩ v') := fun v' w' ho' hg' => by
            have hsz := HSZ0.out
            have hpush := HO.out.push (B2 := Wb.heap.size) (r := ⟨zk, .slice a9 zc.length c9, zc⟩) hs2 (fun x hx q hq => HOLT.out x hx q hq) ho9 hzl ho' hg'
            have hlow : ∀ j, j < W0.heap.size → w'.heap[j]? = Wb.heap[j]? := fun j hj =>
              (hg'.block j (by have := hW.size; omega) (fun e => by have := (HO.out.row.lt j e.symm).1; omega)).trans (hW.block j (by omega))
            have hbw := (hlow (B + 1 + 1) (by omega)).trans hb2
            have hcw := (hlow (B + 1) (by omega)).trans hb1
            have haw := (hlow B (by omega)).trans hb0
            have hbel : Below w.heap.size Wb w' := (hW.mono (by have := hw.size; omega)).grown hg' (by have := hw.size; have := hW.size; omega) (fun k e => by have := (HO.out.row.lt k e).1; omega)
            have hks : KeepsFrom W0.heap.size Wb (w'.setCell ⟨B + 1 + 1, 0, none⟩ v') := by
              refine ((show KeepsOthers Wb W from ⟨hW.size, fun k o hk _ => heap_below hk hW⟩).trans ((KeepsOthers.of_grownBy hg' (fun j o e h => ?_)).trans (KeepsOthers.setCell _ _ _))).from _
              obtain ⟨hlen, ⟨ev, hn⟩ | ⟨g9, cap9, cur9, ev, hB9, hg9, -⟩⟩ := HO.out.row
              · rw [ev] at e; cases e
              · rw [ev] at e
                obtain rfl : g9 = j := Option.some.inj e
                rw [hg9] at h
                cases h
                rfl
            refine ⟨⟨_, hbw, rfl⟩, hks, ⟨hbel.setCell (p := ⟨B + 1 + 1, 0, none⟩) (by have := HBe.out; simp; omega) _, fun j o hj hjo => ?_⟩, trivial, ?_⟩
            · rw [heap_setCell_other _ _ _ _ (by rcases hj with rfl | rfl | rfl | rfl <;> simp <;> omega), hlow j (by rcases hj with rfl | rfl | rfl | rfl <;> omega)]
              exact hjo
            · refine ⟨v', L ++ [⟨zk, .slice a9 zc.length c9, zc⟩], hpush.of_keep fun q cs fr h => heap_setCell_other _ _ _ _ (fun e => ?_), by rw [List.map_append, List.map_append, hle]; rfl, (heap_setCell_other _ _ _ _ (by simp; omega)).trans haw, (heap_setCell_other _ _ _ _ (by simp)).trans hcw, (heap_setCell_same _ (B + 1 + 1) 0 _ _ _ hbw).trans rfl, ?_, ?_, ?_, (hw.trans (hbel.mono (Nat.le_refl _))).setCell (p := ⟨B + 1 + 1, 0, none⟩) (by have := HBe.out; simp; omega) _, by simp only [World.size_setCell]; exact Nat.le_trans hs2 (Nat.le_trans hW.size hg'.size)⟩
              · subst e
                rw [hbw] at h
                rcases h with h | h <;> (injection h with h; injection h with _ h _; exact absurd h (by decide))
              · exact hpx2
              · intro r hr
                rcases List.mem_append.1 hr with hr | hr
                · exact hup r hr
                · rw [List.mem_singleton] at hr
                  subst hr
                  exact huz
              · rw [List.length_append, List.length_singleton]; omega
          have HFIN := Lib.hid hfin
          clear hfin hgv ho9 hW h32 h35
          gi_wp2_with (gi_at_builtin; refine wpListIn_append_rwg rfl _ _ rfl (u := .slice a0 m0 c0) rfl HO.out.row zk HTZ.out a9 zc.length c9 zc rfl HGV.out HM0.out (by have := HWW.out.size; have := HS2.out; omega) ?_; intro v' w' ho' hg'; obtain ⟨⟨cs9, hx9, hz9⟩, hr9⟩ := HFIN.out v' w' ho' hg'; obtain ⟨a8, c8, e8, -⟩ := OwnL.ls (z := Rw.zero) rw_size ho'; rw [List.length_append, List.length_singleton] at e8; subst e8; have HR9 := Lib.hid hr9; clear hr9 ho' hg'; have dfw : w'.frozen? ⟨B + 1 + 1, 0, none⟩ = false := frozen_of_row _ (B + 1 + 1) 0 _ _ hx9; have d0w : w'.cell? ⟨B + 1 + 1, 0, none⟩ = some (cs9.getD 0 undef) := by rw [cell_of_row _ (B + 1 + 1) 0 _ _ (0, 0) hx9]; simp [Array.getD, hz9])
          have hr9 := HR9.out
          rw [hm0] at hr9
          exact hr9
      | false =>
        cases UL with
        | true =>
          have huz : untilS un ⟨zk, .slice az zc.length cz, zc⟩ = true := by rw [HUU.out]; rfl
          clear HUU HX HRD
          have HOLT := Lib.hid ho.lt
          have HD0 := Lib.hid (fun W (h : Below Wb.heap.size Wb W) => (show W.cell? ⟨B + 1 + 1, 0, none⟩ = some (.slice a0 m0 c0) from by rw [cell_of_row _ (B + 1 + 1) 0 _ _ (0, 0) (heap_below hb2 h)]; rfl))
          have HR0 := Lib.hid (fun W (h : Below Wb.heap.size Wb W) => (show W.cell? ⟨g, 0, none⟩ = some (.string tz) ∧ W.cell? ⟨g, 1, none⟩ = some (.slice az zc.length cz) from by
            have h9 := heap_below hgz h
            exact ⟨by rw [cell_of_row _ g 0 _ _ (0, 0) h9]; rfl, by rw [cell_of_row _ g 1 _ _ (0, 0) h9]; rfl⟩))
          have HM0 := Lib.hid (show L.length ≤ 1000000000 by omega)
          have HS2 := Lib.hid hs2
          gi_wp2_with fail
          clear r0 d0 n0 u0 hul htl
          refine wpIn_region_flow (fun x y => Below x.heap.size x y) 4 [none, none, none, none, none, none, none, none, none, none, none, none, none, none, none, none, none, none, none, none, none, none, none, none, none, none, none, none, none, none, none, none, some 0, some 1, some 2, some 3, none, none] (fun i => [undef, undef, undef, undef].getD i undef) [(fun v _ => v = .slice a0 m0 c0), (fun v _ => v = .agg #[.string tz, .slice az zc.length cz]), (RowV Wb.heap.size tz zc), (fun v W => ∃ gv a9 c9, v = .slice (some ⟨gv, 0, none⟩) 1 1 ∧ W.heap[gv]? = some (.cells #[.string tz, .slice a9 zc.length c9] 30 (0, 0)) ∧ OwnC W Wb.heap.size (.slice a9 zc.length c9) zc)] (fun _ => False) (by kernel_rfl) (by kernel_rfl) (by kernel_rfl) rfl rfl rfl (fun a b c h1 h2 => h1.trans (h2.mono h1.size)) ⟨rfl, rfl, rfl, Nat.le_refl _, fun _ _ => rfl⟩ ?_ ?_ ?_
          · intro g hg v X Y hX hY hv
            simp only [List.mem_cons, List.not_mem_nil, or_false] at hg
            rcases hg with rfl | rfl | rfl | rfl
            all_goals first
              | exact hv
              | (obtain ⟨a9, c9, e9, ho9⟩ := hv; exact ⟨a9, c9, e9, ho9.kept hY⟩)
              | (obtain ⟨gv, a9, c9, e9, h9, ho9⟩ := hv; exact ⟨gv, a9, c9, e9, heap_below h9 hY, ho9.kept hY⟩)
          · simp only [flowOpsI, List.take_succ_cons, List.take_zero, and_true]
            refine ⟨?_, ?_, ?_, ?_⟩
            · intro xs W hW hn
              have d0 := HD0.out W hW
              simp only [flowAct, List.zipWith_cons_cons, List.zipWith_nil_left]
              gi_wp2_with (fail)
              exact ⟨rfl, _, rfl, Below.refl _ _, rfl, fun h => h.elim⟩
            · intro xs W hW hn
              obtain ⟨r0, r1⟩ := HR0.out W hW
              simp only [flowAct, List.zipWith_cons_cons, List.zipWith_nil_left]
              gi_wp2_with (fail)
              exact ⟨rfl, _, rfl, Below.refl _ _, rfl, fun h => h.elim⟩
            · intro xs W hW hn
              simp [flowNeeds, Region.binds] at hn
              simp only [flowAct, List.zipWith_cons_cons, List.zipWith_nil_left]
              simp only [hn]
              gi_wp2_with (fail)
              refine ⟨trivial, (CallsIn.inRound l9 (callsIn_wide.2 (scopied_c (hcz.below hW) hzl tz))).mono ?_⟩
              rintro e8 w9 ⟨v9, rfl, ho9, hb9⟩
              obtain ⟨a9, c9, ev9, -⟩ := ho9.cls
              subst ev9
              try gi_wp2_with (fail)
              exact ⟨rfl, _, rfl, hb9, ⟨a9, c9, rfl, ho9.mono hW.size⟩, fun h => h.elim⟩
            · intro xs W hW hn
              simp [flowNeeds, Region.binds] at hn
              obtain ⟨a9, c9, hv9, ho9⟩ := hn
              simp only [flowAct, List.zipWith_cons_cons, List.zipWith_nil_left]
              simp only [hv9]
              gi_wp2_with (fail)
              exact ⟨rfl, _, rfl, alloc_below _ _, ⟨_, a9, c9, rfl, heap_alloc_new _ _, ho9.kept (alloc_below _ _)⟩, fun h => h.elim⟩
          · intro xs W hW hall hfr
            clear hfr
            simp only [flowAll, and_true, Nat.zero_add, Nat.reduceAdd] at hall
            obtain ⟨h32, -, -, gv, a9, c9, h35, hgv, ho9⟩ := hall
            simp only [flowAct, List.zipWith_cons_cons, List.zipWith_nil_left, List.drop_succ_cons, List.drop_zero]
            simp only [h32, h35]
            have HO := Lib.hid (ho.kept hW)
            have HGV := Lib.hid hgv
            have HO9 := Lib.hid ho9
            have HWW := Lib.hid hW
            have hfin : ∀ (v' : Value) (w' : World), OwnL 2 30 Rw.arr w' W0.heap.size v' (L ++ [⟨zk, .slice a9 zc.length c9, zc⟩]) → W.grownBy w' (Value.ownBlock (.slice a0 m0 c0)) →
                (∃ cs, w'.heap[B + 1 + 1]? = some (.cells cs 27 (0, 0)) ∧ cs.size = 1) ∧ RoundPost W0.heap.size (KP w.heap.size (fun j => j = B ∨ j = B + 1 ∨ j = B + 1 + 1 + 1 ∨ j = B + 1 + 1 + 1 + 1)) (fun _ => True) (SnI RS un n w.heap.size B W0.heap.size w) (SnX RS un n w.heap.size B W0.heap.size w) pre ⟨zk, .slice az zc.length cz, zc⟩ Wb .normal { tmps := #[], defers := [] } (w'.setCell ⟨B + 1 + 1, 0, none⟩ v') := fun v' w' ho' hg' => by
              have hsz := HSZ0.out
              have hpush := HO.out.push (B2 := Wb.heap.size) (r := ⟨zk, .slice a9 zc.length c9, zc⟩) hs2 (fun x hx q hq => HOLT.out x hx q hq) ho9 hzl ho' hg'
              have hlow : ∀ j, j < W0.heap.size → w'.heap[j]? = Wb.heap[j]? := fun j hj =>
                (hg'.block j (by have := hW.size; omega) (fun e => by have := (HO.out.row.lt j e.symm).1; omega)).trans (hW.block j (by omega))
              have hbw := (hlow (B + 1 + 1) (by omega)).trans hb2
              have hcw := (hlow (B + 1) (by omega)).trans hb1
              have haw := (hlow B (by omega)).trans hb0
              have hbel : Below w.heap.size Wb w' := (hW.mono (by have := hw.size; omega)).grown hg' (by have := hw.size; have := hW.size; omega) (fun k e => by have := (HO.out.row.lt k e).1; omega)
              have hks : KeepsFrom W0.heap.size Wb (w'.setCell ⟨B + 1 + 1, 0, none⟩ v') := by
                refine ((show KeepsOthers Wb W from ⟨hW.size, fun k o hk _ => heap_below hk hW⟩).trans ((KeepsOthers.of_grownBy hg' (fun j o e h => ?_)).trans (KeepsOthers.setCell _ _ _))).from _
                obtain ⟨hlen, ⟨ev, hn⟩ | ⟨g9, cap9, cur9, ev, hB9, hg9, -⟩⟩ := HO.out.row
                · rw [ev] at e; cases e
                · rw [ev] at e
                  obtain rfl : g9 = j := Option.some.inj e
                  rw [hg9] at h
                  cases h
                  rfl
              refine ⟨⟨_, hbw, rfl⟩, hks, ⟨hbel.setCell (p := ⟨B + 1 + 1, 0, none⟩) (by have := HBe.out; simp; omega) _, fun j o hj hjo => ?_⟩, trivial, ?_⟩
              · rw [heap_setCell_other _ _ _ _ (by rcases hj with rfl | rfl | rfl | rfl <;> simp <;> omega), hlow j (by rcases hj with rfl | rfl | rfl | rfl <;> omega)]
                exact hjo
              · refine ⟨v', L ++ [⟨zk, .slice a9 zc.length c9, zc⟩], hpush.of_keep fun q cs fr h => heap_setCell_other _ _ _ _ (fun e => ?_), by rw [List.map_append, List.map_append, hle]; rfl, (heap_setCell_other _ _ _ _ (by simp; omega)).trans haw, (heap_setCell_other _ _ _ _ (by simp)).trans hcw, (heap_setCell_same _ (B + 1 + 1) 0 _ _ _ hbw).trans rfl, ?_, ?_, ?_, (hw.trans (hbel.mono (Nat.le_refl _))).setCell (p := ⟨B + 1 + 1, 0, none⟩) (by have := HBe.out; simp; omega) _, by simp only [World.size_setCell]; exact Nat.le_trans hs2 (Nat.le_trans hW.size hg'.size)⟩
                · subst e
                  rw [hbw] at h
                  rcases h with h | h <;> (injection h with h; injection h with _ h _; exact absurd h (by decide))
                · exact hpx2
                · intro r hr
                  rcases List.mem_append.1 hr with hr | hr
                  · exact hup r hr
                  · rw [List.mem_singleton] at hr
                    subst hr
                    exact huz
                · rw [List.length_append, List.length_singleton]; omega
            have HFIN := Lib.hid hfin
            clear hfin hgv ho9 hW h32 h35
            gi_wp2_with (gi_at_builtin; refine wpListIn_append_rwg rfl _ _ rfl (u := .slice a0 m0 c0) rfl HO.out.row zk HTZ.out a9 zc.length c9 zc rfl HGV.out HM0.out (by have := HWW.out.size; have := HS2.out; omega) ?_; intro v' w' ho' hg'; obtain ⟨⟨cs9, hx9, hz9⟩, hr9⟩ := HFIN.out v' w' ho' hg'; obtain ⟨a8, c8, e8, -⟩ := OwnL.ls (z := Rw.zero) rw_size ho'; rw [List.length_append, List.length_singleton] at e8; subst e8; have HR9 := Lib.hid hr9; clear hr9 ho' hg'; have dfw : w'.frozen? ⟨B + 1 + 1, 0, none⟩ = false := frozen_of_row _ (B + 1 + 1) 0 _ _ hx9; have d0w : w'.cell? ⟨B + 1 + 1, 0, none⟩ = some (cs9.getD 0 undef) := by rw [cell_of_row _ (B + 1 + 1) 0 _ _ (0, 0) hx9]; simp [Array.getD, hz9])
            have hr9 := HR9.out
            rw [hm0] at hr9
            exact hr9
        | false =>
          have HR := Lib.hid (HX.out (take_end hpx2 hup (by rw [HUU.out]; rfl) hn))
          clear ho hle hb0 hb1 hb2 hp hup hn hw hs2 hf2 hgz HUU HX HRD hpx2 hcz
          gi_wp2
          exact HR.out
    · have hge : n ≤ (m0 : Int) := by omega
      have HR := Lib.hid (HX.out (take_full hp hup (by omega)))
      clear ho hle hb0 hb1 hb2 hp hup hn hw hs2 hf2 hgz HUU HX hpx2 hcz
      gi_wp2
      exact HR.out
  case done =>
    clear hsz0
    rintro D xs W hD hxs ⟨v, L, ho, hle, hb0, hb1, hb2, hp, hup, hn, hw, hs2⟩ hK
    rw [HRS.out] at hxs
    subst hxs
    obtain ⟨a0, c0, ev, -⟩ := ho.all
    subst ev
    have d0 : W.cell? ⟨B + 1 + 1, 0, none⟩ = some (.slice a0 L.length c0) := by rw [cell_of_row _ (B + 1 + 1) 0 _ _ (0, 0) hb2]; rfl
    have HO := Lib.hid ho
    have HW := Lib.hid hw
    have HV9 := Lib.hid (show L.map Rw.pr = (takeS xs un n).map Rw.pr from by rw [take_all hup hn]; exact hle)
    clear ho hw hb0 hb1 hb2 hp hup hn hle
    gi_wp2
    refine ⟨by simp, .inl ⟨_, _, rfl, run_takeDeferred hK, ?_⟩⟩
    refine ⟨_, results_tmp rfl _ _ _, _, L, rfl, ?_, HV9.out, ?_⟩
    · have h2 := HO.out.of_keep (Y := W.putObj D (.deferred none)) (fun q cs fr h => World.putObj_heap_other (fun e => by subst e; rw [hK] at h; rcases h with h | h <;> cases h))
      exact ⟨h2.row.mono hn9, fun r hr => ⟨(h2.own r hr).1.mono hn9, (h2.own r hr).2⟩, h2.apart⟩
    · exact HW.out.trans (belowK_b (w := w) (Nat.le_refl _) W D _ _ (by have := HBe.out; have := HSZ0.out; omega) hK rfl rfl)
  case stop =>
    clear hsz0
    rintro D c pre W hD - ⟨rfl, v, L, ho, hb2, hp, hl, hw, hs2⟩ hK
    obtain ⟨a0, c0, ev, -⟩ := ho.all
    subst ev
    have d0 : W.cell? ⟨B + 1 + 1, 0, none⟩ = some (.slice a0 L.length c0) := by rw [cell_of_row _ (B + 1 + 1) 0 _ _ (0, 0) hb2]; rfl
    have HO := Lib.hid ho
    have HW := Lib.hid hw
    have HV9 := Lib.hid hp
    clear ho hw hb2 hp hl
    gi_wp2
    refine ⟨by simp, .inl ⟨_, _, rfl, run_takeDeferred hK, ?_⟩⟩
    refine ⟨_, results_tmp rfl _ _ _, _, L, rfl, ?_, HV9.out, ?_⟩
    · have h2 := HO.out.of_keep (Y := W.putObj D (.deferred none)) (fun q cs fr h => World.putObj_heap_other (fun e => by subst e; rw [hK] at h; rcases h with h | h <;> cases h))
      exact ⟨h2.row.mono hn9, fun r hr => ⟨(h2.own r hr).1.mono hn9, (h2.own r hr).2⟩, h2.apart⟩
    · exact HW.out.trans (belowK_b (w := w) (Nat.le_refl _) W D _ _ (by have := HBe.out; have := HSZ0.out; omega) hK rfl rfl)
end Go.Proofs.Ytbpgfmcnpifmdaa
end

section
namespace Go.Proofs.Ytbpgfmcnpifmdaa
open Go.RowKit Go Go.Sort
set_option linter.unusedVariables false
set_option maxRecDepth 20000

/-- What a scan chooses, of keys and cells. -/
def scanP (R : List Rp) (fr un : List UInt8) (n : Int) : List Rp := ((R.filter (fun r => !Op.bytesLess r.1 fr)).takeWhile (fun r => un.isEmpty || Op.bytesLess r.1 un)).take n.toNat
theorem takeS_map (R : List Rw) (fr un : List UInt8) (n : Int) : (takeS (R.filter (fun r => !Op.bytesLess r.k fr)) un n).map Rw.pr = scanP (R.map Rw.pr) fr un n := by
  unfold takeS scanP
  rw [List.map_take, List.filter_map, List.takeWhile_map]
  rfl
theorem mscanp_c {w : World} {q : Nat} {vb : Value} {BS : List Blk} (h : MapIn w q vb BS) (hf : (rowsOf BS).length ≤ 1000000) (fr un : List UInt8) (n : Int) :
    Calls Try.prog 24 #[.pointer (some ⟨q, 0, none⟩), .string (text fr), .string (text un), .int .i64 n] w (fun e w' => ∃ v L, e = .returned v ∧ OwnRs w' w.heap.size v L ∧ L.map Rw.pr = scanP ((rowsOf BS).map Rw.pr) fr un n ∧ Below w.heap.size w w') :=
  (mscanr_c h hf fr un n).mono fun e w' hp => by
    obtain ⟨v, L, h1, h2, h3, h4⟩ := hp
    exact ⟨v, L, h1, h2, by rw [h3, takeS_map], h4⟩
theorem cls_none (w : World) : Cls w none 0 0 [] := ⟨rfl, Nat.le_refl _, by omega, .inl rfl⟩
/-- The rows of the example, behind so many calls. -/
def exR : Nat → List Rp
  | 0 => []
  | 1 => [([98], [])]
  | 2 => [([97], []), ([98], [])]
  | _ => [([97], []), ([98], []), ([99], [])]
def exK : Nat → List UInt8
  | 0 => [98]
  | 1 => [97]
  | _ => [99]
theorem ex_step (i : Nat) (hi : i < 3) : setR Op.bytesLess Prod.fst ([], []) (exK i, []) (exR i) = exR (i + 1) := by
  rcases (by omega : i = 0 ∨ i = 1 ∨ i = 2) with rfl | rfl | rfl <;> rfl
theorem ex_few (i : Nat) : (exR i).length ≤ 3 := by
  match i with
  | 0 => decide
  | 1 => decide
  | 2 => decide
  | i + 3 => exact Nat.le_refl _
set_option maxRecDepth 100000 in
set_option maxHeartbeats 3200000 in
theorem slives_c (w : World) : Calls Try.prog 15 #[] w (Tells (.bool true) w) := by
  have hb1 := alloc_below w (.cells #[.bool true, .int .i64 0, .slice none 0 0] 57)
  have hm1 := MapIn.new w
  obtain ⟨W1, hW1⟩ : ∃ X, w.alloc (.cells #[.bool true, .int .i64 0, .slice none 0 0] 57) = X := ⟨_, rfl⟩
  rw [hW1] at hb1 hm1
  have HW1 := Lib.hid hW1
  have HM1 := Lib.hid hm1
  have HB1 := Lib.hid hb1
  clear hW1 hm1 hb1
  go_enter Try.func15, Try.ntmps15
  go_upto_region 2 with (go_at_call 13; (with_reducible refine (snew_c w).mono ?_); rintro e1 w1 ⟨rfl, rfl⟩)
  rw [HW1.out]
  have hal := alloc_below W1 (.cells #[.string ⟨#[98]⟩, .string ⟨#[97]⟩, .string ⟨#[99]⟩] 9)
  have hn := heap_alloc_new W1 (.cells #[.string ⟨#[98]⟩, .string ⟨#[97]⟩, .string ⟨#[99]⟩] 9)
  have hm2 := HM1.out.below hal
  have hnf : ¬ foot w.heap.size (.slice none 0 0) [] W1.heap.size := by
    rintro (h | h | ⟨b, hb, -⟩)
    · have := HM1.out.lt (k := w.heap.size) (.inl (.inl rfl)); omega
    · cases h
    · cases hb
  have HB2 := Lib.hid (HB1.out.trans (hal.mono HB1.out.size))
  have HM2 := Lib.hid hm2
  have HN2 := Lib.hid hn
  have HNF := Lib.hid hnf
  have HSZ := Lib.hid (World.size_alloc W1 (.cells #[.string ⟨#[98]⟩, .string ⟨#[97]⟩, .string ⟨#[99]⟩] 9))
  clear hal hn hm2 hnf
  go_upto_region 3 with (fail)
  obtain ⟨W2, hW2⟩ : ∃ X, W1.alloc (.cells #[.string ⟨#[98]⟩, .string ⟨#[97]⟩, .string ⟨#[99]⟩] 9) = X := ⟨_, rfl⟩
  obtain ⟨q, hq⟩ : ∃ z, w.heap.size = z := ⟨_, rfl⟩
  obtain ⟨p, hp⟩ : ∃ z, W1.heap.size = z := ⟨_, rfl⟩
  rw [hW2] at HM2 HB2 HN2 HSZ ⊢
  rw [hp] at HN2 HNF HSZ ⊢
  have HQ := Lib.hid hq
  rw [hq] at HM2 HNF ⊢
  clear hW2 hq hp HM1 HB1 HW1
  go_loopw [8] (fun j wr => ∃ (i : Nat) (vb : Value) (BS : List Blk), i ≤ 3 ∧ j = .int .i64 (i : Int) ∧ MapIn wr q vb BS ∧ (rowsOf BS).map Rw.pr = exR i ∧ wr.heap[p]? = some (.cells #[.string ⟨#[98]⟩, .string ⟨#[97]⟩, .string ⟨#[99]⟩] 9 (0, 0)) ∧ ¬ foot q vb BS p ∧ (∀ k, foot q vb BS k → w.heap.size ≤ k) ∧ Below w.heap.size w wr) (fun j _ => 3 - (intOf j).toNat)
  case atStart => exact ⟨0, _, _, by omega, rfl, HM2.out, rfl, HN2.out, HNF.out, (fun k hk => by
    rcases hk with rfl | hk | ⟨b, hb, -⟩
    · rw [HQ.out]; exact Nat.le_refl _
    · cases hk
    · cases hb), HB2.out⟩
  case round =>
    clear HM2 HN2 HNF HB2 HSZ
    obtain ⟨i, vb, BS, hi, rfl, hm, hr, hs, hnf, hlo, hb⟩ := hrel
    have hlen : (rowsOf BS).length ≤ 3 := by
      have h1 := congrArg List.length hr
      rw [List.length_map] at h1
      rw [h1]
      exact ex_few i
    by_cases hlt : i < 3
    · have hli : (i : Int) < 3 := by omega
      have hc : wr.cell? ⟨p, i, none⟩ = some (.string (text (exK i))) := by
        rw [cell_of_row _ p i _ _ (0, 0) hs]
        rcases (by omega : i = 0 ∨ i = 1 ∨ i = 2) with rfl | rfl | rfl <;> rfl
      have hkn : exK i ≠ [] := by rcases (by omega : i = 0 ∨ i = 1 ∨ i = 2) with rfl | rfl | rfl <;> decide
      have HST := Lib.hid (mset_c hm (by omega) (cls_none wr) (by omega) hkn)
      have hst := ex_step i hlt
      rw [← hr] at hst
      rw [hst] at HST
      have hpl := (Array.getElem?_eq_some_iff.1 hs).1
      have HS := Lib.hid hs
      have HNF := Lib.hid hnf
      have HLO := Lib.hid hlo
      have HB := Lib.hid hb
      have HPL := Lib.hid hpl
      clear hm hr hs hnf hlo hb hst hkn hlen hpl
      go_wp2_with (go_at_call 17; (with_reducible refine HST.out.mono ?_); rintro e2 w2 ⟨rfl, vb', BS', hm2, hr2, ht2, hf2, hc2⟩)
      have HM2 := Lib.hid hm2
      have HR2 := Lib.hid hr2
      have HT2 := Lib.hid ht2
      have HF2 := Lib.hid hf2
      clear hm2 hr2 ht2 hf2 hc2 hc
      go_roundw
      case rel => exact ⟨i + 1, vb', BS', by omega, by go_num, HM2.out, HR2.out, (HT2.out.block p HPL.out HNF.out).trans HS.out, fun h => (HF2.out p h).elim HNF.out (fun h => by have := HPL.out; omega), fun k hk => (HF2.out k hk).elim (HLO.out k) (fun h => Nat.le_trans HB.out.size h), HB.out.trans (HT2.out.below (Nat.le_trans HB.out.size (Nat.le_refl _)) (fun k hk => HLO.out k hk))⟩
      case measure => simp [intOf]; omega
    · obtain rfl : i = 3 := by omega
      have hl3 : (rowsOf BS).length = 3 := by
        have h1 := congrArg List.length hr
        rw [List.length_map] at h1
        exact h1
      have hsc : Calls Try.prog 24 #[.pointer (some ⟨q, 0, none⟩), .string ⟨#[]⟩, .string ⟨#[99]⟩, .int .i64 9] wr (fun e w' => ∃ v L, e = .returned v ∧ OwnRs w' wr.heap.size v L ∧ L.map Rw.pr = scanP ((rowsOf BS).map Rw.pr) [] [99] 9 ∧ Below wr.heap.size wr w') := mscanp_c hm (by omega) [] [99] 9
      rw [hr] at hsc
      have HSC := Lib.hid hsc
      clear hsc
      have hh := hm.head
      rw [hl3] at hh
      have HHD := Lib.hid hh
      have HB := Lib.hid hb
      clear hm hr hs hnf hlo hb hlen hl3 hh
      go_upto_region 9 with (go_at_call 24; (with_reducible refine HSC.out.mono ?_); rintro e2 w2 ⟨v, L, rfl, ho, hl, hb2⟩)
      obtain ⟨a, c, rfl, hrw⟩ := ho.all
      have hl' : L.map Rw.pr = [([97], []), ([98], [])] := hl
      have hlen : L.length = 2 := by
        have h1 := congrArg List.length hl'
        rw [List.length_map] at h1
        exact h1
      have hle := hrw.1.le
      rw [hlen] at hrw hle ⊢
      obtain ⟨bo, off, rfl, hat⟩ := hrw.1.at (k := 0) (by omega)
      obtain ⟨bo', off', e', hat'⟩ := hrw.1.at (k := 1) (by omega)
      injection e' with e'
      injection e' with e1 e2
      subst e1 e2
      have hk0 : (L.getD 0 Rw.zero).k = [97] := by
        match L, hl' with
        | r :: L, h => exact congrArg Prod.fst (List.cons.inj h).1
      have hk1 : (L.getD 1 Rw.zero).k = [98] := by
        match L, hl' with
        | r :: s :: L, h => exact congrArg Prod.fst (List.cons.inj (List.cons.inj h).2).1
      have c0 : w2.cell? ⟨bo, off + 0 * 2 + 0, none⟩ = some (.string (text (L.getD 0 Rw.zero).k)) := hat w2 (Below.refl _ _) 0 _ rfl
      have c1 : w2.cell? ⟨bo, off + 1 * 2 + 0, none⟩ = some (.string (text (L.getD 1 Rw.zero).k)) := hat' w2 (Below.refl _ _) 0 _ rfl
      have d0 : w2.cell? ⟨bo, off, none⟩ = some (.string ⟨#[97]⟩) := by
        rw [hk0] at c0; exact c0
      have d1 : w2.cell? ⟨bo, off + 2, none⟩ = some (.string ⟨#[98]⟩) := by
        rw [hk1] at c1; exact c1
      have hc0 : (0 : Int) < (c : Int) := by omega
      have hc1 : (1 : Int) < (c : Int) := by omega
      have HLN := Lib.hid (mlen_c (show HeadAt w2 q 3 vb from heap_below HHD.out hb2))
      have HB2 := Lib.hid (HB.out.trans (hb2.mono HB.out.size))
      clear ho hl hb2 hl' hlen hrw hat hat' hk0 hk1 c0 c1 hle
      go_wp2_with (go_at_call 28; (with_reducible refine HLN.out.mono ?_); rintro e3 w3 ⟨rfl, rfl⟩)
      go_ret
      exact ⟨rfl, HB2.out⟩
end Go.Proofs.Ytbpgfmcnpifmdaa
end

section
namespace Go.Proofs.Ytbpgfmcnpifmdaa
open Go.RowKit Go Go.Sort
set_option linter.unusedVariables false
set_option maxRecDepth 20000

/-- What a join tells, told by its value. -/
def JTup (base : Nat) (t : ByteArray) (cs : List Cl) (v : Value) (W : World) : Prop := ∃ a c, v = .tuple #[.agg #[.string t, .slice a cs.length c], .int .i64 0] ∧ OwnC W base (.slice a cs.length c) cs
theorem JTup.kept {base : Nat} {t : ByteArray} {cs : List Cl} {v : Value} {X Y : World} (h : JTup base t cs v X) (hb : Below X.heap.size X Y) : JTup base t cs v Y := by
  obtain ⟨a, c, e, ho⟩ := h; exact ⟨a, c, e, ho.kept hb⟩
end Go.Proofs.Ytbpgfmcnpifmdaa
end

section
namespace Go.Proofs.Ytbpgfmcnpifmdaa
open Go.RowKit Go Go.Sort
set_option linter.unusedVariables false
set_option maxRecDepth 20000

/-- A change as it stands in memory: its parts, its slice of writes, and these. -/
structure Cg where
  site : Int
  seq : Int
  n : Int
  s : Int
  a : Int
  b : Int
  u : Value
  ws : List Wr
def Cg.zero : Cg := ⟨0, 0, 0, 0, 0, 0, .slice none 0 0, []⟩
def Cg.arr (c : Cg) : Array Value := #[.int .i64 c.site, .int .i64 c.seq, .int .i64 c.n, .int .i64 c.s, .int .i64 c.a, .int .i64 c.b, c.u]
/-- Changes as they lie in memory, each with its writes. -/
def ChsAt (W : World) (a : Option Addr) (m cap : Nat) (L : List Cg) : Prop := Ls 7 Cg.arr Cg.zero W a m cap L ∧ ∀ j, j < m → ∃ a' c, (L.getD j Cg.zero).u = .slice a' (L.getD j Cg.zero).ws.length c ∧ Wrs W a' (L.getD j Cg.zero).ws.length c (L.getD j Cg.zero).ws ∧ WShort (L.getD j Cg.zero).ws
theorem ChsAt.below {w w' : World} {a : Option Addr} {m cap : Nat} {L : List Cg} (h : ChsAt w a m cap L) (hb : Below w.heap.size w w') : ChsAt w' a m cap L :=
  ⟨h.1.below hb, fun j hj => by obtain ⟨a', c, e, hc, hx⟩ := h.2 j hj; exact ⟨a', c, e, hc.below hb, hx⟩⟩
theorem ChsAt.place {w : World} {a : Option Addr} {m cap : Nat} {L : List Cg} (h : ChsAt w a m cap L) {k : Nat} (hk : k < m) : ∃ b off a' n' c', a = some ⟨b, off, none⟩ ∧ (L.getD k Cg.zero).u = .slice a' n' c' ∧ n' = (L.getD k Cg.zero).ws.length ∧ Wrs w a' n' c' (L.getD k Cg.zero).ws ∧ WShort (L.getD k Cg.zero).ws ∧
    ∀ W, Below w.heap.size w W → W.cell? ⟨b, off + k * 7, none⟩ = some (.int .i64 (L.getD k Cg.zero).site) ∧ W.cell? ⟨b, off + k * 7 + 1, none⟩ = some (.int .i64 (L.getD k Cg.zero).seq) ∧ W.cell? ⟨b, off + k * 7 + 2, none⟩ = some (.int .i64 (L.getD k Cg.zero).n) ∧ W.cell? ⟨b, off + k * 7 + 3, none⟩ = some (.int .i64 (L.getD k Cg.zero).s) ∧
      W.cell? ⟨b, off + k * 7 + 4, none⟩ = some (.int .i64 (L.getD k Cg.zero).a) ∧ W.cell? ⟨b, off + k * 7 + 5, none⟩ = some (.int .i64 (L.getD k Cg.zero).b) ∧ W.cell? ⟨b, off + k * 7 + 6, none⟩ = some (.slice a' n' c') := by
  obtain ⟨b, off, e, hat⟩ := h.1.at hk
  obtain ⟨a', c', eu, hc, hx⟩ := h.2 k hk
  exact ⟨b, off, a', _, c', e, eu, rfl, hc, hx, fun W hb => ⟨hat W hb 0 _ rfl, hat W hb 1 _ rfl, hat W hb 2 _ rfl, hat W hb 3 _ rfl, hat W hb 4 _ rfl, hat W hb 5 _ rfl, (hat W hb 6 (L.getD k Cg.zero).u rfl).trans (by rw [eu])⟩⟩
theorem ChsAt.drop {W : World} {a a' : Option Addr} {n cap cap' q : Nat} {L : List Cg} (h : ChsAt W a n cap L) (hl : Ls 7 Cg.arr Cg.zero W a' (n - q) cap' (L.drop q)) (hq : q ≤ n) : ChsAt W a' (n - q) cap' (L.drop q) :=
  ⟨hl, fun j hj => by
    have e : (L.drop q).getD j Cg.zero = L.getD (q + j) Cg.zero := by simp [List.getD_eq_getElem?_getD]
    rw [e]
    exact h.2 (q + j) (by omega)⟩
theorem ChsAt.take {W : World} {a : Option Addr} {n cap q : Nat} {L : List Cg} (h : ChsAt W a n cap L) (hq : q ≤ n) : ChsAt W a q cap (L.take q) :=
  ⟨h.1.take hq, fun j hj => by
    have e : (L.take q).getD j Cg.zero = L.getD j Cg.zero := by rw [List.getD_eq_getElem?_getD, List.getD_eq_getElem?_getD, List.getElem?_take_of_lt hj]
    rw [e]
    exact h.2 j (by omega)⟩
theorem OwnRw.mono {W : World} {B B' n1 : Nat} {v : Value} {L : List Rw} (h : OwnRw W B n1 v L) (hB : B' ≤ B) : OwnRw W B' n1 v L := ⟨h.row.mono hB, fun j hj => ⟨(h.own j hj).1.mono hB, (h.own j hj).2⟩, h.apart⟩
end Go.Proofs.Ytbpgfmcnpifmdaa
end

section
namespace Go.Proofs.Ytbpgfmcnpifmdaa
open Go.RowKit Go Go.Sort
set_option linter.unusedVariables false
set_option maxRecDepth 20000

attribute [local go_sem] Oper.semAt_some
/-- What is to be seen of a row, with its slice of fields as it stands in memory. -/
structure Vx where
  k : List UInt8
  fs : List Fld
  v : Value
abbrev Vp := List UInt8 × List Fld
def Vx.pr (x : Vx) : Vp := (x.k, x.fs)
end Go.Proofs.Ytbpgfmcnpifmdaa
end

section
namespace Go.Proofs.Ytbpgfmcnpifmdaa
open Go.RowKit Go Go.Sort
set_option linter.unusedVariables false
set_option maxRecDepth 20000

theorem Ls.block {α : Type} {sz : Nat} {arr : α → Array Value} {z : α} (hs : ∀ c, (arr c).size = sz) {W : World} {q : Nat} {cs : Array Value} {t : TypeId} {fr : Nat × Nat} {L : List α} (h : W.heap[q]? = some (.cells cs t fr)) (hc : cs.toList = lCells arr L) (hm : L.length ≤ 9223372036854775807) : Ls sz arr z W (some ⟨q, 0, none⟩) L.length L.length L := by
  refine ⟨rfl, Nat.le_refl _, hm, .inr ⟨q, 0, rfl, fun i hi j v hj => ?_⟩⟩
  have hjs : j < sz := by have := (Array.getElem?_eq_some_iff.1 hj).1; rwa [hs] at this
  have c1 := lCells_get (z := z) hs L i j hi hjs
  rw [← hc, hj] at c1
  rw [Nat.zero_add, cell_of_row W q _ cs t fr h, ← c1]
  simp
/-- Rows as a call told them. -/
def RsV (R : List Rp) (v : Value) (W : World) : Prop := ∃ a c NN, v = .slice a NN.length c ∧ RwsAt W a NN.length c NN ∧ NN.map Rw.pr = R
theorem RsV.kept {R : List Rp} {v : Value} {X Y : World} (h : RsV R v X) (hb : Below X.heap.size X Y) : RsV R v Y := by
  obtain ⟨a, c, NN, e, hr, hp⟩ := h; exact ⟨a, c, NN, e, hr.below hb, hp⟩
def StV (R : List Rp) (k : Int) (v : Value) (W : World) : Prop := ∃ u, v = .tuple #[u, .int .i64 k] ∧ RsV R u W
theorem StV.kept {R : List Rp} {k : Int} {v : Value} {X Y : World} (h : StV R k v X) (hb : Below X.heap.size X Y) : StV R k v Y := by
  obtain ⟨u, e, hr⟩ := h; exact ⟨u, e, hr.kept hb⟩
end Go.Proofs.Ytbpgfmcnpifmdaa
end

section
namespace Go.Proofs.Ytbpgfmcnpifmdaa
open Go.RowKit Go Go.Sort Go.Deep
set_option linter.unusedVariables false
set_option maxRecDepth 20000

theorem choose_at {α : Type} {n : Nat} {p : Nat → α → Prop} (h : ∀ i, i < n → ∃ q, p i q) : ∃ V : Nat → Option α, ∀ i, i < n → ∃ q, V i = some q ∧ p i q := by
  induction n with
  | zero => exact ⟨fun _ => none, fun i hi => by omega⟩
  | succ n ih =>
    obtain ⟨V, hV⟩ := ih fun i hi => h i (by omega)
    obtain ⟨q, hq⟩ := h n (by omega)
    refine ⟨fun i => if i = n then some q else V i, fun i hi => ?_⟩
    by_cases e : i = n
    · subst e; exact ⟨q, by simp, hq⟩
    · simp only [if_neg e]; exact hV i (by omega)
end Go.Proofs.Ytbpgfmcnpifmdaa
end

section
namespace Go.Proofs.Ytbpgfmcnpifmdaa
open Go.RowKit Go Go.Sort
set_option linter.unusedVariables false
set_option maxRecDepth 20000

instance : DecidableEq Cl := fun x y => if h : sameC x y = true then isTrue ((same_iff x y).1 h) else isFalse fun e => h ((same_iff x y).2 e)
theorem list_ext_getD {α : Type} {z : α} {a b : List α} (hl : a.length = b.length) (h : ∀ j, j < a.length → a.getD j z = b.getD j z) : a = b := by
  apply List.ext_getElem hl
  intro j h1 h2
  have := h j h1
  rwa [List.getD_eq_getElem?_getD, List.getD_eq_getElem?_getD, List.getElem?_eq_getElem h1, List.getElem?_eq_getElem h2] at this
end Go.Proofs.Ytbpgfmcnpifmdaa
end

section
namespace Go.Proofs.Ytbpgfmcnpifmdaa
open Go.RowKit Go Go.Sort
set_option linter.unusedVariables false
set_option maxRecDepth 20000

theorem prs_getD {L : List Rw} {j : Nat} (hj : j < L.length) : (L.map Rw.pr).getD j ([], []) = (L.getD j Rw.zero).pr := by
  simp [List.getD_eq_getElem?_getD, hj]
end Go.Proofs.Ytbpgfmcnpifmdaa
end

section
namespace Go.Proofs.Ytbpgfmcnpifmdaa
open Go.RowKit Go Go.Sort Go.Deep
set_option linter.unusedVariables false
set_option maxRecDepth 20000

/-- A list of cells that came in. -/
theorem open_cls {H : Type} {enc : TypeId × Value → H} {W : World} {a : Option Addr} {len cap : Nat} {d : DataW H} {p : List MemPlace} (h : DataW.Trod enc Try.prog W 0 (fun _ => true) true 28 (.slice a len cap) d p) :
    ∃ l, Cls W a len cap l ∧ ∀ c ∈ l, c.t.length ≤ 9223372036854775807 := by
  have hc : Try.prog.cellsOf 103 = 8 := by kernel_rfl
  obtain ⟨fuel, hf⟩ := h
  rcases open_slice Try.underlying28 hf with ⟨hcs, hx⟩ | ⟨x, l, c, m, n, D, Pl, hcs, _, hl, hm, hmm, hx, hcell⟩
  · simp [Value.cells] at hcs
    obtain ⟨rfl, rfl, rfl⟩ := hcs
    exact ⟨[], ⟨rfl, Nat.le_refl _, by omega, .inl rfl⟩, by simp⟩
  · simp [Value.cells] at hcs
    obtain ⟨rfl, rfl, rfl⟩ := hcs
    simp only [if_true] at hmm
    subst hmm
    rw [hc] at hcell
    have key : ∀ i, i < m → ∃ q : Cl, (∀ j u, q.arr[j]? = some u → W.cell? ((x.add (i * 8)).add j) = some u) ∧ q.t.length ≤ 9223372036854775807 := by
      intro i hi
      obtain ⟨cs', h1, h2⟩ := hcell i hi
      obtain ⟨_, h3l, h3⟩ := World.cells?_some h1
      obtain ⟨n', s', a', b', g', t', d', e', rfl, _, _, _, _, ht, _, _⟩ := cell_cells (sp := true) h2
      refine ⟨⟨n', s', a', b', g', t', d', e'⟩, fun j u hj => ?_, by unfold maxLen at ht; exact ht⟩
      have hjl : j < 8 := by
        have := (Array.getElem?_eq_some_iff.1 hj).1
        simpa [Cl.arr] using this
      have h4 := h3 j hjl
      rw [h4]
      rw [← hj]
      simp [Cl.arr]
    obtain ⟨V0, hV0⟩ := choose_at key
    obtain ⟨V, hV⟩ : ∃ V : Nat → Cl, ∀ i, i < m → ((∀ j u, (V i).arr[j]? = some u → W.cell? ((x.add (i * 8)).add j) = some u) ∧ (V i).t.length ≤ 9223372036854775807) := by
      refine ⟨fun i => (V0 i).getD Cl.zero, fun i hi => ?_⟩
      obtain ⟨q, hq, hp⟩ := hV0 i hi
      simp only [hq, Option.getD_some]
      exact hp
    have hgd : ∀ i, i < len → ((List.range len).map V).getD i Cl.zero = V i := fun i hi => by simp [List.getD, hi]
    refine ⟨(List.range len).map V, ⟨by simp, hl, by unfold maxLen at hm; omega, ?_⟩, ?_⟩
    · by_cases hz : m = 0
      · exact .inl hz
      · right
        obtain ⟨b, off, spot⟩ := x
        have h0 := (hV 0 (by omega)).1 0 _ rfl
        have hspot : spot = none := by simpa [Addr.add] using World.cell?_spot h0
        subst hspot
        refine ⟨b, off, rfl, fun i hi => ?_⟩
        rw [hgd i hi]
        have hq := (hV i (by omega)).1
        have e1 : (⟨b, off, none⟩ : Addr).add (i * 8) = ⟨b, off + i * 8, none⟩ := by
          by_cases h0 : i * 8 = 0
          · rw [h0]; rfl
          · simp [Addr.add, h0]
        rw [e1] at hq
        exact ⟨hq 0 _ rfl, hq 1 _ rfl, hq 2 _ rfl, hq 3 _ rfl, hq 4 _ rfl, hq 5 _ rfl, hq 6 _ rfl, hq 7 _ rfl⟩
    · intro g hg
      obtain ⟨i, hi, rfl⟩ := List.mem_map.1 hg
      exact (hV i (by have := List.mem_range.1 hi; omega)).2
theorem trod_row {H : Type} {enc : TypeId × Value → H} {W : World} {fuel : Nat} {cs : List Value} {x : DataW H × List MemPlace} (h : DataW.trod enc Try.prog W 0 (fun _ => true) true fuel 30 cs = some x) :
    ∃ (k : List UInt8) (a : Option Addr) (len cap : Nat) (l : List Cl), cs = [.string (text k), .slice a len cap] ∧ k.length ≤ maxLen ∧ Cls W a len cap l ∧ ∀ c ∈ l, c.t.length ≤ 9223372036854775807 := by
  obtain ⟨xs, m, _, rfl, hl, hlen, hf⟩ := DataW.trod_struct Try.underlying30 h
  have h2 : Try.prog.cellsOf 30 = 2 := by kernel_rfl
  have h9 : Try.prog.cellsOf 9 = 1 := by kernel_rfl
  have hc : Try.prog.cellsOf 28 = 1 := by kernel_rfl
  rw [h2] at hl
  match xs, hlen with
  | [y0, y1], _ =>
    have i0 := hf 0 _ rfl
    have i1 := hf 1 _ rfl
    match cs, hl with
    | [c0, c1], _ =>
      have j0 : DataW.trod enc Try.prog W 0 (fun _ => true) true m 9 (([c0, c1].drop 0).take (Try.prog.cellsOf 9)) = some y0 := i0
      have j1 : DataW.trod enc Try.prog W 0 (fun _ => true) true m 28 (([c0, c1].drop 1).take (Try.prog.cellsOf 28)) = some y1 := i1
      rw [h9] at j0
      rw [hc] at j1
      obtain ⟨s, hs, _, ws⟩ := DataW.trod_string Try.underlying9 j0
      simp at hs
      subst hs
      have hv : ∃ a len cap, c1 = .slice a len cap := by
        rcases open_slice Try.underlying28 j1 with ⟨hcs, hx⟩ | ⟨x, l, c, m, n, D, Pl, hcs, _⟩
        · simp at hcs; exact ⟨_, _, _, hcs⟩
        · simp at hcs; exact ⟨_, _, _, hcs⟩
      obtain ⟨a, len, cap, rfl⟩ := hv
      obtain ⟨l, h1, h2⟩ := open_cls (d := y1.1) (p := y1.2) (W := W) (enc := enc) (a := a) (len := len) (cap := cap) ⟨m, j1⟩
      exact ⟨s.data.toList, a, len, cap, l, rfl, by simpa using ws, h1, h2⟩
end Go.Proofs.Ytbpgfmcnpifmdaa
end

section
namespace Go.Proofs.Ytbpgfmcnpifmdaa
open Go.RowKit Go Go.Sort Go.Deep
set_option linter.unusedVariables false
set_option maxRecDepth 20000

/-- An act that came in. -/
structure Ac where
  kd : Int
  r : Rw
  un : List UInt8
  n : Int
def Ac.zero : Ac := ⟨0, Rw.zero, [], 0⟩
def Ac.arr (a : Ac) : Array Value := #[.int .i64 a.kd, .string (text a.r.k), a.r.u, .string (text a.un), .int .i64 a.n]
theorem ac_size (a : Ac) : a.arr.size = 5 := rfl
/-- Acts that lie in memory, each with its row's cells. -/
def ActsAt (W : World) (a : Option Addr) (n cap : Nat) (L : List Ac) : Prop := Ls 5 Ac.arr Ac.zero W a n cap L ∧ ∀ j, j < n → ∃ x c, (L.getD j Ac.zero).r.u = .slice x (L.getD j Ac.zero).r.cs.length c ∧ Cls W x (L.getD j Ac.zero).r.cs.length c (L.getD j Ac.zero).r.cs
theorem ActsAt.below {W W' : World} {a : Option Addr} {n cap : Nat} {L : List Ac} (h : ActsAt W a n cap L) (hb : Below W.heap.size W W') : ActsAt W' a n cap L :=
  ⟨h.1.below hb, fun j hj => by obtain ⟨x, c, e, hc⟩ := h.2 j hj; exact ⟨x, c, e, hc.below hb⟩⟩
theorem trod_act {H : Type} {enc : TypeId × Value → H} {W : World} {fuel : Nat} {cs : List Value} {x : DataW H × List MemPlace} (h : DataW.trod enc Try.prog W 0 (fun _ => true) true fuel 32 cs = some x) :
    ∃ (q : Ac) (a : Option Addr) (cap : Nat), cs = q.arr.toList ∧ q.r.u = .slice a q.r.cs.length cap ∧ q.r.k.length ≤ 9223372036854775807 ∧ q.un.length ≤ 9223372036854775807 ∧ Cls W a q.r.cs.length cap q.r.cs ∧ ∀ c ∈ q.r.cs, c.t.length ≤ 9223372036854775807 := by
  obtain ⟨xs, m, _, rfl, hl, hlen, hf⟩ := DataW.trod_struct Try.underlying32 h
  have h5 : Try.prog.cellsOf 32 = 5 := by kernel_rfl
  have h9 : Try.prog.cellsOf 9 = 1 := by kernel_rfl
  have h3 : Try.prog.cellsOf 3 = 1 := by kernel_rfl
  have h2 : Try.prog.cellsOf 30 = 2 := by kernel_rfl
  rw [h5] at hl
  match xs, hlen with
  | [y0, y1, y2, y3], _ =>
    have i0 := hf 0 _ rfl
    have i1 := hf 1 _ rfl
    have i2 := hf 2 _ rfl
    have i3 := hf 3 _ rfl
    match cs, hl with
    | [c0, c1, c2, c3, c4], _ =>
      have j0 : DataW.trod enc Try.prog W 0 (fun _ => true) true m 3 (([c0, c1, c2, c3, c4].drop 0).take (Try.prog.cellsOf 3)) = some y0 := i0
      have j1 : DataW.trod enc Try.prog W 0 (fun _ => true) true m 30 (([c0, c1, c2, c3, c4].drop 1).take (Try.prog.cellsOf 30)) = some y1 := i1
      have j2 : DataW.trod enc Try.prog W 0 (fun _ => true) true m 9 (([c0, c1, c2, c3, c4].drop 3).take (Try.prog.cellsOf 9)) = some y2 := i2
      have j3 : DataW.trod enc Try.prog W 0 (fun _ => true) true m 3 (([c0, c1, c2, c3, c4].drop 4).take (Try.prog.cellsOf 3)) = some y3 := i3
      rw [h3] at j0 j3
      rw [h2] at j1
      rw [h9] at j2
      obtain ⟨kd, e0, -⟩ := DataW.trod_int Try.underlying3 j0
      obtain ⟨k, a, len, cap, l, e1, hk, hw, hx⟩ := trod_row j1
      obtain ⟨s, e2, _, w2⟩ := DataW.trod_string Try.underlying9 j2
      obtain ⟨n, e3, -⟩ := DataW.trod_int Try.underlying3 j3
      simp at e0 e1 e2 e3
      obtain ⟨rfl, rfl⟩ := e1
      subst e0 e2 e3
      obtain rfl := hw.len
      exact ⟨⟨kd, ⟨k, .slice a l.length cap, l⟩, s.data.toList, n⟩, a, cap, rfl, rfl, by unfold maxLen at hk; exact hk, (by
        have hw2 : s.data.toList.length ≤ maxLen := by simpa using w2
        unfold maxLen at hw2
        exact hw2), hw, hx⟩
theorem open_act {H : Type} {enc : TypeId × Value → H} {W : World} {base : Nat} {v : Value} {x : DataW H} {p : List MemPlace} (hv : Value.okWide Try.prog W .any base 32 v)
    (h : DataW.Trod enc Try.prog W 0 (fun _ => true) true 32 v x p) : ∃ (q : Ac) (a : Option Addr) (cap : Nat), v = .agg q.arr ∧ q.r.u = .slice a q.r.cs.length cap ∧ Cls W a q.r.cs.length cap q.r.cs := by
  simp only [Value.okWide, Try.underlying32] at hv
  obtain ⟨cs, rfl, hs, _⟩ := hv
  obtain ⟨m, hm⟩ := h
  obtain ⟨q, a, cap, hc, hu, -, -, hw, -⟩ := trod_act hm
  refine ⟨q, a, cap, ?_, hu, hw⟩
  congr 1
  apply Array.toList_inj.1
  exact hc
theorem open_acts {H : Type} {enc : TypeId × Value → H} {W : World} {a : Option Addr} {len cap : Nat} {d : DataW H} {p : List MemPlace} (h : DataW.Trod enc Try.prog W 0 (fun _ => true) true 22 (.slice a len cap) d p) :
    ∃ l, ActsAt W a len cap l ∧ ∀ q ∈ l, q.r.k.length ≤ 9223372036854775807 ∧ q.un.length ≤ 9223372036854775807 ∧ ∀ c ∈ q.r.cs, c.t.length ≤ 9223372036854775807 := by
  have hc : Try.prog.cellsOf 32 = 5 := by kernel_rfl
  obtain ⟨fuel, hf⟩ := h
  rcases open_slice Try.underlying22 hf with ⟨hcs, hx⟩ | ⟨x, l, c, m, n, D, Pl, hcs, _, hl, hm, hmm, hx, hcell⟩
  · simp [Value.cells] at hcs
    obtain ⟨rfl, rfl, rfl⟩ := hcs
    exact ⟨[], ⟨⟨rfl, Nat.le_refl _, by omega, .inl rfl⟩, fun j hj => by omega⟩, fun c hc => (nomatch hc)⟩
  · simp [Value.cells] at hcs
    obtain ⟨rfl, rfl, rfl⟩ := hcs
    simp only [if_true] at hmm
    subst hmm
    rw [hc] at hcell
    have key : ∀ i, i < m → ∃ q : Ac, (∀ j u, q.arr[j]? = some u → W.cell? ((x.add (i * 5)).add j) = some u) ∧ (∃ a' c, q.r.u = .slice a' q.r.cs.length c ∧ Cls W a' q.r.cs.length c q.r.cs) ∧ q.r.k.length ≤ 9223372036854775807 ∧ q.un.length ≤ 9223372036854775807 ∧ ∀ c ∈ q.r.cs, c.t.length ≤ 9223372036854775807 := by
      intro i hi
      obtain ⟨cs', h1, h2⟩ := hcell i hi
      obtain ⟨_, h3l, h3⟩ := World.cells?_some h1
      obtain ⟨q, ad, cap', rfl, hu, hk, hun, hw, hx⟩ := trod_act h2
      refine ⟨q, fun j u hj => ?_, ⟨ad, cap', hu, hw⟩, hk, hun, hx⟩
      have hjl : j < 5 := by
        have := (Array.getElem?_eq_some_iff.1 hj).1
        rwa [ac_size] at this
      have h4 := h3 j hjl
      rw [h4]
      rw [← hj]
      simp
    obtain ⟨V0, hV0⟩ := choose_at key
    obtain ⟨V, hV⟩ : ∃ V : Nat → Ac, ∀ i, i < m → ((∀ j u, (V i).arr[j]? = some u → W.cell? ((x.add (i * 5)).add j) = some u) ∧ (∃ a' c, (V i).r.u = .slice a' (V i).r.cs.length c ∧ Cls W a' (V i).r.cs.length c (V i).r.cs) ∧ (V i).r.k.length ≤ 9223372036854775807 ∧ (V i).un.length ≤ 9223372036854775807 ∧ ∀ c ∈ (V i).r.cs, c.t.length ≤ 9223372036854775807) := by
      refine ⟨fun i => (V0 i).getD Ac.zero, fun i hi => ?_⟩
      obtain ⟨q, hq, hp⟩ := hV0 i hi
      simp only [hq, Option.getD_some]
      exact hp
    have hgd : ∀ i, i < len → ((List.range len).map V).getD i Ac.zero = V i := fun i hi => by simp [List.getD, hi]
    refine ⟨(List.range len).map V, ⟨⟨by simp, hl, by unfold maxLen at hm; omega, ?_⟩, ?_⟩, ?_⟩
    · by_cases hz : m = 0
      · exact .inl hz
      · right
        obtain ⟨b, off, spot⟩ := x
        have h0 := (hV 0 (by omega)).1 0 _ rfl
        have hspot : spot = none := by simpa [Addr.add] using World.cell?_spot h0
        subst hspot
        refine ⟨b, off, rfl, fun i hi j u hj => ?_⟩
        rw [hgd i hi] at hj
        have hq := (hV i (by omega)).1
        have e1 : (⟨b, off, none⟩ : Addr).add (i * 5) = ⟨b, off + i * 5, none⟩ := by
          by_cases h0 : i * 5 = 0
          · rw [h0]; rfl
          · simp [Addr.add, h0]
        rw [e1] at hq
        have e2 : (⟨b, off + i * 5, none⟩ : Addr).add j = ⟨b, off + i * 5 + j, none⟩ := by
          by_cases h0 : j = 0
          · subst h0; rfl
          · simp [Addr.add, h0]
        have h5 := hq j u hj
        rw [e2] at h5
        exact h5
    · intro i hi
      have h9 := (hV i (by omega)).2.1
      rwa [hgd i hi]
    · intro g hg
      obtain ⟨i, hi, rfl⟩ := List.mem_map.1 hg
      exact (hV i (by have := List.mem_range.1 hi; omega)).2.2
set_option maxRecDepth 100000 in
theorem mdrop_nil {w : World} (s : ByteArray) : Calls Try.prog 21 #[.pointer none, .string s] w (fun e w' => e = .returned (.bool false) ∧ w' = w) := by
  go_enter Try.func21, Try.ntmps21
  go_wp2_with (go_at_call 60; (with_reducible refine (smade_nil _).mono ?_); rintro e9 w9 ⟨rfl, rfl⟩)
  go_ret
  exact ⟨rfl, rfl⟩
set_option maxRecDepth 100000 in
theorem mdrop_un {w : World} {q : Nat} (hq : w.cell? ⟨q, 0, none⟩ = some (.bool false)) (s : ByteArray) : Calls Try.prog 21 #[.pointer (some ⟨q, 0, none⟩), .string s] w (fun e w' => e = .returned (.bool false) ∧ w' = w) := by
  go_enter Try.func21, Try.ntmps21
  go_wp2_with (go_at_call 60; (with_reducible refine (smade_c hq).mono ?_); rintro e9 w9 ⟨rfl, rfl⟩)
  go_ret
  exact ⟨rfl, rfl⟩
set_option maxRecDepth 100000 in
theorem mcopy_nil {w : World} : Calls Try.prog 30 #[.pointer none] w (fun e w' => e = .returned (.pointer none) ∧ w' = w) := by
  go_enter Try.func30, Try.ntmps30
  go_wp2_with (go_at_call 60; (with_reducible refine (smade_nil _).mono ?_); rintro e9 w9 ⟨rfl, rfl⟩)
  go_ret
  exact ⟨rfl, rfl⟩
set_option maxRecDepth 100000 in
theorem mcopy_un {w : World} {q : Nat} (hq : w.cell? ⟨q, 0, none⟩ = some (.bool false)) : Calls Try.prog 30 #[.pointer (some ⟨q, 0, none⟩)] w (fun e w' => e = .returned (.pointer none) ∧ w' = w) := by
  go_enter Try.func30, Try.ntmps30
  go_wp2_with (go_at_call 60; (with_reducible refine (smade_c hq).mono ?_); rintro e9 w9 ⟨rfl, rfl⟩)
  go_ret
  exact ⟨rfl, rfl⟩
theorem act_cells {W : World} {q : Nat} {v0 v1 v2 v3 v4 : Value} (h : W.heap[q]? = some (.cells #[v0, v1, v2, v3, v4] 32 (0, 0))) :
    W.cell? ⟨q, 0, none⟩ = some v0 ∧ W.cell? ⟨q, 1, none⟩ = some v1 ∧ W.cell? ⟨q, 2, none⟩ = some v2 ∧ W.cell? ⟨q, 3, none⟩ = some v3 ∧ W.cell? ⟨q, 4, none⟩ = some v4 := by
  refine ⟨?_, ?_, ?_, ?_, ?_⟩ <;> (rw [cell_of_row W q _ _ _ (0, 0) h]; rfl)
set_option maxRecDepth 100000 in
set_option maxHeartbeats 6400000 in
theorem snobody_walk (w : World) (kd n9 : Int) (k s9 : ByteArray) (x : Option Addr) (m cap : Nat) :
    Calls Try.prog 7 #[.agg #[.int .i64 kd, .string k, .slice x m cap, .string s9, .int .i64 n9]] w (Tells (.bool true) w) := by
  have hb1 := ((alloc_below w (.cells #[.int .i64 kd, .string k, .slice x m cap, .string s9, .int .i64 n9] 32)).alloc (by simp) (.cells #[.bool false, .int .i64 0, .slice none 0 0] 57)).alloc (by simp; omega) (.cells #[.pointer none, .pointer (some ⟨w.heap.size + 1, 0, none⟩)] 23)
  have e0 := heap_below (heap_below (heap_alloc_new w (.cells #[.int .i64 kd, .string k, .slice x m cap, .string s9, .int .i64 n9] 32)) (alloc_below _ (.cells #[.bool false, .int .i64 0, .slice none 0 0] 57))) (alloc_below _ (.cells #[.pointer none, .pointer (some ⟨w.heap.size + 1, 0, none⟩)] 23))
  have e1 := heap_below (heap_alloc_new (w.alloc (.cells #[.int .i64 kd, .string k, .slice x m cap, .string s9, .int .i64 n9] 32)) (.cells #[.bool false, .int .i64 0, .slice none 0 0] 57)) (alloc_below _ (.cells #[.pointer none, .pointer (some ⟨w.heap.size + 1, 0, none⟩)] 23))
  have e2 := heap_alloc_new ((w.alloc (.cells #[.int .i64 kd, .string k, .slice x m cap, .string s9, .int .i64 n9] 32)).alloc (.cells #[.bool false, .int .i64 0, .slice none 0 0] 57)) (.cells #[.pointer none, .pointer (some ⟨w.heap.size + 1, 0, none⟩)] 23)
  simp only [World.size_alloc] at e1 e2
  have HLV := Lib.hid (fun W (h : Below w.heap.size w W) => slives_c W)
  go_enter Try.func7, Try.ntmps7
  go_upto_region 2 with (fail)
  obtain ⟨B, hB⟩ : ∃ q, w.heap.size = q := ⟨_, rfl⟩
  rw [hB] at e0 e1 e2 hb1 ⊢
  have HBe := Lib.hid hB
  obtain ⟨W1, hW1⟩ : ∃ X, ((w.alloc (.cells #[.int .i64 kd, .string k, .slice x m cap, .string s9, .int .i64 n9] 32)).alloc (.cells #[.bool false, .int .i64 0, .slice none 0 0] 57)).alloc (.cells #[.pointer none, .pointer (some ⟨B + 1, 0, none⟩)] 23) = X := ⟨_, rfl⟩
  rw [hW1] at e0 e1 e2 hb1 ⊢
  have HB1 := Lib.hid hb1
  have HE0 := Lib.hid (fun W (h : Below W1.heap.size W1 W) => act_cells (heap_below e0 h))
  have HE1 := Lib.hid (fun W (h : Below W1.heap.size W1 W) => (map_cells (heap_below e1 h)).1)
  have HE2 := Lib.hid (fun W (h : Below W1.heap.size W1 W) => heap_below e2 h)
  clear e0 e1 e2 hb1 hW1 hB
  go_loopw [11] (fun j wr => ∃ i : Nat, i ≤ 2 ∧ j = .int .i64 (i : Int) ∧ Below W1.heap.size W1 wr) (fun j _ => 2 - (intOf j).toNat)
  case atStart => exact ⟨0, by omega, rfl, Below.refl _ _⟩
  case round =>
    obtain ⟨i, hi, rfl, hb⟩ := hrel
    have hs := HE2.out wr hb
    rcases (by omega : i = 0 ∨ i = 1 ∨ i = 2) with rfl | rfl | rfl
    · have p0 : wr.cell? ⟨B + 1 + 1, 0, none⟩ = some (.pointer none) := by rw [cell_of_row _ (B + 1 + 1) 0 _ _ (0, 0) hs]; rfl
      obtain ⟨-, a1, a2, -, -⟩ := HE0.out wr hb
      have HB := Lib.hid hb
      clear hs hb
      go_upto_region 5 with (go_at_call 22; (with_reducible refine (mgetr_nil k).mono ?_); rintro e2 w2 ⟨rfl, hb2⟩; have HB2 := Lib.hid (HB.out.trans (hb2.mono HB.out.size)); clear hb2)
      have hal := alloc_below w2 (.cells #[.string ⟨#[]⟩, .slice none 0 0] 30)
      have HB3 := Lib.hid (HB2.out.trans (hal.mono HB2.out.size))
      obtain ⟨W3, hW3⟩ : ∃ X, w2.alloc (.cells #[.string ⟨#[]⟩, .slice none 0 0] 30) = X := ⟨_, rfl⟩
      rw [hW3] at HB3 ⊢
      clear hal hW3 p0 a1 a2
      obtain ⟨-, a1, a2, -, -⟩ := HE0.out W3 HB3.out
      go_wp2_with (first
        | (go_at_call 17; (with_reducible refine (mset_nil _ ⟨_, _, rfl⟩).mono ?_); rintro e4 w4 ⟨rfl, hb4⟩; have HB4 := Lib.hid (HB3.out.trans (hb4.mono HB3.out.size)); clear hb4 a1 a2; obtain ⟨-, a1, a2, -, -⟩ := HE0.out w4 HB4.out)
        | (go_at_call 21; (with_reducible refine (mdrop_nil _).mono ?_); rintro e5 w5 ⟨rfl, rfl⟩)
        | (go_at_call 28; (with_reducible refine mlen_nil.mono ?_); rintro e6 w6 ⟨rfl, rfl⟩)
        | (go_at_call 24; (with_reducible refine (mscan_nil _ _ _).mono ?_); rintro e7 w7 ⟨rfl, hb7⟩; have HB7 := Lib.hid (HB4.out.trans (hb7.mono HB4.out.size)); clear hb7)
        | (go_at_call 30; (with_reducible refine mcopy_nil.mono ?_); rintro e8 w8 ⟨rfl, rfl⟩))
      go_roundw
      case rel => exact ⟨1, by omega, by go_num, HB7.out⟩
      case measure => simp [intOf]
    · have p0 : wr.cell? ⟨B + 1 + 1, 1, none⟩ = some (.pointer (some ⟨B + 1, 0, none⟩)) := by rw [cell_of_row _ (B + 1 + 1) 1 _ _ (0, 0) hs]; rfl
      obtain ⟨-, a1, a2, -, -⟩ := HE0.out wr hb
      have h1 := HE1.out wr hb
      have HB := Lib.hid hb
      clear hs hb
      go_upto_region 5 with (go_at_call 22; (with_reducible refine (mgetr_un h1 k).mono ?_); rintro e2 w2 ⟨rfl, hb2⟩; have HB2 := Lib.hid (HB.out.trans (hb2.mono HB.out.size)); clear hb2)
      have hal := alloc_below w2 (.cells #[.string ⟨#[]⟩, .slice none 0 0] 30)
      have HB3 := Lib.hid (HB2.out.trans (hal.mono HB2.out.size))
      obtain ⟨W3, hW3⟩ : ∃ X, w2.alloc (.cells #[.string ⟨#[]⟩, .slice none 0 0] 30) = X := ⟨_, rfl⟩
      rw [hW3] at HB3 ⊢
      clear hal hW3 p0 a1 a2 h1
      obtain ⟨-, a1, a2, -, -⟩ := HE0.out W3 HB3.out
      have h1 := HE1.out W3 HB3.out
      go_wp2_with (first
        | (go_at_call 17; (with_reducible refine (mset_un h1 _ ⟨_, _, rfl⟩).mono ?_); rintro e4 w4 ⟨rfl, hb4⟩; have HB4 := Lib.hid (HB3.out.trans (hb4.mono HB3.out.size)); clear hb4 a1 a2 h1; obtain ⟨-, a1, a2, -, -⟩ := HE0.out w4 HB4.out; have h1 := HE1.out w4 HB4.out)
        | (go_at_call 21; (with_reducible refine (mdrop_un h1 _).mono ?_); rintro e5 w5 ⟨rfl, rfl⟩)
        | (go_at_call 28; (with_reducible refine (mlen_un h1).mono ?_); rintro e6 w6 ⟨rfl, rfl⟩)
        | (go_at_call 24; (with_reducible refine (mscan_un h1 _ _ _).mono ?_); rintro e7 w7 ⟨rfl, hb7⟩; have HB7 := Lib.hid (HB4.out.trans (hb7.mono HB4.out.size)); clear hb7 h1; have h1 := HE1.out w7 HB7.out)
        | (go_at_call 30; (with_reducible refine (mcopy_un h1).mono ?_); rintro e8 w8 ⟨rfl, rfl⟩))
      go_roundw
      case rel => exact ⟨2, by omega, by go_num, HB7.out⟩
      case measure => simp [intOf]
    · have HB := Lib.hid (HB1.out.trans (hb.mono (by have h8 := HBe.out; have h9 := HB1.out.size; omega)))
      clear hs hb
      go_wp2_with (go_at_call 15; (with_reducible refine (slives_c _).mono ?_); rintro e8 w8 ⟨rfl, hb8⟩)
      go_ret
      exact ⟨rfl, by rw [HBe.out]; exact HB.out.trans (hb8.mono (by have h8 := HBe.out; have h9 := HB.out.size; omega))⟩
end Go.Proofs.Ytbpgfmcnpifmdaa
end

section
namespace Go.Proofs.Ytbpgfmcnpifmdaa
open Go.RowKit Go Go.Sort Go.Lib
set_option linter.unusedVariables false
set_option maxRecDepth 20000

/-- Where the call (15) and the store (17) of Drop's region stand. -/
structure InvD (D : Nat → List Nat) (V : Nat → Value) (Oth R0 : World → Prop) (R1 : Value → World → Prop) (R2 : World → Prop) (L : Nat → Bool) (xs : Nat → Value) (W : World) : Prop where
  at' : ∀ i, i < 18 → L i = true → i ≠ 15 → i ≠ 17 → xs i = V i
  com : L 17 = false → Oth W
  r0 : L 15 = false → R0 W
  r1 : L 15 = true → L 17 = false → R1 (xs 15) W
  r2 : L 17 = true → R2 W
  dep : ∀ i, i < 18 → L i = true → ∀ j ∈ D i, L j = true
section
variable {D : Nat → List Nat} {V : Nat → Value} {Oth R0 : World → Prop} {R1 : Value → World → Prop} {R2 : World → Prop} {L : Nat → Bool} {xs : Nat → Value} {W W' : World}
theorem InvD.start (h : ∀ i, i < 18 → L i = false) (hr : R0 W) (ho : Oth W) : InvD D V Oth R0 R1 R2 L xs W :=
  ⟨fun i hi hL _ _ => (by rw [h i hi] at hL; cases hL), fun _ => ho, fun _ => hr, fun hL => (by rw [h 15 (by omega)] at hL; cases hL), fun hL => (by rw [h 17 (by omega)] at hL; cases hL), fun i hi hL => (by rw [h i hi] at hL; cases hL)⟩
theorem InvD.val (h : InvD D V Oth R0 R1 R2 L xs W) (i : Nat) (hi : i ≠ 15 ∧ i ≠ 17) {v : Value} (hv : v = V i) (hd : ∀ j ∈ D i, L j = true) : InvD D V Oth R0 R1 R2 (fun j => if j = i then true else L j) (fun j => if j = i then v else xs j) W := by
  have e15 : (if 15 = i then true else L 15) = L 15 := if_neg (Ne.symm hi.1)
  have e17 : (if 17 = i then true else L 17) = L 17 := if_neg (Ne.symm hi.2)
  refine ⟨fun j hj hL h1 h2 => ?_, fun hL => h.com (by rw [← e17]; exact hL), fun hL => h.r0 (by rw [← e15]; exact hL), fun hL h2 => ?_, fun hL => h.r2 (by rw [← e17]; exact hL), fun j hj hL k hk => ?_⟩
  · by_cases e : j = i
    · subst e; simpa using hv
    · simp only [if_neg e] at hL ⊢; exact h.at' j hj hL h1 h2
  · have := h.r1 (by rw [← e15]; exact hL) (by rw [← e17]; exact h2)
    rw [if_neg (Ne.symm hi.1)]
    exact this
  · by_cases e : k = i
    · subst e; simp
    · simp only [if_neg e]
      by_cases e2 : j = i
      · subst e2; exact hd k hk
      · simp only [if_neg e2] at hL; exact h.dep j hj hL k hk
theorem InvD.st15 (h : InvD D V Oth R0 R1 R2 L xs W) (h17 : L 17 = false) {v : Value} (hr : R1 v W') (ho : Oth W') (hd : ∀ j ∈ D 15, L j = true) : InvD D V Oth R0 R1 R2 (fun j => if j = 15 then true else L j) (fun j => if j = 15 then v else xs j) W' := by
  refine ⟨fun j hj hL h1 h2 => by simp only [if_neg h1] at hL ⊢; exact h.at' j hj hL h1 h2, fun _ => ho, fun hL => (by simp at hL), fun _ _ => by simpa using hr, fun hL => (by rw [if_neg (by decide), h17] at hL; cases hL), fun j hj hL k hk => ?_⟩
  by_cases e : k = 15
  · subst e; simp
  · simp only [if_neg e]
    by_cases e2 : j = 15
    · subst e2; exact hd k hk
    · simp only [if_neg e2] at hL; exact h.dep j hj hL k hk
theorem InvD.st17 (h : InvD D V Oth R0 R1 R2 L xs W) (h15 : L 15 = true) (hr : R2 W') (hd : ∀ j ∈ D 17, L j = true) (v : Value) : InvD D V Oth R0 R1 R2 (fun j => if j = 17 then true else L j) (fun j => if j = 17 then v else xs j) W' := by
  refine ⟨fun j hj hL h1 h2 => by simp only [if_neg h2] at hL ⊢; exact h.at' j hj hL h1 h2, fun hL => (by simp at hL), fun hL => (by simp [h15] at hL), fun _ hL => (by simp at hL), fun _ => hr, fun j hj hL k hk => ?_⟩
  by_cases e : k = 17
  · subst e; simp
  · simp only [if_neg e]
    by_cases e2 : j = 17
    · subst e2; exact hd k hk
    · simp only [if_neg e2] at hL; exact h.dep j hj hL k hk
theorem InvD.not17 (h : InvD D V Oth R0 R1 R2 L xs W) {i : Nat} (p : List Nat) (hL : L i = false) (hp : ∀ L : Nat → Bool, (∀ i, i < 18 → L i = true → ∀ j ∈ D i, L j = true) → L 17 = true → L i = true) : L 17 = false := by
  cases h17 : L 17 with
  | false => rfl
  | true =>
    have := hp L h.dep h17
    rw [hL] at this
    cases this
end
/-- A block that lost a row, and is stored in its place; it may be empty. -/
theorem MapB.lost {W W2 W3 : World} {vb : Value} {A C : List Blk} {b b' : Blk} (h : MapB W vb (A ++ b :: C)) (hw : Within b.g b.off (b.off + b.cap * 2) W W2) {gl cb : Nat} (hvb : vb = .slice (some ⟨gl, 0, none⟩) (A ++ b :: C).length cb)
    (h3 : W3.heap = (W2.setCell ⟨gl, A.length, none⟩ b'.val).heap) :
    At 1 107 Blk.arr W3 gl 0 cb (A ++ b' :: C) ∧ (∀ x ∈ A ++ C, 0 < x.rows.length ∧ At 2 30 Rw.arr W3 x.g x.off x.cap x.rows) ∧ (A ++ C).Pairwise Blk.Apart ∧ (∀ x ∈ A ++ C, ∀ r ∈ x.rows, OwnC W3 0 r.u r.cs ∧ r.cs.length ≤ 1000000) := by
  have hgl : gl < W.heap.size := h.ltv (by rw [hvb]; rfl)
  have hne : ∀ x ∈ A ++ b :: C, x.g ≠ gl := fun x hx e => h.kinds hx (by rw [hvb, e]; rfl)
  have hbg := hne b mem_mid
  obtain ⟨hap, hbx⟩ := apart_mid h.apart
  have hoth : ∀ k, k ≠ gl → W3.heap[k]? = W2.heap[k]? := fun k hk => by rw [h3]; exact Below.heap_setCell W2 ⟨gl, A.length, none⟩ _ k hk
  refine ⟨?_, fun x hx => ?_, hap, fun x hx r hr => ?_⟩
  · obtain ⟨gl', cb', e, hl⟩ := h.vb_some
    rw [hvb] at e
    injection e with e1 e2 e3
    injection e1 with e1
    injection e1 with e1
    subst e1 e3
    have hl2 := hl.of_block (hw.rest gl hgl (fun e => hbg e.symm))
    exact hl2.set1 (fun _ => rfl) rfl (by rw [h3, Nat.zero_add])
  · have hm := mem_other (b := b) hx
    exact ⟨(h.blk x hm).1, ((h.blk x hm).2.within rw_size hw (by rcases hbx x hx with e | e | e; exact .inl (fun e' => e e'.symm); exact .inr (.inr e); exact .inr (.inl e))).of_block (hoth _ (hne x hm))⟩
  · have ho := h.row x (mem_other hx) r hr
    refine ⟨ho.1.of_block fun k hk => ?_, ho.2⟩
    have hk1 : k ≠ gl := fun e => by
      obtain ⟨cur, hg⟩ := h.vty (k := gl) (by rw [hvb]; rfl)
      exact own_not ho.1 hk (by rw [e]; exact hg) (by decide)
    have hk2 : k ≠ b.g := fun e => by
      obtain ⟨cur, hg⟩ := h.bty (b := b) mem_mid
      exact own_not ho.1 hk (by rw [e]; exact hg) (by decide)
    exact (hoth k hk1).trans (hw.rest k (ho.1.lt k hk).2 hk2)
set_option maxRecDepth 100000 in
set_option maxHeartbeats 12800000 in
theorem mdrop_c {w : World} {q : Nat} {vb : Value} {BS : List Blk} (h : MapIn w q vb BS) (hf : (rowsOf BS).length ≤ 1000000) (key : List UInt8) :
    Calls Try.prog 21 #[.pointer (some ⟨q, 0, none⟩), .string (text key)] w (fun e w' => e = .returned (.bool (look ((rowsOf BS).map Rw.pr) key).isSome) ∧ MDone q vb BS (((rowsOf BS).map Rw.pr).filter (fun r => decide (r.1 ≠ key))) w w') := by
  have HMF := Lib.hid (mfound_c h hf key)
  obtain ⟨c0, -, -, -⟩ := map_cells h.head
  have HMI := Lib.hid h
  have HF := Lib.hid hf
  clear h hf
  go_enter Try.func21, Try.ntmps21
  go_upto_region 4 with (first
    | (go_at_call 60; (with_reducible refine (smade_c c0).mono ?_); rintro e9 w9 ⟨rfl, hw9⟩; replace hw9 := hw9.symm; subst hw9)
    | (go_at_call 61; (with_reducible refine HMF.out.mono ?_); rintro e2 w2 ⟨at', i, is, rfl, hb2, hfd⟩))
  have HM2 := Lib.hid (HMI.out.below hb2)
  have HB2 := Lib.hid hb2
  clear hb2 c0 HMF
  have hcase : (is = false ∧ ∀ r ∈ rowsOf BS, r.k ≠ key) ∨ (is = true ∧ ∃ A g off c' l C, BS = A ++ (⟨g, off, c', l⟩ : Blk) :: C ∧ at' = A.length ∧ i < l.length ∧ (l.getD i Rw.zero).k = key) := by
    rcases hfd with ⟨hat, rfl, rfl, hall⟩ | ⟨A, b, C, hbs, hat, hin, hlo, hhi, his⟩
    · exact .inl ⟨rfl, fun r hr e => by
        have := hall r hr
        rw [e, strictT.irr] at this
        cases this⟩
    · obtain ⟨g, off, c', l⟩ := b
      replace hin : i < l.length := hin
      replace his : is = ((l.getD i Rw.zero).k == key) := his
      by_cases hx : (l.getD i Rw.zero).k = key
      · exact .inr ⟨by rw [his]; simpa using hx, A, g, off, c', l, C, hbs, hat, hin, hx⟩
      · refine .inl ⟨by rw [his]; simpa using hx, ?_⟩
        subst hbs
        replace hlo : ∀ r ∈ rowsOf A ++ l.take i, Op.bytesLess r.k key = true := hlo
        replace hhi : ∀ r ∈ l.drop i ++ rowsOf C, Op.bytesLess r.k key = false := hhi
        have hpq : rowsOf (A ++ (⟨g, off, c', l⟩ : Blk) :: C) = (rowsOf A ++ l.take i) ++ (l.drop i ++ rowsOf C) := by
          rw [rowsOf_append, rowsOf_cons]
          show rowsOf A ++ (l ++ rowsOf C) = _
          rw [List.append_assoc (rowsOf A), ← List.append_assoc (l.take i) (l.drop i), List.take_append_drop]
        have hasc := HM2.out.asc
        rw [hpq] at hasc ⊢
        have hQ := all_above (asc_part hasc).2 hhi (fun y Q' e => by
          rw [drop_first hin, List.cons_append] at e
          injection e with e1 _
          rw [← e1]; exact hx)
        intro r hr e
        rcases List.mem_append.1 hr with hr | hr
        · have := hlo r hr
          rw [e, strictT.irr] at this
          cases this
        · have := hQ r hr
          rw [e, strictT.irr] at this
          cases this
  clear hfd
  rcases hcase with ⟨rfl, hno⟩ | ⟨rfl, A, g, off, c', l, C, hbs, hat, hin, hx⟩
  · have HNO := Lib.hid hno
    clear hno
    go_wp2
    go_ret
    refine ⟨by rw [look_no HNO.out]; rfl, vb, BS, HM2.out, (drop_no HNO.out).symm, Turn.of_below HB2.out, fun k hk => .inl hk, fun k hk => .inl hk⟩
  · subst hbs
    obtain ⟨gl, cb, hvb, -⟩ := HM2.out.body.vb_some
    obtain ⟨nb, hnb⟩ : ∃ z, (A ++ (⟨g, off, c', l⟩ : Blk) :: C).length = z := ⟨_, rfl⟩
    rw [hnb] at hvb
    subst hvb
    obtain ⟨hnb2, hncb, hcmax, hcc⟩ := HM2.out.body.cell_at
    have hbat : At 2 30 Rw.arr w2 g off c' l := (HM2.out.body.blk _ mem_mid).2
    obtain ⟨m, hmm⟩ : ∃ z, l.length = z := ⟨_, rfl⟩
    obtain ⟨al, hal⟩ : ∃ z, A.length = z := ⟨_, rfl⟩
    rw [hal] at hat
    subst hat
    have hcl := hbat.le
    have hcm := hbat.max
    have hvl : (⟨g, off, c', l⟩ : Blk).val = .slice (some ⟨g, off, none⟩) m c' := by simp only [Blk.val, hmm]
    rw [hvl, hal] at hcc
    have hpq : rowsOf (A ++ (⟨g, off, c', l⟩ : Blk) :: C) = (rowsOf A ++ l.take i) ++ l.getD i Rw.zero :: (l.drop (i + 1) ++ rowsOf C) := by
      rw [rowsOf_append, rowsOf_cons]
      show rowsOf A ++ (l ++ rowsOf C) = _
      rw [← List.cons_append, ← drop_first hin, List.append_assoc (rowsOf A), ← List.append_assoc (l.take i) (l.drop i), List.take_append_drop]
    have hasc := HM2.out.asc
    rw [hpq] at hasc
    have HLK := Lib.hid (show (look ((rowsOf (A ++ (⟨g, off, c', l⟩ : Blk) :: C)).map Rw.pr) key).isSome = true from by rw [hpq, look_at hasc hx]; rfl)
    have HDR := Lib.hid (drop_at hasc hx)
    have HPQ := Lib.hid hpq
    obtain ⟨n, hn⟩ : ∃ z, (rowsOf (A ++ (⟨g, off, c', l⟩ : Blk) :: C)).length = z := ⟨_, rfl⟩
    have hhd := HM2.out.head
    rw [hn] at hhd
    have hn0 : 0 < n := by rw [← hn, hpq]; simp; omega
    obtain ⟨n1, hn1⟩ : ∃ z, n - 1 = z := ⟨_, rfl⟩
    have HLN := Lib.hid (show (rowsOf A ++ (l.take i ++ l.drop (i + 1)) ++ rowsOf C).length = n1 from by
      have h9 : n = _ := hn.symm.trans (congrArg List.length hpq)
      simp at h9 ⊢
      omega)
    have hni : (n : Int) - 1 = (n1 : Int) := by omega
    have hfn : n ≤ 1000000 := by rw [← hn]; exact HF.out
    have hnw : IntKind.i64.wrap ((n : Int) - 1) = (n1 : Int) := by rw [IntKind.wrap_i64]; omega
    have hnw2 : IntKind.i64.wrap (n1 : Int) = (n1 : Int) := by rw [IntKind.wrap_i64]; omega
    obtain ⟨m0, m1, m2, mf⟩ := map_cells hhd
    have hh2 := head_size (n' := n1) hhd
    have hb2 := HM2.out.body.cellq hhd (W' := w2.setCell ⟨q, 1, none⟩ (.int .i64 (n1 : Int))) (fun k' hk' => Below.heap_setCell _ ⟨q, 1, none⟩ _ k' hk')
    have hmn : m ≤ n := by rw [← hmm, ← hn]; exact rows_le (b := ⟨g, off, c', l⟩) mem_mid
    have HKD := Lib.hid HM2.out.kinds
    have HTN := Lib.hid ((Turn.of_below HB2.out).trans ((Turn.cell w2 ⟨q, 1, none⟩ (.int .i64 (n1 : Int))).mono (F' := foot q (.slice (some ⟨gl, 0, none⟩) nb cb) (A ++ (⟨g, off, c', l⟩ : Blk) :: C)) (fun k hk _ => .inl hk)))
    have HSZ := Lib.hid (show w.heap.size ≤ (w2.setCell ⟨q, 1, none⟩ (.int .i64 (n1 : Int))).heap.size from by rw [World.size_setCell]; exact HB2.out.size)
    rw [hmm] at hin hcl
    have hall : at' < nb := by rw [← hal, ← hnb]; simp
    have HALN := Lib.hid hal
    have HNB := Lib.hid hnb
    have HL := Lib.hid hmm
    have HHD := Lib.hid hh2
    have HMB := Lib.hid hb2
    have hccq : (w2.setCell ⟨q, 1, none⟩ (.int .i64 (n1 : Int))).cell? ⟨gl, at', none⟩ = some (.slice (some ⟨g, off, none⟩) m c') := by
      have hqgl : gl ≠ q := fun e => HM2.out.kinds.2.1 (by rw [← e]; rfl)
      simp only [World.cell?, Below.heap_setCell w2 ⟨q, 1, none⟩ (.int .i64 (n1 : Int)) gl hqgl] at hcc ⊢
      exact hcc
    have HCC := Lib.hid hccq
    clear hbat hhd hn hmm hvl hal hnb hnb2 hx hpq hasc hh2 hb2 hcc hccq hn1 hn0 HMI
    go_upto_region 7 with (fail)
    generalize w2.setCell ⟨q, 1, none⟩ (.int .i64 (n1 : Int)) = W1 at *
    clear m0 m1 m2 mf hni hnw hnw2
    have HOT := Lib.hid (fun (W : World) (h : ∀ k, k < W1.heap.size → k ≠ g → W.heap[k]? = W1.heap[k]?) => (show (W.cell? ⟨q, 2, none⟩ = some (.slice (some ⟨gl, 0, none⟩) nb cb) ∧ W.cell? ⟨gl, at', none⟩ = some (.slice (some ⟨g, off, none⟩) m c') ∧ ∀ j, W.frozen? ⟨gl, j, none⟩ = false) from by
      have hqg : q ≠ g := fun e => (HKD.out.1 _ mem_mid).1 e.symm
      have hglg : gl ≠ g := fun e => (HKD.out.1 ⟨g, off, c', l⟩ mem_mid).2 (by rw [e]; rfl)
      have h1 := h q (Array.getElem?_eq_some_iff.1 HHD.out).1 hqg
      have hgl := HMB.out.ltv (k := gl) rfl
      have h2 := h gl hgl hglg
      obtain ⟨cur, hcur⟩ := HMB.out.vty (k := gl) rfl
      refine ⟨(map_cells (show HeadAt W q n1 (.slice (some ⟨gl, 0, none⟩) nb cb) from h1.trans HHD.out)).2.2.1, ?_, fun j => frozen_of_row _ gl j _ _ (h2.trans hcur)⟩
      have h3 := HCC.out
      simp only [World.cell?, h2] at h3 ⊢
      exact h3))
    have halb : (at' : Int) < (nb : Int) := by omega
    have halc : (at' : Int) < (cb : Int) := by omega
    have hip : (i : Int) + 1 = ((i + 1 : Nat) : Int) := by omega
    have hipw : IntKind.i64.wrap ((i : Int) + 1) = ((i + 1 : Nat) : Int) := by rw [IntKind.wrap_i64]; omega
    have hmf : m ≤ 1000000 := by omega
    have hbe : Below W1.heap.size W1 { W1 with drawn := W1.drawn + 1 } := ⟨rfl, rfl, rfl, Nat.le_refl _, fun _ _ => rfl⟩
    have HBE := Lib.hid hbe
    clear hbe hip hipw
    have hpw : IntKind.i64.wrap ((i : Int) + 1) = (i : Int) + 1 := by rw [IntKind.wrap_i64]; omega
    refine wp_region_inv [none, none, none, none, none, none, none, none, none, none, none, none, none, none, none, none, none, none, none, none, none, none, none, none, none, none, none, some 0, some 1, some 2, some 3, some 4, some 5, some 6, some 7, some 8, some 9, some 10, some 11, some 12, some 13, some 14, some 15, some 16, none, none, none, none, none, none, none, none, none, none, none, none, none, none, none, none, none, none, none, none] (fun i => [undef, undef, undef, undef, undef, undef, undef, undef, undef, undef, undef, undef, undef, undef, undef, undef, undef, undef].getD i undef) (InvD (fun i => [[], [0], [1], [2], [], [], [5], [6], [7], [], [8, 9], [10], [], [], [13], [11, 12, 14], [3, 4], [16, 15]].getD i []) (fun j9 => [.pointer (some ⟨q, 0, none⟩), .pointer (some ⟨q, 0, none⟩), .pointer (some ⟨q, 2, none⟩), .slice (some ⟨gl, 0, none⟩) nb cb, .int .i64 (at' : Int), .pointer (some ⟨q, 0, none⟩), .pointer (some ⟨q, 0, none⟩), .pointer (some ⟨q, 2, none⟩), .slice (some ⟨gl, 0, none⟩) nb cb, .int .i64 (at' : Int), .pointer (some ⟨gl, at', none⟩), .slice (some ⟨g, off, none⟩) m c', .int .i64 (i : Int), .int .i64 (i : Int), .int .i64 ((i : Int) + 1), undef, .pointer (some ⟨gl, at', none⟩), undef].getD j9 undef) (fun W => ∀ k, k < W1.heap.size → k ≠ g → W.heap[k]? = W1.heap[k]?) (fun W => Below W1.heap.size W1 W) (fun v W => v = .slice (some ⟨g, off, none⟩) (m - 1) c' ∧ At 2 30 Rw.arr W g off c' (l.take i ++ l.drop (i + 1)) ∧ Within g off (off + c' * 2) W1 W) (fun W => ∃ W4, At 2 30 Rw.arr W4 g off c' (l.take i ++ l.drop (i + 1)) ∧ Within g off (off + c' * 2) W1 W4 ∧ W = W4.setCell ⟨gl, at', none⟩ (.slice (some ⟨g, off, none⟩) (m - 1) c'))) (by kernel_rfl) (by kernel_rfl) rfl rfl (fun L hL => InvD.start hL HBE.out (fun k hk _ => rfl)) ?_ ?_
    · simp only [invOps, and_true]
      refine ⟨?_, ?_, ?_, ?_, ?_, ?_, ?_, ?_, ?_, ?_, ?_, ?_, ?_, ?_, ?_, ?_, ?_, ?_⟩
      · intro L xs W hI hL hn
        simp only [flowAct, List.zipWith_cons_cons, List.zipWith_nil_left]
        go_wp2_with (fail)
        exact ⟨rfl, _, rfl, hI.val 0 (by decide) rfl (fun j hj => by simp at hj)⟩
      · intro L xs W hI hL hn
        simp [invNeeds, Region.binds] at hn
        have hd : ∀ j ∈ ([0] : List Nat), L j = true := by
          intro j hj
          simp only [List.mem_cons, List.not_mem_nil, or_false] at hj
          rcases hj with rfl <;> simp only [hn]
        have e0 : xs 0 = .pointer (some ⟨q, 0, none⟩) := hI.at' 0 (by decide) (by simp only [hn]) (by decide) (by decide)
        simp only [flowAct, List.zipWith_cons_cons, List.zipWith_nil_left]
        simp only [e0]
        go_wp2_with (fail)
        exact ⟨rfl, _, rfl, hI.val 1 (by decide) rfl (fun j hj => hd j (by simpa using hj))⟩
      · intro L xs W hI hL hn
        simp [invNeeds, Region.binds] at hn
        have hd : ∀ j ∈ ([1] : List Nat), L j = true := by
          intro j hj
          simp only [List.mem_cons, List.not_mem_nil, or_false] at hj
          rcases hj with rfl <;> simp only [hn]
        have e1 : xs 1 = .pointer (some ⟨q, 0, none⟩) := hI.at' 1 (by decide) (by simp only [hn]) (by decide) (by decide)
        simp only [flowAct, List.zipWith_cons_cons, List.zipWith_nil_left]
        simp only [e1]
        go_wp2_with (fail)
        exact ⟨rfl, _, rfl, hI.val 2 (by decide) rfl (fun j hj => hd j (by simpa using hj))⟩
      · intro L xs W hI hL hn
        simp [invNeeds, Region.binds] at hn
        have hd : ∀ j ∈ ([2] : List Nat), L j = true := by
          intro j hj
          simp only [List.mem_cons, List.not_mem_nil, or_false] at hj
          rcases hj with rfl <;> simp only [hn]
        have e2 : xs 2 = .pointer (some ⟨q, 2, none⟩) := hI.at' 2 (by decide) (by simp only [hn]) (by decide) (by decide)
        have h17 : L 17 = false := hI.not17 [] hL (fun L hd9 h17 => (hd9 16 (by decide) (hd9 17 (by decide) h17 16 (by simp)) 3 (by simp)))
        obtain ⟨m2, -, -⟩ := HOT.out W (hI.com h17)
        simp only [flowAct, List.zipWith_cons_cons, List.zipWith_nil_left]
        simp only [e2]
        go_wp2_with (fail)
        exact ⟨rfl, _, rfl, hI.val 3 (by decide) rfl (fun j hj => hd j (by simpa using hj))⟩
      · intro L xs W hI hL hn
        simp only [flowAct, List.zipWith_cons_cons, List.zipWith_nil_left]
        go_wp2_with (fail)
        exact ⟨rfl, _, rfl, hI.val 4 (by decide) rfl (fun j hj => by simp at hj)⟩
      · intro L xs W hI hL hn
        simp only [flowAct, List.zipWith_cons_cons, List.zipWith_nil_left]
        go_wp2_with (fail)
        exact ⟨rfl, _, rfl, hI.val 5 (by decide) rfl (fun j hj => by simp at hj)⟩
      · intro L xs W hI hL hn
        simp [invNeeds, Region.binds] at hn
        have hd : ∀ j ∈ ([5] : List Nat), L j = true := by
          intro j hj
          simp only [List.mem_cons, List.not_mem_nil, or_false] at hj
          rcases hj with rfl <;> simp only [hn]
        have e5 : xs 5 = .pointer (some ⟨q, 0, none⟩) := hI.at' 5 (by decide) (by simp only [hn]) (by decide) (by decide)
        simp only [flowAct, List.zipWith_cons_cons, List.zipWith_nil_left]
        simp only [e5]
        go_wp2_with (fail)
        exact ⟨rfl, _, rfl, hI.val 6 (by decide) rfl (fun j hj => hd j (by simpa using hj))⟩
      · intro L xs W hI hL hn
        simp [invNeeds, Region.binds] at hn
        have hd : ∀ j ∈ ([6] : List Nat), L j = true := by
          intro j hj
          simp only [List.mem_cons, List.not_mem_nil, or_false] at hj
          rcases hj with rfl <;> simp only [hn]
        have e6 : xs 6 = .pointer (some ⟨q, 0, none⟩) := hI.at' 6 (by decide) (by simp only [hn]) (by decide) (by decide)
        simp only [flowAct, List.zipWith_cons_cons, List.zipWith_nil_left]
        simp only [e6]
        go_wp2_with (fail)
        exact ⟨rfl, _, rfl, hI.val 7 (by decide) rfl (fun j hj => hd j (by simpa using hj))⟩
      · intro L xs W hI hL hn
        simp [invNeeds, Region.binds] at hn
        have hd : ∀ j ∈ ([7] : List Nat), L j = true := by
          intro j hj
          simp only [List.mem_cons, List.not_mem_nil, or_false] at hj
          rcases hj with rfl <;> simp only [hn]
        have e7 : xs 7 = .pointer (some ⟨q, 2, none⟩) := hI.at' 7 (by decide) (by simp only [hn]) (by decide) (by decide)
        have h17 : L 17 = false := hI.not17 [] hL (fun L hd9 h17 => (hd9 10 (by decide) (hd9 11 (by decide) (hd9 15 (by decide) (hd9 17 (by decide) h17 15 (by simp)) 11 (by simp)) 10 (by simp)) 8 (by simp)))
        obtain ⟨m2, -, -⟩ := HOT.out W (hI.com h17)
        simp only [flowAct, List.zipWith_cons_cons, List.zipWith_nil_left]
        simp only [e7]
        go_wp2_with (fail)
        exact ⟨rfl, _, rfl, hI.val 8 (by decide) rfl (fun j hj => hd j (by simpa using hj))⟩
      · intro L xs W hI hL hn
        simp only [flowAct, List.zipWith_cons_cons, List.zipWith_nil_left]
        go_wp2_with (fail)
        exact ⟨rfl, _, rfl, hI.val 9 (by decide) rfl (fun j hj => by simp at hj)⟩
      · intro L xs W hI hL hn
        simp [invNeeds, Region.binds] at hn
        have hd : ∀ j ∈ ([8, 9] : List Nat), L j = true := by
          intro j hj
          simp only [List.mem_cons, List.not_mem_nil, or_false] at hj
          rcases hj with rfl | rfl <;> simp only [hn]
        have e8 : xs 8 = .slice (some ⟨gl, 0, none⟩) nb cb := hI.at' 8 (by decide) (by simp only [hn]) (by decide) (by decide)
        have e9 : xs 9 = .int .i64 (at' : Int) := hI.at' 9 (by decide) (by simp only [hn]) (by decide) (by decide)
        simp only [flowAct, List.zipWith_cons_cons, List.zipWith_nil_left]
        simp only [e8, e9]
        go_wp2_with (fail)
        exact ⟨rfl, _, rfl, hI.val 10 (by decide) rfl (fun j hj => hd j (by simpa using hj))⟩
      · intro L xs W hI hL hn
        simp [invNeeds, Region.binds] at hn
        have hd : ∀ j ∈ ([10] : List Nat), L j = true := by
          intro j hj
          simp only [List.mem_cons, List.not_mem_nil, or_false] at hj
          rcases hj with rfl <;> simp only [hn]
        have e10 : xs 10 = .pointer (some ⟨gl, at', none⟩) := hI.at' 10 (by decide) (by simp only [hn]) (by decide) (by decide)
        have h17 : L 17 = false := hI.not17 [] hL (fun L hd9 h17 => (hd9 15 (by decide) (hd9 17 (by decide) h17 15 (by simp)) 11 (by simp)))
        obtain ⟨-, c0, -⟩ := HOT.out W (hI.com h17)
        simp only [flowAct, List.zipWith_cons_cons, List.zipWith_nil_left]
        simp only [e10]
        go_wp2_with (fail)
        exact ⟨rfl, _, rfl, hI.val 11 (by decide) rfl (fun j hj => hd j (by simpa using hj))⟩
      · intro L xs W hI hL hn
        simp only [flowAct, List.zipWith_cons_cons, List.zipWith_nil_left]
        go_wp2_with (fail)
        exact ⟨rfl, _, rfl, hI.val 12 (by decide) rfl (fun j hj => by simp at hj)⟩
      · intro L xs W hI hL hn
        simp only [flowAct, List.zipWith_cons_cons, List.zipWith_nil_left]
        go_wp2_with (fail)
        exact ⟨rfl, _, rfl, hI.val 13 (by decide) rfl (fun j hj => by simp at hj)⟩
      · intro L xs W hI hL hn
        simp [invNeeds, Region.binds] at hn
        have hd : ∀ j ∈ ([13] : List Nat), L j = true := by
          intro j hj
          simp only [List.mem_cons, List.not_mem_nil, or_false] at hj
          rcases hj with rfl <;> simp only [hn]
        have e13 : xs 13 = .int .i64 (i : Int) := hI.at' 13 (by decide) (by simp only [hn]) (by decide) (by decide)
        simp only [flowAct, List.zipWith_cons_cons, List.zipWith_nil_left]
        simp only [e13]
        go_wp2_with (fail)
        exact ⟨rfl, _, rfl, hI.val 14 (by decide) rfl (fun j hj => hd j (by simpa using hj))⟩
      · intro L xs W hI hL hn
        simp [invNeeds, Region.binds] at hn
        have hd : ∀ j ∈ ([11, 12, 14] : List Nat), L j = true := by
          intro j hj
          simp only [List.mem_cons, List.not_mem_nil, or_false] at hj
          rcases hj with rfl | rfl | rfl <;> simp only [hn]
        have e11 : xs 11 = .slice (some ⟨g, off, none⟩) m c' := hI.at' 11 (by decide) (by simp only [hn]) (by decide) (by decide)
        have e12 : xs 12 = .int .i64 (i : Int) := hI.at' 12 (by decide) (by simp only [hn]) (by decide) (by decide)
        have e14 : xs 14 = .int .i64 ((i : Int) + 1) := hI.at' 14 (by decide) (by simp only [hn]) (by decide) (by decide)
        have h17 : L 17 = false := hI.not17 [] hL (fun L hd9 h17 => (hd9 17 (by decide) h17 15 (by simp)))
        have hr0 := hI.r0 hL
        have hbat : At 2 30 Rw.arr W g off c' l := ((HMB.out.blk _ mem_mid).2).below hr0
        have HDE := Lib.hid (delRw_c (i := i) hbat (by rw [HL.out]; exact hin) (by rw [HL.out]; exact hmf) (fun x hx => rw_one ((HMB.out.row ⟨g, off, c', l⟩ mem_mid x hx).1)))
        rw [HL.out, show ((i + 1 : Nat) : Int) = (i : Int) + 1 from by omega] at HDE
        have HR0 := Lib.hid hr0
        clear hbat hr0
        simp only [flowAct, List.zipWith_cons_cons, List.zipWith_nil_left]
        simp only [e11, e12, e14]
        go_wp2_with (go_at_call 64; (with_reducible refine HDE.out.mono ?_); rintro e9 w9 ⟨rfl, hat9, hw9⟩)
        rw [HL.out]
        exact ⟨rfl, _, rfl, hI.st15 h17 ⟨rfl, hat9, (Within.of_below HR0.out).trans hw9⟩ (fun k hk hn => (hw9.rest k (by have := HR0.out.size; omega) hn).trans (HR0.out.block k hk)) (fun j hj => hd j (by simpa using hj))⟩
      · intro L xs W hI hL hn
        simp [invNeeds, Region.binds] at hn
        have hd : ∀ j ∈ ([3, 4] : List Nat), L j = true := by
          intro j hj
          simp only [List.mem_cons, List.not_mem_nil, or_false] at hj
          rcases hj with rfl | rfl <;> simp only [hn]
        have e3 : xs 3 = .slice (some ⟨gl, 0, none⟩) nb cb := hI.at' 3 (by decide) (by simp only [hn]) (by decide) (by decide)
        have e4 : xs 4 = .int .i64 (at' : Int) := hI.at' 4 (by decide) (by simp only [hn]) (by decide) (by decide)
        simp only [flowAct, List.zipWith_cons_cons, List.zipWith_nil_left]
        simp only [e3, e4]
        go_wp2_with (fail)
        exact ⟨rfl, _, rfl, hI.val 16 (by decide) rfl (fun j hj => hd j (by simpa using hj))⟩
      · intro L xs W hI hL hn
        simp [invNeeds, Region.binds] at hn
        have hd : ∀ j ∈ ([16, 15] : List Nat), L j = true := by
          intro j hj
          simp only [List.mem_cons, List.not_mem_nil, or_false] at hj
          rcases hj with rfl | rfl <;> simp only [hn]
        have e16 : xs 16 = .pointer (some ⟨gl, at', none⟩) := hI.at' 16 (by decide) (by simp only [hn]) (by decide) (by decide)
        have h15 : L 15 = true := by simp only [hn]
        obtain ⟨e15, ha, hwt⟩ := hI.r1 h15 hL
        obtain ⟨-, c0, cf⟩ := HOT.out W (hI.com hL)
        have HR2 := Lib.hid (show (fun W => ∃ W4, At 2 30 Rw.arr W4 g off c' (l.take i ++ l.drop (i + 1)) ∧ Within g off (off + c' * 2) W1 W4 ∧ W = W4.setCell ⟨gl, at', none⟩ (.slice (some ⟨g, off, none⟩) (m - 1) c')) (W.setCell ⟨gl, at', none⟩ (.slice (some ⟨g, off, none⟩) (m - 1) c')) from ⟨W, ha, hwt, rfl⟩)
        clear ha hwt
        simp only [flowAct, List.zipWith_cons_cons, List.zipWith_nil_left]
        simp only [e16, e15]
        go_wp2_with (fail)
        exact ⟨rfl, undef, rfl, hI.st17 h15 HR2.out (fun j hj => hd j (by simpa using hj)) undef⟩
    · intro L xs W3 hI hL
      obtain ⟨W4, hat4, hw4, hW3⟩ := hI.r2 (hL 17 (by decide))
      have hm1 : (l.take i ++ l.drop (i + 1)).length = m - 1 := by have := HL.out; simp; omega
      have HM1 := Lib.hid hm1
      have hlost := HMB.out.lost (b' := ⟨g, off, c', l.take i ++ l.drop (i + 1)⟩) (W3 := W3) hw4 (gl := gl) (cb := cb) (by rw [HNB.out]) (by rw [hW3, HALN.out]; simp only [Blk.val, hm1])
      have HLS := Lib.hid hlost
      have hqg : q ≠ g := fun e => (HKD.out.1 _ mem_mid).1 e.symm
      have hqgl : q ≠ gl := fun e => HKD.out.2.1 (by rw [e]; rfl)
      have hh3 : HeadAt W3 q n1 (.slice (some ⟨gl, 0, none⟩) nb cb) := by
        rw [hW3]
        exact (Below.heap_setCell W4 ⟨gl, at', none⟩ _ q hqgl).trans ((hw4.rest q (Array.getElem?_eq_some_iff.1 HHD.out).1 hqg).trans HHD.out)
      have HH3 := Lib.hid hh3
      have HT3 := Lib.hid (show Turn (foot q (.slice (some ⟨gl, 0, none⟩) nb cb) (A ++ (⟨g, off, c', l⟩ : Blk) :: C)) w W3 from by
        rw [hW3]
        exact HTN.out.trans (((Turn.of_within hw4).mono (fun k hk _ => by subst hk; exact .inr (.inr ⟨_, mem_mid, rfl⟩))).trans ((Turn.cell W4 ⟨gl, at', none⟩ _).mono (fun k hk _ => by have hk : k = gl := hk; subst hk; exact .inr (.inl rfl)))))
      have HW3 := Lib.hid hW3
      have HW4 := Lib.hid hw4
      have HA4 := Lib.hid hat4
      have HS3 := Lib.hid (show w.heap.size ≤ W3.heap.size from by rw [hW3, World.size_setCell]; have h1 := HSZ.out; have h2 := hw4.size; omega)
      have hla : W3.cell? ⟨gl, at', none⟩ = some (.slice (some ⟨g, off, none⟩) (m - 1) c') := by
        have h1 := hlost.1.ls (z := Blk.zero) blk_size
        obtain ⟨b8, o8, e8, hc8⟩ := h1.at (k := at') (by have := HALN.out; simp; omega)
        injection e8 with e8
        injection e8 with e81 e82
        subst e81 e82
        have h8 := hc8 W3 (Below.refl _ _) 0 (.slice (some ⟨g, off, none⟩) (m - 1) c') (by
          rw [← HALN.out, List.getD_eq_getElem?_getD, List.getElem?_append_right (Nat.le_refl _), Nat.sub_self]
          simp [Blk.arr, Blk.val]
          have h9 := HL.out
          omega)
        simpa using h8
      obtain ⟨m0, m1, m2, mf⟩ := map_cells hh3
      clear hI hL hat4 hw4 hW3 hm1 hlost hh3
      simp only [flowAct, List.zipWith_cons_cons, List.zipWith_nil_left]
      have HGC := Lib.hid (show (A ++ (⟨g, off, c', l⟩ : Blk) :: C).length = nb from HNB.out)
      by_cases h1 : m = 1
      · subst h1
        have hl0 : l.take i ++ l.drop (i + 1) = [] := List.eq_nil_of_length_eq_zero (by rw [HM1.out])
        have hal1 : (at' : Int) + 1 = ((at' + 1 : Nat) : Int) := by omega
        have hnbf : nb ≤ 1000000 := by
          have h9 := len_rowsOf (BS := A ++ (⟨g, off, c', l⟩ : Blk) :: C) (fun b hb => (HMB.out.blk b hb).1)
          rw [HNB.out] at h9
          have := HF.out
          omega
        have HDB := Lib.hid (delBk_c (i := at') HLS.out.1 (by have := HALN.out; simp; omega) (by have h9 := HNB.out; simp at h9 ⊢; omega) (fun x _ => bk_one x))
        have hlen : (A ++ (⟨g, off, c', l.take i ++ l.drop (i + 1)⟩ : Blk) :: C).length = nb := by rw [← HNB.out]; simp
        rw [hlen, show ((at' + 1 : Nat) : Int) = (at' : Int) + 1 from by omega] at HDB
        have HLE := Lib.hid hlen
        have HL0 := Lib.hid hl0
        have hpw1 : IntKind.i64.wrap ((at' : Int) + 1) = (at' : Int) + 1 := by rw [IntKind.wrap_i64]; omega
        clear hl0 hlen hal1 hnbf
        go_wp2_with (go_at_call 65; (with_reducible refine HDB.out.mono ?_); rintro e9 w9 ⟨rfl, hat9, hw9⟩; rw [HLE.out]; have HAT9 := Lib.hid hat9; have HW9 := Lib.hid hw9; have HH9 := Lib.hid (show HeadAt w9 q n1 (.slice (some ⟨gl, 0, none⟩) nb cb) from (hw9.rest q (Array.getElem?_eq_some_iff.1 HH3.out).1 hqgl).trans HH3.out); clear hat9 hw9 m0 m1 m2 mf hla; obtain ⟨m0, m1, m2, mf⟩ := map_cells HH9.out)
        go_ret
        have hh10 := head_list (vb' := .slice (some ⟨gl, 0, none⟩) (nb - 1) cb) HH9.out
        have hmid := HAT9.out
        rw [← HALN.out, out_mid] at hmid
        have hnl : (A ++ C).length = nb - 1 := by have h9 := HNB.out; simp at h9 ⊢; omega
        have hne : ∀ x ∈ A ++ C, x.g ≠ gl := fun x hx e => (HKD.out.1 x (mem_other hx)).2 (by rw [e]; rfl)
        have hbody : MapB w9 (.slice (some ⟨gl, 0, none⟩) (nb - 1) cb) (A ++ C) := by
          refine ⟨.inr ⟨gl, cb, by rw [hnl], hmid⟩, fun x hx => ⟨(HLS.out.2.1 x hx).1, (HLS.out.2.1 x hx).2.of_block (HW9.out.rest _ (HLS.out.2.1 x hx).2.lt (hne x hx))⟩, HLS.out.2.2.1, fun x hx r hr => ?_⟩
          have ho := HLS.out.2.2.2 x hx r hr
          refine ⟨ho.1.of_block fun k hk => HW9.out.rest k (ho.1.lt k hk).2 fun e => ?_, ho.2⟩
          obtain ⟨cur, hg, -⟩ := HLS.out.1.blk
          exact own_not ho.1 hk (by rw [e]; exact hg) (by decide)
        have hb10 := hbody.cellq HH9.out (W' := w9.setCell ⟨q, 2, none⟩ (.slice (some ⟨gl, 0, none⟩) (nb - 1) cb)) (fun k' hk' => Below.heap_setCell w9 ⟨q, 2, none⟩ _ k' hk')
        have hro : rowsOf (A ++ C) = (rowsOf A ++ l.take i) ++ (l.drop (i + 1) ++ rowsOf C) := by
          have h9 := HL0.out
          rw [List.append_eq_nil_iff] at h9
          rw [rowsOf_append, h9.1, h9.2]
          simp
        have hd := HDR.out
        rw [← hro, ← HPQ.out] at hd
        refine ⟨by rw [HLK.out]; rfl, _, _, ⟨?_, hb10, hd.2⟩, hd.1.symm, HT3.out.trans (((Turn.of_within HW9.out).mono (fun k hk _ => by subst hk; exact .inr (.inl rfl))).trans ((Turn.cell w9 ⟨q, 2, none⟩ _).mono (fun k hk _ => by have hk : k = q := hk; subst hk; exact .inl rfl))), fun k hk => ?_, fun k hk => ?_⟩
        · have e : (rowsOf (A ++ C)).length = n1 := by rw [← HLN.out, hro]; simp
          rw [e]
          exact hh10
        · rcases hk with rfl | hk | ⟨y, hy, rfl⟩
          · exact .inl (.inl rfl)
          · rw [ownBlock_lit] at hk
            subst hk
            exact .inl (.inr (.inl rfl))
          · exact .inl (.inr (.inr ⟨y, mem_other hy, rfl⟩))
        · obtain ⟨r, hr, hrk⟩ := cellB_iff.1 hk
          rw [hro] at hr
          refine .inl (cellB_iff.2 ⟨r, ?_, hrk⟩)
          rw [HPQ.out]
          rcases List.mem_append.1 hr with hr | hr
          · exact List.mem_append_left _ hr
          · exact List.mem_append_right _ (List.mem_cons_of_mem _ hr)
      · have hmz : ¬ ((m - 1 : Nat) : Int) = 0 := by omega
        have hput := HMB.out.put (b' := ⟨g, off, c', l.take i ++ l.drop (i + 1)⟩) (W3 := W3) HW4.out HA4.out (by rw [HM1.out]; omega) (.inl ⟨rfl, rfl, rfl⟩) (fun x hx => HMB.out.row _ mem_mid x (by
          rcases List.mem_append.1 hx with hx | hx
          · exact List.mem_of_mem_take hx
          · exact List.mem_of_mem_drop hx)) (gl := gl) (cb := cb) (by rw [HNB.out]) (by rw [HW3.out, HALN.out]; simp only [Blk.val, HM1.out])
        have HPUT := Lib.hid hput
        clear hput
        go_wp2
        go_ret
        have hro : rowsOf (A ++ (⟨g, off, c', l.take i ++ l.drop (i + 1)⟩ : Blk) :: C) = (rowsOf A ++ l.take i) ++ (l.drop (i + 1) ++ rowsOf C) := by
          rw [rowsOf_append, rowsOf_cons]
          show rowsOf A ++ ((l.take i ++ l.drop (i + 1)) ++ rowsOf C) = _
          simp
        have hd := HDR.out
        rw [← hro, ← HPQ.out] at hd
        refine ⟨by rw [HLK.out]; rfl, _, _, ⟨?_, HPUT.out, hd.2⟩, hd.1.symm, HT3.out, fun k hk => ?_, fun k hk => ?_⟩
        · have e : (rowsOf (A ++ (⟨g, off, c', l.take i ++ l.drop (i + 1)⟩ : Blk) :: C)).length = n1 := by
            rw [← HLN.out, hro]; simp
          rw [e]
          exact HH3.out
        · rcases hk with rfl | hk | ⟨y, hy, rfl⟩
          · exact .inl (.inl rfl)
          · exact .inl (.inr (.inl hk))
          · rcases List.mem_append.1 hy with hy | hy
            · exact .inl (.inr (.inr ⟨y, List.mem_append_left _ hy, rfl⟩))
            · rcases List.mem_cons.1 hy with rfl | hy
              · exact .inl (.inr (.inr ⟨_, mem_mid, rfl⟩))
              · exact .inl (.inr (.inr ⟨y, List.mem_append_right _ (List.mem_cons_of_mem _ hy), rfl⟩))
        · obtain ⟨r, hr, hrk⟩ := cellB_iff.1 hk
          rw [hro] at hr
          refine .inl (cellB_iff.2 ⟨r, ?_, hrk⟩)
          rw [HPQ.out]
          rcases List.mem_append.1 hr with hr | hr
          · exact List.mem_append_left _ hr
          · exact List.mem_append_right _ (List.mem_cons_of_mem _ hr)
end Go.Proofs.Ytbpgfmcnpifmdaa
end

section
namespace Go.Proofs.Ytbpgfmcnpifmdaa
open Go.RowKit Go Go.Sort
set_option linter.unusedVariables false
set_option maxRecDepth 20000

structure InvG (N : Nat) (SP : List Nat) (D : Nat → List Nat) (V : Nat → Value) (ph : Nat → (Nat → Value) → World → Prop) (L : Nat → Bool) (xs : Nat → Value) (W : World) : Prop where
  at' : ∀ i, i < N → L i = true → i ∉ SP → xs i = V i
  dep : ∀ i, i < N → L i = true → ∀ j ∈ D i, L j = true
  ph : ∃ p, p ≤ SP.length ∧ (∀ j, j < SP.length → L (SP.getD j 0) = decide (j < p)) ∧ ph p xs W
section
variable {N : Nat} {SP : List Nat} {D : Nat → List Nat} {V : Nat → Value} {ph : Nat → (Nat → Value) → World → Prop} {L : Nat → Bool} {xs : Nat → Value} {W W' : World}
theorem InvG.start (h : ∀ i, i < N → L i = false) (hs : ∀ i ∈ SP, i < N) (hp : ph 0 xs W) : InvG N SP D V ph L xs W :=
  ⟨fun i hi hL => (by rw [h i hi] at hL; cases hL), fun i hi hL => (by rw [h i hi] at hL; cases hL), 0, Nat.zero_le _, fun j hj => by
    rw [h _ (hs _ (by rw [List.getD_eq_getElem?_getD, List.getElem?_eq_getElem hj]; exact List.getElem_mem hj))]
    rfl, hp⟩
theorem getD_mem_nat {l : List Nat} {j : Nat} (hj : j < l.length) : l.getD j 0 ∈ l := by
  rw [List.getD_eq_getElem?_getD, List.getElem?_eq_getElem hj]; exact List.getElem_mem hj
theorem InvG.val (h : InvG N SP D V ph L xs W) (hc : ∀ p xs xs' W, (∀ j, j ∈ SP → xs j = xs' j) → ph p xs W → ph p xs' W) (i : Nat) (hi : i ∉ SP) {v : Value} (hv : v = V i) (hd : ∀ j ∈ D i, L j = true) : InvG N SP D V ph (fun j => if j = i then true else L j) (fun j => if j = i then v else xs j) W := by
  refine ⟨fun j hj hL h1 => ?_, fun j hj hL k hk => ?_, ?_⟩
  · by_cases e : j = i
    · subst e; simpa using hv
    · simp only [if_neg e] at hL ⊢; exact h.at' j hj hL h1
  · by_cases e : k = i
    · subst e; simp
    · simp only [if_neg e]
      by_cases e2 : j = i
      · subst e2; exact hd k hk
      · simp only [if_neg e2] at hL; exact h.dep j hj hL k hk
  · obtain ⟨p, h1, h2, h3⟩ := h.ph
    refine ⟨p, h1, fun j hj => ?_, hc p xs _ W (fun j hj => ?_) h3⟩
    · rw [if_neg (fun e => hi (by rw [← e]; exact getD_mem_nat hj))]
      exact h2 j hj
    · rw [if_neg (fun e => hi (by rw [← e]; exact hj))]
theorem InvG.now (h : InvG N SP D V ph L xs W) (p0 : Nat) {k : Nat} (hk : SP.getD p0 0 = k) (hp0 : p0 < SP.length) (hL : L k = false) (hprev : p0 = 0 ∨ L (SP.getD (p0 - 1) 0) = true) : ph p0 xs W := by
  obtain ⟨p, h1, h2, h3⟩ := h.ph
  have a := h2 p0 hp0
  rw [hk, hL] at a
  have a := of_decide_eq_false a.symm
  have b : p0 ≤ p := by
    rcases hprev with e | e
    · omega
    · have c := h2 (p0 - 1) (by omega)
      rw [e] at c
      have c := of_decide_eq_true c.symm
      omega
  obtain rfl : p = p0 := by omega
  exact h3
theorem InvG.early (h : InvG N SP D V ph L xs W) (p0 : Nat) {k : Nat} (hk : SP.getD p0 0 = k) (hp0 : p0 < SP.length) (hL : L k = false) : ∃ p, p ≤ p0 ∧ ph p xs W := by
  obtain ⟨p, h1, h2, h3⟩ := h.ph
  have a := h2 p0 hp0
  rw [hk, hL] at a
  have a := of_decide_eq_false a.symm
  exact ⟨p, by omega, h3⟩
theorem InvG.step (h : InvG N SP D V ph L xs W) (hnd : ∀ i j, i < SP.length → j < SP.length → SP.getD i 0 = SP.getD j 0 → i = j) (p0 : Nat) {k : Nat} (hk : SP.getD p0 0 = k) (hp0 : p0 < SP.length) (hL : L k = false) (hprev : p0 = 0 ∨ L (SP.getD (p0 - 1) 0) = true) (v : Value)
    (hp : ph (p0 + 1) (fun j => if j = k then v else xs j) W') (hd : ∀ j ∈ D k, L j = true) : InvG N SP D V ph (fun j => if j = k then true else L j) (fun j => if j = k then v else xs j) W' := by
  have hks : k ∈ SP := by rw [← hk]; exact getD_mem_nat hp0
  refine ⟨fun j hj hL h1 => ?_, fun j hj hL i hi => ?_, p0 + 1, hp0, fun j hj => ?_, hp⟩
  · have e : j ≠ k := fun e => h1 (by rw [e]; exact hks)
    simp only [if_neg e] at hL ⊢
    exact h.at' j hj hL h1
  · by_cases e : i = k
    · subst e; simp
    · simp only [if_neg e]
      by_cases e2 : j = k
      · subst e2; exact hd i hi
      · simp only [if_neg e2] at hL; exact h.dep j hj hL i hi
  · obtain ⟨p, h1, h2, -⟩ := h.ph
    have a := h2 p0 hp0
    rw [hk, hL] at a
    have a := of_decide_eq_false a.symm
    have b : p0 ≤ p := by
      rcases hprev with e | e
      · omega
      · have c := h2 (p0 - 1) (by omega)
        rw [e] at c
        have c := of_decide_eq_true c.symm
        omega
    obtain rfl : p = p0 := by omega
    by_cases e : SP.getD j 0 = k
    · rw [if_pos e]
      have := hnd j p hj hp0 (e.trans hk.symm)
      subst this
      simp
    · rw [if_neg e, h2 j hj]
      have : j ≠ p := fun e2 => e (by rw [e2]; exact hk)
      by_cases hlt : j < p
      · rw [decide_eq_true hlt, decide_eq_true (by omega)]
      · rw [decide_eq_false hlt, decide_eq_false (by omega)]
theorem InvG.last (h : InvG N SP D V ph L xs W) (hs : ∀ i ∈ SP, i < N) (hL : ∀ i, i < N → L i = true) : ph SP.length xs W := by
  obtain ⟨p, h1, h2, h3⟩ := h.ph
  by_cases e : p = SP.length
  · subst e; exact h3
  · have a := h2 p (by omega)
    rw [hL _ (hs _ (getD_mem_nat (by omega)))] at a
    have a := of_decide_eq_true a.symm
    omega
theorem InvG.notyet (h : InvG N SP D V ph L xs W) {i : Nat} (k : Nat) (hL : L i = false) (hp : ∀ L : Nat → Bool, (∀ i, i < N → L i = true → ∀ j ∈ D i, L j = true) → L k = true → L i = true) : L k = false := by
  cases hk : L k with
  | false => rfl
  | true =>
    have := hp L h.dep hk
    rw [hL] at this
    cases this
end
/-- A slice of the call's own as a part of a block. -/
theorem OwnL.part {α : Type} {sz : Nat} {arr : α → Array Value} {ty : TypeId} {W : World} {B : Nat} {v : Value} {l : List α} (hs : ∀ c, (arr c).size = sz) (h : OwnL sz ty arr W B v l) (hp : 0 < l.length) : ∃ g cap, v = .slice (some ⟨g, 0, none⟩) l.length cap ∧ B ≤ g ∧ At sz ty arr W g 0 cap l := by
  obtain ⟨hlen, ⟨ev, hn⟩ | ⟨g, cap, cur, ev, hB, hg, hnc, hcm, hcs, htake⟩⟩ := h
  · omega
  · refine ⟨g, cap, ev, hB, hnc, by unfold maxLen at hcm; omega, cur, hg, by omega, fun j u hj => ?_⟩
    have hjl := (List.getElem?_eq_some_iff.1 hj).1
    rw [lCells_length hs] at hjl
    rw [← htake, List.getElem?_take, if_pos hjl] at hj
    rw [Nat.zero_add]
    simpa using hj
set_option maxRecDepth 100000 in
set_option maxHeartbeats 1600000 in
theorem bclone_c {w : World} {g off c : Nat} {l : List Rw} (h : At 2 30 Rw.arr w g off c l) (hp : 0 < l.length) (hf : l.length ≤ 1000000) (h1 : ∀ x ∈ l, ∀ u ∈ (Rw.arr x).toList, u.oneCell' = true) :
    Calls Try.prog 68 #[.slice (some ⟨g, off, none⟩) l.length c] w (fun e w' => ∃ g' c', e = .returned (.slice (some ⟨g', 0, none⟩) l.length c') ∧ w.heap.size ≤ g' ∧ At 2 30 Rw.arr w' g' 0 c' l ∧ Below w.heap.size w w') := by
  obtain ⟨i0, hi, hz0, hz1, hz2⟩ := info_parts Try.infoRw
  have q22 : ∀ (w : World) (a : Option Addr) (n c n' c' : Nat), (binOp .eql 107 (.slice a n c) (.slice none n' c')).run Try.prog w = .ok (.bool a.isNone) w := fun w a n c n' c' => Lib.run_eql_slice_nil w _ _ a n c n' c' Try.underlying107
  have hll := lCells_length (arr := Rw.arr) rw_size l
  have hone := lCells_one_of h1
  have HC := Lib.hid h.cell
  obtain ⟨n, hn⟩ : ∃ z, l.length = z := ⟨_, rfl⟩
  have HN := Lib.hid hn
  rw [hn] at hll hp hf ⊢
  have HLL := Lib.hid hll
  have HO := Lib.hid hone
  clear h hone hll hn h1
  have HQC := Lib.hid (fun (j : Nat) (u : Value) (hj : (lCells Rw.arr l)[j]? = some u) => (show (w.alloc (.cells #[] 30)).cell? ((⟨g, off, none⟩ : Addr).add j) = some u from by
    have h9 := HC.out j u hj
    rw [Addr.add_lit]
    exact Lib.cell?_alloc_some _ h9))
  go_enter Try.func68, Try.ntmps68
  go_wp2_with (at_builtin; refine wpList_append_own_wide _ rfl _ _ 107 rfl w.heap.size 30 i0 _ 2 40 Try.underlying107 hi hz0 hz1 hz2 rfl (by decide) _ _ _ rfl (World.ownsRow_made w #[] 0 (Nat.le_refl _) (Nat.zero_le _) rfl) ⟨g, off, none⟩ n c (lCells Rw.arr l) rfl HLL.out HQC.out HO.out (by unfold maxLen; omega) (by omega) (by simp) ?_; intro v' w' h2 h3 h4)
  have hbw : Below w.heap.size w w' := ((Below.refl _ w).alloc (Nat.le_refl _) _).grown h3 (by simp) (fun k e => by
    have := congrArg (fun o => o) e
    injection e with e
    subst e
    exact Nat.le_refl _)
  have hol : OwnL 2 30 Rw.arr w' w.heap.size v' l := by
    unfold OwnL
    rw [HN.out]
    simpa using h2
  obtain ⟨g', c', ev, hg, hat⟩ := hol.part rw_size (by rw [HN.out]; exact hp)
  rw [HN.out] at ev
  subst ev
  have HAT := Lib.hid hat
  have HBW := Lib.hid hbw
  clear h2 h3 h4 hol hat hbw
  go_wp2
  go_ret
  exact ⟨g', c', rfl, hg, HAT.out, HBW.out⟩
end Go.Proofs.Ytbpgfmcnpifmdaa
end

section
namespace Go.Proofs.Ytbpgfmcnpifmdaa
open Go.RowKit Go Go.Sort
set_option linter.unusedVariables false
set_option maxRecDepth 20000

set_option maxRecDepth 100000 in
set_option maxHeartbeats 6400000 in
theorem rrowsame2_c {w : World} {x x2 : Option Addr} {m cap m2 cap2 : Nat} {la lb : List Cl} (hl : Cls w x m cap la) (hl2 : Cls w x2 m2 cap2 lb) (k k2 : List UInt8) :
    Calls Try.prog 25 #[.agg #[.string (text k), .slice x m cap], .agg #[.string (text k2), .slice x2 m2 cap2]] w (Tells (.bool (k == k2 && decide (la = lb))) w) := by
  have hll := hl.len
  have hle := hl.le
  have hmax := hl.max
  have hll2 := hl2.len
  have hle2 := hl2.le
  have hmax2 := hl2.max
  have HL := Lib.hid hl
  have HL2 := Lib.hid hl2
  have HLN := Lib.hid (And.intro hll hll2)
  have hte := text_eqb k k2
  obtain ⟨u, hu⟩ : ∃ z, text k = z := ⟨_, rfl⟩
  obtain ⟨u', hu'⟩ : ∃ z, text k2 = z := ⟨_, rfl⟩
  obtain ⟨K, hK⟩ : ∃ z, (k == k2) = z := ⟨_, rfl⟩
  obtain ⟨R, hR⟩ : ∃ z, decide (la = lb) = z := ⟨_, rfl⟩
  rw [hu, hu', hK] at hte
  rw [hu, hu', hK, hR]
  have HRV := Lib.hid hR
  have hb := (alloc_below w (.cells #[.string u, .slice x m cap] 30)).alloc (by simp) (.cells #[.string u', .slice x2 m2 cap2] 30)
  have hr0 := heap_alloc_new w (.cells #[.string u, .slice x m cap] 30)
  have hr := heap_below hr0 (alloc_below (w.alloc (.cells #[.string u, .slice x m cap] 30)) (.cells #[.string u', .slice x2 m2 cap2] 30))
  have hr2 := heap_alloc_new (w.alloc (.cells #[.string u, .slice x m cap] 30)) (.cells #[.string u', .slice x2 m2 cap2] 30)
  rw [World.size_alloc] at hr2
  clear hl hl2 hu hu' hK hR hr0 hll hll2
  go_enter Try.func25, Try.ntmps25
  go_upto_region 1 with (fail)
  obtain ⟨B, hB⟩ : ∃ q, w.heap.size = q := ⟨_, rfl⟩
  rw [hB] at hr hr2 ⊢
  have HB1 := Lib.hid hb
  clear hB hb
  generalize (w.alloc (.cells #[.string u, .slice x m cap] 30)).alloc (.cells #[.string u', .slice x2 m2 cap2] 30) = W1 at *
  have HR1 := Lib.hid hr
  have HR2 := Lib.hid hr2
  obtain ⟨r0, r1, -⟩ := row_cells hr
  obtain ⟨s0, s1, -⟩ := row_cells hr2
  clear hr hr2
  cases K with
  | false =>
    go_wp2
    go_ret
    exact ⟨by simp, HB1.out⟩
  | true =>
    by_cases hm : m = m2
    · subst hm
      have hmi : (m != m) = false := by simp
      go_upto_region 4 with (fail)
      clear r0 r1 s0 s1
      go_loopw [5] (fun i wr => ∃ k : Nat, k ≤ m ∧ i = .int .i64 (k : Int) ∧ (∀ j, j < k → la.getD j Cl.zero = lb.getD j Cl.zero) ∧ Below w.heap.size w wr ∧ wr.heap[B]? = some (.cells #[.string u, .slice x m cap] 30 (0, 0)) ∧ wr.heap[B + 1]? = some (.cells #[.string u', .slice x2 m cap2] 30 (0, 0))) (fun i _ => m - (intOf i).toNat)
      case atStart => exact ⟨0, by omega, rfl, fun j hj => by omega, HB1.out, HR1.out, HR2.out⟩
      case round =>
        clear HB1 HR1 HR2
        obtain ⟨i, hk, rfl, hE, hB, hr, hr2⟩ := hrel
        obtain ⟨-, r1, -⟩ := row_cells hr
        have HE := Lib.hid hE
        have HB := Lib.hid hB
        have HR := Lib.hid hr
        have HR2 := Lib.hid hr2
        clear hE hB hr hr2
        by_cases hlt : i < m
        · have hki : (i : Int) < (m : Int) := by omega
          have hki1 : (i : Int) < (cap : Int) := by omega
          have hki2 : (i : Int) < (cap2 : Int) := by omega
          obtain ⟨bk, off, rfl, hat⟩ := HL.out.at hlt
          obtain ⟨bk2, off2, rfl, hat2⟩ := HL2.out.at hlt
          obtain ⟨xx, hx⟩ : ∃ y, la.getD i Cl.zero = y := ⟨_, rfl⟩
          obtain ⟨yy, hy⟩ : ∃ y, lb.getD i Cl.zero = y := ⟨_, rfl⟩
          rw [hx] at hat
          rw [hy] at hat2
          have HX := Lib.hid hx
          have HY := Lib.hid hy
          clear hx hy
          obtain ⟨n1, s1, a1, b1, g1, t1, d1, e1⟩ := xx
          obtain ⟨n2, s2, a2, b2, g2, t2, d2, e2⟩ := yy
          have hs := fun W => rsame_c n1 s1 a1 b1 g1 t1 d1 e1 n2 s2 a2 b2 g2 t2 d2 e2 W
          obtain ⟨C, hC⟩ : ∃ z, sameC ⟨n1, s1, a1, b1, g1, t1, d1, e1⟩ ⟨n2, s2, a2, b2, g2, t2, d2, e2⟩ = z := ⟨_, rfl⟩
          simp only [hC] at hs
          have HS := Lib.hid hs
          have HC := Lib.hid hC
          have HPW := Lib.hid (fun W (h : Below wr.heap.size wr W) => hat W (HB.out.trans (h.mono HB.out.size)))
          have HQW := Lib.hid (fun W (h : Below wr.heap.size wr W) => hat2 W (HB.out.trans (h.mono HB.out.size)))
          have HRB := Lib.hid (fun W (h : Below wr.heap.size wr W) => row_cells (heap_below HR.out h))
          have HRC := Lib.hid (fun W (h : Below wr.heap.size wr W) => row_cells (heap_below HR2.out h))
          clear hat hat2 hs hC
          go_upto_region 6 with (fail)
          clear r1
          refine wp_region_flow [none, none, none, none, none, none, none, none, none, none, none, none, none, none, none, none, none, none, none, none, none, none, none, none, none, none, none, some 0, some 1, some 2, some 3, some 4, some 5, some 6, some 7, some 8, some 9, some 10, some 11] (fun i => [u27, u28, u29, u30, u31, u32, u33, u34, u35, u36, u37, u38].getD i undef) [(fun v _ => v = .pointer (some ⟨B, 1, none⟩)), (fun v _ => v = .slice (some ⟨bk, off, none⟩) m cap), (fun v _ => v = .int .i64 (i : Int)), (fun v _ => v = .pointer (some ⟨bk, off + i * 8, none⟩)), (fun v _ => v = .agg #[.int .i64 n1, .int .i64 s1, .int .i64 a1, .int .i64 b1, .bool g1, .string (text t1), .int .i64 d1, .int .i64 e1]), (fun v _ => v = .pointer (some ⟨B + 1, 1, none⟩)), (fun v _ => v = .slice (some ⟨bk2, off2, none⟩) m cap2), (fun v _ => v = .int .i64 (i : Int)), (fun v _ => v = .pointer (some ⟨bk2, off2 + i * 8, none⟩)), (fun v _ => v = .agg #[.int .i64 n2, .int .i64 s2, .int .i64 a2, .int .i64 b2, .bool g2, .string (text t2), .int .i64 d2, .int .i64 e2]), (fun v _ => v = .bool C), (fun v _ => v = .bool (!C))] (by kernel_rfl) (by kernel_rfl) rfl rfl rfl ?_ ?_ ?_
          · intro g hg v X Y hX hY hv
            simp only [List.mem_cons, List.not_mem_nil, or_false] at hg
            rcases hg with rfl | rfl | rfl | rfl | rfl | rfl | rfl | rfl | rfl | rfl | rfl | rfl
            all_goals first
              | exact hv
              | exact hv.kept hY
          · simp only [flowOps, and_true]
            refine ⟨?_, ?_, ?_, ?_, ?_, ?_, ?_, ?_, ?_, ?_, ?_, ?_⟩
            · intro xs W hW hn
              simp only [flowAct, List.zipWith_cons_cons, List.zipWith_nil_left]
              go_wp2_with (fail)
              exact ⟨rfl, _, rfl, Below.refl _ _, rfl⟩
            · intro xs W hW hn
              obtain ⟨-, r1, -⟩ := HRB.out W hW
              simp [flowNeeds, Region.binds] at hn
              simp only [flowAct, List.zipWith_cons_cons, List.zipWith_nil_left]
              try simp only [hn]
              go_wp2_with (fail)
              exact ⟨rfl, _, rfl, Below.refl _ _, rfl⟩
            · intro xs W hW hn
              simp only [flowAct, List.zipWith_cons_cons, List.zipWith_nil_left]
              go_wp2_with (fail)
              exact ⟨rfl, _, rfl, Below.refl _ _, rfl⟩
            · intro xs W hW hn
              simp [flowNeeds, Region.binds] at hn
              simp only [flowAct, List.zipWith_cons_cons, List.zipWith_nil_left]
              try simp only [hn]
              go_wp2_with (fail)
              exact ⟨rfl, _, rfl, Below.refl _ _, rfl⟩
            · intro xs W hW hn
              obtain ⟨p0, p1, p2, p3, p4, p5, p6, p7⟩ := HPW.out W hW
              simp [flowNeeds, Region.binds] at hn
              simp only [flowAct, List.zipWith_cons_cons, List.zipWith_nil_left]
              try simp only [hn]
              go_wp2_with (fail)
              exact ⟨rfl, _, rfl, Below.refl _ _, rfl⟩
            · intro xs W hW hn
              simp only [flowAct, List.zipWith_cons_cons, List.zipWith_nil_left]
              go_wp2_with (fail)
              exact ⟨rfl, _, rfl, Below.refl _ _, rfl⟩
            · intro xs W hW hn
              obtain ⟨-, r2, -⟩ := HRC.out W hW
              simp [flowNeeds, Region.binds] at hn
              simp only [flowAct, List.zipWith_cons_cons, List.zipWith_nil_left]
              try simp only [hn]
              go_wp2_with (fail)
              exact ⟨rfl, _, rfl, Below.refl _ _, rfl⟩
            · intro xs W hW hn
              simp only [flowAct, List.zipWith_cons_cons, List.zipWith_nil_left]
              go_wp2_with (fail)
              exact ⟨rfl, _, rfl, Below.refl _ _, rfl⟩
            · intro xs W hW hn
              simp [flowNeeds, Region.binds] at hn
              simp only [flowAct, List.zipWith_cons_cons, List.zipWith_nil_left]
              try simp only [hn]
              go_wp2_with (fail)
              exact ⟨rfl, _, rfl, Below.refl _ _, rfl⟩
            · intro xs W hW hn
              obtain ⟨q0, q1, q2, q3, q4, q5, q6, q7⟩ := HQW.out W hW
              simp [flowNeeds, Region.binds] at hn
              simp only [flowAct, List.zipWith_cons_cons, List.zipWith_nil_left]
              try simp only [hn]
              go_wp2_with (fail)
              exact ⟨rfl, _, rfl, Below.refl _ _, rfl⟩
            · intro xs W hW hn
              simp [flowNeeds, Region.binds] at hn
              simp only [flowAct, List.zipWith_cons_cons, List.zipWith_nil_left]
              simp only [hn]
              go_wp2_with (go_at_call 67; (with_reducible refine (HS.out _).mono ?_); rintro e9 w9 ⟨rfl, hb9⟩)
              exact ⟨rfl, _, rfl, hb9, rfl⟩
            · intro xs W hW hn
              simp [flowNeeds, Region.binds] at hn
              simp only [flowAct, List.zipWith_cons_cons, List.zipWith_nil_left]
              try simp only [hn]
              go_wp2_with (fail)
              exact ⟨rfl, _, rfl, Below.refl _ _, rfl⟩
          · intro xs W hW hall
            simp only [flowAll, and_true, Nat.zero_add, Nat.reduceAdd] at hall
            obtain ⟨-, -, -, -, -, -, -, -, -, -, -, e11⟩ := hall
            simp only [flowAct, List.zipWith_cons_cons, List.zipWith_nil_left]
            simp only [e11]
            have HB5 := Lib.hid (HB.out.trans (hW.mono HB.out.size))
            have HR5 := Lib.hid (heap_below HR.out hW)
            have HR6 := Lib.hid (heap_below HR2.out hW)
            clear hW e11 HPW HQW HRB HRC HS HB HR HR2
            cases C with
            | true =>
              have HCT := Lib.hid ((same_iff _ _).1 HC.out)
              go_wp2
              go_roundw
              case rel =>
                refine ⟨i + 1, by omega, by go_num, fun j hj => ?_, HB5.out, HR5.out, HR6.out⟩
                by_cases e : j = i
                · subst e; rw [HX.out, HY.out]; exact HCT.out
                · exact HE.out j (by omega)
              case measure => simp [intOf]; omega
            | false =>
              have HNE := Lib.hid (show ¬ la = lb from fun e => by
                subst e
                have h1 := HC.out
                rw [HX.out] at HY
                have h2 := HY.out
                rw [h2, (same_iff _ _).2 rfl] at h1
                cases h1)
              have HD := Lib.hid (show R = false by rw [← HRV.out]; exact decide_eq_false HNE.out)
              go_wp2
              go_ret
              exact ⟨by rw [HD.out]; rfl, HB5.out⟩
        · obtain rfl : i = m := by omega
          have HD := Lib.hid (show R = true by rw [← HRV.out]; exact decide_eq_true (list_ext_getD (z := Cl.zero) (by rw [HLN.out.1, HLN.out.2]) (by rw [HLN.out.1]; exact HE.out)))
          go_wp2
          go_ret
          exact ⟨by rw [HD.out]; rfl, HB.out⟩
    · have hmi : ¬ (m : Int) = (m2 : Int) := by omega
      have hmb : ((m : Int) == (m2 : Int)) = false := by rw [beq_eq_false_iff_ne]; exact hmi
      have HD := Lib.hid (show R = false by rw [← HRV.out]; exact decide_eq_false fun e => hm (by rw [← HLN.out.1, ← HLN.out.2, e]))
      go_wp2
      go_ret
      exact ⟨by rw [HD.out]; rfl, HB1.out⟩
end Go.Proofs.Ytbpgfmcnpifmdaa
end

section
namespace Go.Proofs.Ytbpgfmcnpifmdaa
open Go.RowKit Go Go.Sort
set_option linter.unusedVariables false
set_option maxRecDepth 20000

set_option maxRecDepth 100000 in
set_option maxHeartbeats 6400000 in
theorem rall2_c {w : World} {a b : Option Addr} {m ca m2 cb : Nat} {LA LB : List Rw} (ha : RwsAt w a m ca LA) (hb : RwsAt w b m2 cb LB) :
    Calls Try.prog 26 #[.slice a m ca, .slice b m2 cb] w (Tells (.bool (decide (LA.map Rw.pr = LB.map Rw.pr))) w) := by
  have hal := ha.1.len
  have hale := ha.1.le
  have hamx := ha.1.max
  have hbl := hb.1.len
  have hble := hb.1.le
  have hbmx := hb.1.max
  by_cases hm : m = m2
  · subst hm
    have HCA := Lib.hid ha
    have HCB := Lib.hid hb
    have HAL := Lib.hid hal
    have HBL := Lib.hid hbl
    clear ha hb hal hbl
    have hmi : (m != m) = false := by simp
    obtain ⟨R, hR⟩ : ∃ z, decide (LA.map Rw.pr = LB.map Rw.pr) = z := ⟨_, rfl⟩
    rw [hR]
    have HR := Lib.hid hR
    clear hR
    go_enter Try.func26, Try.ntmps26
    go_upto_region 4 with (fail)
    go_loopw [5] (fun i wr => ∃ k : Nat, k ≤ m ∧ i = .int .i64 (k : Int) ∧ (∀ j, j < k → (LA.getD j Rw.zero).pr = (LB.getD j Rw.zero).pr) ∧ Below w.heap.size w wr) (fun i _ => m - (intOf i).toNat)
    case atStart => exact ⟨0, by omega, rfl, fun j hj => by omega, Below.refl _ _⟩
    case round =>
      obtain ⟨k, hk, rfl, he, hB⟩ := hrel
      have HE := Lib.hid he
      have HB := Lib.hid hB
      clear he hB
      by_cases hkm : k < m
      · have hki : (k : Int) < (m : Int) := by omega
        have hkc : (k : Int) < (ca : Int) := by omega
        have hkc2 : (k : Int) < (cb : Int) := by omega
        obtain ⟨ba, offa, aa, na, cca, rfl, hua, hna, hca, hata⟩ := HCA.out.place hkm
        obtain ⟨bb, offb, ab, nb, ccb, rfl, hub, hnb, hcb, hatb⟩ := HCB.out.place hkm
        obtain ⟨x, hx⟩ : ∃ x, LA.getD k Rw.zero = x := ⟨_, rfl⟩
        obtain ⟨y, hy⟩ : ∃ y, LB.getD k Rw.zero = y := ⟨_, rfl⟩
        rw [hx] at hata hca hna
        rw [hy] at hatb hcb hnb
        obtain ⟨kx, ux, csx⟩ := x
        obtain ⟨ky, uy, csy⟩ := y
        simp only at hata hca hna hatb hcb hnb
        have HX := Lib.hid hx
        have HY := Lib.hid hy
        have HPW := Lib.hid (fun W (h : Below wr.heap.size wr W) => hata W (HB.out.trans (h.mono HB.out.size)))
        have HQW := Lib.hid (fun W (h : Below wr.heap.size wr W) => hatb W (HB.out.trans (h.mono HB.out.size)))
        have hsm := fun W (h : Below wr.heap.size wr W) => rrowsame2_c (hca.below (HB.out.trans (h.mono HB.out.size))) (hcb.below (HB.out.trans (h.mono HB.out.size))) kx ky
        obtain ⟨C, hC⟩ : ∃ z, (kx == ky && decide (csx = csy)) = z := ⟨_, rfl⟩
        rw [hC] at hsm
        have HSM := Lib.hid hsm
        have HC := Lib.hid hC
        clear hua hub hna hnb hca hcb hata hatb hx hy hC hsm
        go_upto_region 6 with (fail)
        refine wp_region_flow [none, none, none, none, none, none, none, none, none, none, none, none, none, none, none, none, none, some 0, some 1, some 2, some 3, some 4, some 5, some 6, some 7, some 8, some 9] (fun i => [u17, u18, u19, u20, u21, u22, u23, u24, u25, u26].getD i undef) [(fun v _ => v = .slice (some ⟨ba, offa, none⟩) m ca), (fun v _ => v = .int .i64 (k : Int)), (fun v _ => v = .pointer (some ⟨ba, offa + k * 2, none⟩)), (fun v _ => v = .agg #[.string (text kx), .slice aa na cca]), (fun v _ => v = .slice (some ⟨bb, offb, none⟩) m cb), (fun v _ => v = .int .i64 (k : Int)), (fun v _ => v = .pointer (some ⟨bb, offb + k * 2, none⟩)), (fun v _ => v = .agg #[.string (text ky), .slice ab nb ccb]), (fun v _ => v = .bool C), (fun v _ => v = .bool (!C))] (by kernel_rfl) (by kernel_rfl) rfl rfl rfl ?_ ?_ ?_
        · intro g hg v X Y hX hY hv
          simp only [List.mem_cons, List.not_mem_nil, or_false] at hg
          rcases hg with rfl | rfl | rfl | rfl | rfl | rfl | rfl | rfl | rfl | rfl
          all_goals first
            | exact hv
            | exact hv.kept hY
        · simp only [flowOps, and_true]
          refine ⟨?_, ?_, ?_, ?_, ?_, ?_, ?_, ?_, ?_, ?_⟩
          · intro xs W hW hn
            simp only [flowAct, List.zipWith_cons_cons, List.zipWith_nil_left]
            go_wp2_with (fail)
            exact ⟨rfl, _, rfl, Below.refl _ _, rfl⟩
          · intro xs W hW hn
            simp only [flowAct, List.zipWith_cons_cons, List.zipWith_nil_left]
            go_wp2_with (fail)
            exact ⟨rfl, _, rfl, Below.refl _ _, rfl⟩
          · intro xs W hW hn
            simp [flowNeeds, Region.binds] at hn
            simp only [flowAct, List.zipWith_cons_cons, List.zipWith_nil_left]
            try simp only [hn]
            go_wp2_with (fail)
            exact ⟨rfl, _, rfl, Below.refl _ _, rfl⟩
          · intro xs W hW hn
            obtain ⟨p0, p1⟩ := HPW.out W hW
            simp [flowNeeds, Region.binds] at hn
            simp only [flowAct, List.zipWith_cons_cons, List.zipWith_nil_left]
            try simp only [hn]
            go_wp2_with (fail)
            exact ⟨rfl, _, rfl, Below.refl _ _, rfl⟩
          · intro xs W hW hn
            simp only [flowAct, List.zipWith_cons_cons, List.zipWith_nil_left]
            go_wp2_with (fail)
            exact ⟨rfl, _, rfl, Below.refl _ _, rfl⟩
          · intro xs W hW hn
            simp only [flowAct, List.zipWith_cons_cons, List.zipWith_nil_left]
            go_wp2_with (fail)
            exact ⟨rfl, _, rfl, Below.refl _ _, rfl⟩
          · intro xs W hW hn
            simp [flowNeeds, Region.binds] at hn
            simp only [flowAct, List.zipWith_cons_cons, List.zipWith_nil_left]
            try simp only [hn]
            go_wp2_with (fail)
            exact ⟨rfl, _, rfl, Below.refl _ _, rfl⟩
          · intro xs W hW hn
            obtain ⟨q0, q1⟩ := HQW.out W hW
            simp [flowNeeds, Region.binds] at hn
            simp only [flowAct, List.zipWith_cons_cons, List.zipWith_nil_left]
            try simp only [hn]
            go_wp2_with (fail)
            exact ⟨rfl, _, rfl, Below.refl _ _, rfl⟩
          · intro xs W hW hn
            simp [flowNeeds, Region.binds] at hn
            simp only [flowAct, List.zipWith_cons_cons, List.zipWith_nil_left]
            simp only [hn]
            go_wp2_with (go_at_call 25; (with_reducible refine (HSM.out W hW).mono ?_); rintro e9 w9 ⟨rfl, hb9⟩)
            exact ⟨rfl, _, rfl, hb9, rfl⟩
          · intro xs W hW hn
            simp [flowNeeds, Region.binds] at hn
            simp only [flowAct, List.zipWith_cons_cons, List.zipWith_nil_left]
            try simp only [hn]
            go_wp2_with (fail)
            exact ⟨rfl, _, rfl, Below.refl _ _, rfl⟩
        · intro xs W hW hall
          simp only [flowAll, and_true, Nat.zero_add, Nat.reduceAdd] at hall
          obtain ⟨-, -, -, -, -, -, -, -, -, e9⟩ := hall
          simp only [flowAct, List.zipWith_cons_cons, List.zipWith_nil_left]
          simp only [e9]
          have HB5 := Lib.hid (HB.out.trans (hW.mono HB.out.size))
          clear hW e9 HPW HQW HSM HB
          cases C with
          | true =>
            have HCC := Lib.hid (show (⟨kx, ux, csx⟩ : Rw).pr = (⟨ky, uy, csy⟩ : Rw).pr by
              have h := HC.out
              rw [Bool.and_eq_true, beq_iff_eq, decide_eq_true_eq] at h
              show (kx, csx) = (ky, csy)
              rw [h.1, h.2])
            go_wp2
            go_roundw
            case rel =>
              refine ⟨k + 1, by omega, by go_num, fun j hj => ?_, HB5.out⟩
              by_cases e : j = k
              · subst e; rw [HX.out, HY.out]; exact HCC.out
              · exact HE.out j (by omega)
            case measure => simp [intOf]; omega
          | false =>
            have HD := Lib.hid (show R = false by
              rw [← HR.out]
              refine decide_eq_false fun e => ?_
              have h1 := prs_getD (L := LA) (j := k) (by rw [HAL.out]; exact hkm)
              rw [e, prs_getD (by rw [HBL.out]; exact hkm), HX.out, HY.out] at h1
              have h2 : ky = kx ∧ csy = csx := by injection h1 with h1 h2; exact ⟨h1, h2⟩
              have h := HC.out
              rw [h2.1, h2.2] at h
              simp at h)
            go_wp2
            go_ret
            exact ⟨by rw [HD.out]; rfl, HB5.out⟩
      · obtain rfl : k = m := by omega
        have HD := Lib.hid (show R = true by
          rw [← HR.out]
          refine decide_eq_true (list_ext_getD (z := ([], [])) (by rw [List.length_map, List.length_map, HAL.out, HBL.out]) fun j hj => ?_)
          rw [List.length_map] at hj
          rw [prs_getD hj, prs_getD (by rw [HBL.out, ← HAL.out]; exact hj)]
          exact HE.out j (by rw [← HAL.out]; exact hj))
        go_wp2
        go_ret
        exact ⟨by rw [HD.out]; rfl, HB.out⟩
  · have hmi : ¬ (m : Int) = (m2 : Int) := by omega
    have hmb : ((m : Int) == (m2 : Int)) = false := by rw [beq_eq_false_iff_ne]; exact hmi
    have HD := Lib.hid (show decide (LA.map Rw.pr = LB.map Rw.pr) = false from decide_eq_false fun e => hm (by have := congrArg List.length e; rw [List.length_map, List.length_map] at this; omega))
    clear ha hb hal hbl
    go_enter Try.func26, Try.ntmps26
    go_wp2
    go_ret
    exact ⟨by rw [HD.out]; rfl, Below.refl _ _⟩
end Go.Proofs.Ytbpgfmcnpifmdaa
end

