/-
  Merged: WMA WMB WMC WMD WME EZ.
-/
import Derived.WalkKit
import Derived.Laws.CopyOwn
import Derived.WalkSmall
import Derived.Deep.QuietTactic
import Derived.StillTail
import Derived.Lib.QuietBelow
import Derived.Test.YtpejojagghfjgaaGreatDoorRows
import Derived.Lib.Hide
import Derived.BigQuiet
import Derived.BigRegion
import Derived.Deep.Cut
import Derived.Deep.MidRow
import Derived.Great.BuildSlice
import Derived.Outline
import Derived.OwnWalk
import Derived.Laws.Rows
import Derived.ChangeKeysEq
import Derived.Laws.StructEq
import Derived.Deep.DeepAppendWide
import Derived.Deep.AppendSrc
import Derived.Maps.RangeWalk
import Derived.Maps.OwnSet
import Derived.Maps.OwnOps
import Derived.Lib.MinMax
import Derived.Deep.RegionWith
import Derived.Maps.AppendAt
import Derived.Shelf.Abstract
import Derived.Lib.ConvBytes
import Derived.Lib.SlBytesConst
import Derived.WalkSpells
import Derived.WalkLawsBesides
import Derived.Lib.LaidTab
import Derived.Stop.LaidErr
import Derived.Lib.ItoaNum
import Derived.Shelf.Strings.Builder1
import Derived.Shelf.Strings.Builder2
import Derived.Shelf.Small.Bits
import Derived.Shelf.Strings.BuilderF
import Derived.Shelf.Strconv.Atoi
import Derived.Shelf.Strconv.Itoa0
import Derived.Shelf.Strconv.Itoa1
import Derived.Shelf.LaysM
import Derived.Shelf.Strconv.Itoa2
import Derived.Shelf.Strconv.Itoa3
import Derived.Shelf.Strconv.AtoiErrFast
import Derived.Shelf.Strconv.ParseIntEmpty
import Derived.Shelf.Strconv.AtoiFail
import Derived.Shelf.Strconv.Clone
import Derived.Shelf.Strconv.SyntaxError
import Derived.Shelf.LaysC
import Derived.Shelf.Strconv.ToError
import Derived.Shelf.Strconv.Lower
import Derived.Shelf.Strconv.ParseUint10
import Derived.Shelf.Strconv.ParseUint10Empty
import Derived.Shelf.Strconv.ParseUint10Any
import Derived.Shelf.Strconv.ParseInt10
import Derived.Shelf.Strconv.AtoiLong
import Derived.Shelf.Strconv.AtoiInnerAll
import Derived.Shelf.Strconv.RangeError
import Derived.Shelf.Strconv.ToErrorRange
import Derived.Shelf.Strconv.AtoiAll
import Derived.Shelf.Strconv.ErrVarAll
import Derived.Shelf.Sort.Plain
import Derived.Shelf.Strings.Prefix
import Derived.Shelf.Bits.Mul64
import Derived.Shelf.Strings.Repeat
import Derived.Ground.Names2Prog
import Derived.Shelf.Slices.Delete
import Derived.Shelf.Slices.Cells
import Derived.Shelf.Slices.In.SortNone
import Derived.Shelf.Slices.Empties
import Derived.Test.YtpejojagghfjgaaGreatDoorProg
import Derived.Lib.AtoiTie
import Derived.Lib.AtoiAll
import Derived.Lib.ItoaMem
import Derived.Lib.ItoaLen
import Derived.Lib.AtoiErrMem
import Derived.Lib.AtoiAllCases
import Derived.WideShapes
import Derived.OpenShut
import Derived.ChangeSlices
import Derived.Deep.RegionLaw
import Derived.Deep.RegionHeld3
import Derived.Sort.OwnSorted
import Derived.Sort.KeysCollected
import Derived.Deep.Slices
import Derived.Test.YtpejojagghfjgaaGreatDoorSC2

section
namespace Go.Proofs.YtpejojagghfjgaaGreatDoor
open Go.RowKit Go Go.Sort Go.Maps Go.WideMaps
set_option linter.unusedVariables false
set_option maxRecDepth 20000

/-- The numbers of the names that are segments'. -/
def numsF (L : List (List UInt8)) : List Int := L.flatMap fun l => if 0 < (readW 119 l) then [readW 119 l] else []
theorem numsF_snoc (L : List (List UInt8)) (l : List UInt8) : numsF (L ++ [l]) = numsF L ++ (if 0 < (readW 119 l) then [readW 119 l] else []) := by simp [numsF]
theorem numsF_len (L : List (List UInt8)) : (numsF L).length ≤ L.length := by
  induction L with
  | nil => simp [numsF]
  | cons a L ih =>
    rw [show numsF (a :: L) = (if 0 < (readW 119 a) then [readW 119 a] else []) ++ numsF L from rfl, List.length_append, List.length_cons]
    split
    · simp only [List.length_cons, List.length_nil]; omega
    · simp only [List.length_nil]; omega
/-- What find tells. -/
def FindPost (q : Nat) (fl : Int) (L : List (List UInt8)) (w : World) (e : Ending) (w' : World) : Prop := ∃ v, e = .returned (.agg #[.pointer (some ⟨q, 0, none⟩), .int .i64 fl, v, .int .i64 0, .int .i64 1, .int .i64 0]) ∧ OwnL 1 3 iarr w' w.heap.size v (numsF L) ∧ Below w.heap.size w w'
theorem sizePl (a b c d e f : Value) : (Tryz.prog.info? 68).map (·.size) = some (#[a, b, c, d, e, f] : Array Value).size := by kernel_rfl
theorem run_results_cellW {P : Program} {fn : Func} {p : Tmp} {ty : TypeId} (h : fn.results = #[.cell p ty]) (tmps : Array Value) (w : World) (g : Nat) (t : TypeId) (cs : Array Value) (fr : Nat × Nat) (d : TypeDesc)
    (hp : tmps.getD p undef = .pointer (some ⟨g, 0, none⟩)) (hg : w.heap[g]? = some (.cells cs t fr))
    (hu : P.underlying ty = some d) (hd : (match d with | .struct _ | .array _ _ => true | _ => false) = true) (hi : (P.info? ty).map (·.size) = some cs.size) :
    (results fn tmps).run P w = .ok (.agg cs) w := by
  have hp' : tmps[p]?.getD undef = .pointer (some ⟨g, 0, none⟩) := by simpa using hp
  simp [results, h, hp', asAddr, run_loadVar_row w g t ty cs fr d hg hu hd hi]
/-- Six cells stored, one by one. -/
theorem six_set (w : World) (R : Nat) (a b c d e f : Value) (cs : Array Value) (hcs : cs.size = 6) (h : w.heap[R]? = some (.cells cs 68 (0, 0))) : ((((((w.setCell ⟨R, 0, none⟩ a).setCell ⟨R, 1, none⟩ b).setCell ⟨R, 2, none⟩ c).setCell ⟨R, 3, none⟩ d).setCell ⟨R, 4, none⟩ e).setCell ⟨R, 5, none⟩ f).heap[R]? = some (.cells #[a, b, c, d, e, f] 68 (0, 0)) := by
  rw [heap_setCell_same _ R 5 _ 68 _ (heap_setCell_same _ R 4 _ 68 _ (heap_setCell_same _ R 3 _ 68 _ (heap_setCell_same _ R 2 _ 68 _ (heap_setCell_same _ R 1 _ 68 _ (heap_setCell_same w R 0 _ 68 _ h)))))]
  obtain ⟨l⟩ := cs
  match l, hcs with
  | [x0, x1, x2, x3, x4, x5], _ => rfl
/-- A place in a block of its own while names are read. -/
def PlB (W : World) (P q : Nat) (fl : Int) (v : Value) : Prop := W.heap[P]? = some (.cells #[.pointer (some ⟨q, 0, none⟩), .int .i64 fl, v, .int .i64 0, .int .i64 1, .int .i64 0] 68 (0, 0))
set_option maxRecDepth 100000 in
set_option maxHeartbeats 12800000 in
theorem wfind_c {w : World} {q : Nat} {st : Ds} {F : Nat → Prop} (hk : Dk w q st F) (hT : TabE w) : Calls Tryz.prog 58 #[.pointer (some ⟨q, 0, none⟩)] w (FindPost q st.fails (st.F.map Fi.nm) w) := by
  have HOK := Lib.hid hk.ok
  have HFA := Lib.hid (fun (W : World) (hb : Below w.heap.size w W) => (show Calls Tryz.prog 63 #[.pointer (some ⟨q, 0, none⟩)] W (fun e W' => e = .returned (.int .i64 st.fails) ∧ W = W') from by
    obtain ⟨m, pv, FS, h1, -⟩ := hk.below hb
    exact dfails_c h1))
  have HNA := Lib.hid (fun (W : World) (hb : Below w.heap.size w W) => (show Calls Tryz.prog 39 #[.pointer (some ⟨q, 0, none⟩)] W (NamesPost (st.F.map Fi.nm) W) from by
    obtain ⟨m, pv, FS, h1, -⟩ := hk.below hb
    exact dnames_c h1))
  have HTE := Lib.hid hT
  obtain ⟨fl, hfl⟩ : ∃ z, st.fails = z := ⟨_, rfl⟩
  rw [hfl] at HFA ⊢
  have HLN := Lib.hid (show ∀ i, ((st.F.map Fi.nm).getD i []).length ≤ 24 from fun i => by
    rw [List.getD_eq_getElem?_getD]
    cases h : (st.F.map Fi.nm)[i]? with
    | none => simp
    | some x =>
      obtain ⟨f, hf, rfl⟩ := List.mem_map.1 (List.mem_of_getElem? h)
      have := (HOK.out.each f hf).2.2
      simp
      omega)
  have HL64 := Lib.hid (show (st.F.map Fi.nm).length ≤ 64 from by rw [List.length_map]; exact HOK.out.len)
  obtain ⟨L, hL⟩ : ∃ z, st.F.map Fi.nm = z := ⟨_, rfl⟩
  rw [hL] at HNA HLN HL64 ⊢
  clear hk hT hfl hL
  have hb0 := alloc_below w (.cells #[.pointer none, .int .i64 0, .slice none 0 0, .int .i64 0, .int .i64 0, .int .i64 0] 68)
  have hr0 := heap_alloc_new w (.cells #[.pointer none, .int .i64 0, .slice none 0 0, .int .i64 0, .int .i64 0, .int .i64 0] 68)
  go_enter Tryz.func58, Tryz.ntmps58
  go_upto_region 1 with (fail)
  obtain ⟨R, hR⟩ : ∃ z, w.heap.size = z := ⟨_, rfl⟩
  have HRE := Lib.hid hR
  rw [hR] at hr0 ⊢
  have HB0 := Lib.hid hb0
  have HR0 := Lib.hid hr0
  clear hb0 hr0 hR
  generalize w.alloc (.cells #[.pointer none, .int .i64 0, .slice none 0 0, .int .i64 0, .int .i64 0, .int .i64 0] 68) = w1 at *
  go_upto_region 2 with (go_at_call 63; (with_reducible refine (HFA.out _ HB0.out).mono ?_); rintro e2 w2 ⟨rfl, rfl⟩)
  have hb1 := alloc_below w1 (.cells #[.pointer (some ⟨q, 0, none⟩), .int .i64 fl, .slice none 0 0, .int .i64 0, .int .i64 1, .int .i64 0] 68)
  have HB1 := Lib.hid (HB0.out.trans (hb1.mono HB0.out.size))
  have HR1 := Lib.hid ((hb1.block R (Array.getElem?_eq_some_iff.1 HR0.out).1).trans HR0.out)
  have HP1 := Lib.hid (show PlB (w1.alloc (.cells #[.pointer (some ⟨q, 0, none⟩), .int .i64 fl, .slice none 0 0, .int .i64 0, .int .i64 1, .int .i64 0] 68)) w1.heap.size q fl (.slice none 0 0) from heap_alloc_new w1 _)
  obtain ⟨P, hP⟩ : ∃ z, w1.heap.size = z := ⟨_, rfl⟩
  have HRP := Lib.hid (show R < P from by rw [← hP]; exact (Array.getElem?_eq_some_iff.1 HR0.out).1)
  rw [hP] at HP1 ⊢
  clear hb1 hP
  generalize w1.alloc (.cells #[.pointer (some ⟨q, 0, none⟩), .int .i64 fl, .slice none 0 0, .int .i64 0, .int .i64 1, .int .i64 0] 68) = w2 at *
  go_upto_region 3 with (go_at_call 39; (with_reducible refine (HNA.out _ HB1.out).mono ?_); rintro e3 w3 ⟨v3, rfl, ho3, hb3⟩; have htx := ho3.tx; obtain ⟨na, nc, hv3, hnl, hnm, hnat⟩ := htx; subst hv3; have HB3 := Lib.hid (HB1.out.trans (hb3.mono HB1.out.size)); have HR3 := Lib.hid ((hb3.block R (Array.getElem?_eq_some_iff.1 HR1.out).1).trans HR1.out); have HP3 := Lib.hid (show PlB w3 P q fl (.slice none 0 0) from (hb3.block P (Array.getElem?_eq_some_iff.1 HP1.out).1).trans HP1.out); clear ho3 hb3)
  have HNAT := Lib.hid hnat
  obtain ⟨n, hn⟩ : ∃ z, L.length = z := ⟨_, rfl⟩
  have HNN := Lib.hid hn
  rw [hn] at hnl HNAT HL64 ⊢
  have HN64 := HL64.out
  clear hnat hn
  have HP3L := Lib.hid (show P < w3.heap.size from (Array.getElem?_eq_some_iff.1 HP3.out).1)
  go_loopw [14] (fun i wr => ∃ (j : Nat) (v : Value), j ≤ n ∧ i = .int .i64 (j : Int) ∧ PlB wr P q fl v ∧ OwnL 1 3 iarr wr w3.heap.size v (numsF (L.take j)) ∧ Trn (fun k => k = P) w3 wr) (fun i _ => n - (intOf i).toNat)
  case atStart => exact ⟨0, _, by omega, rfl, HP3.out, World.ownsRow_nil _ _ _ _, Trn.refl⟩
  case round =>
    obtain ⟨j, v, hj, rfl, hp, hrow, htr⟩ := hrel
    have HP := Lib.hid hp
    have HROW := Lib.hid hrow
    have HTR := Lib.hid htr
    have HBW := Lib.hid (HB3.out.trans (htr.base (B := w.heap.size) HB3.out.size (fun k hk => by have h1 := HRP.out; have h2 := HRE.out; omega)))
    clear hp hrow htr
    by_cases hlt : j < n
    · have hji : (j : Int) < (n : Int) := by omega
      have hjc : (j : Int) < (nc : Int) := by omega
      obtain ⟨bn, rfl, hnat⟩ : ∃ b, na = some ⟨b, 0, none⟩ ∧ ∀ i, i < n → w3.cell? ⟨b, i, none⟩ = some (.string (text (L.getD i []))) := by
        rcases HNAT.out with h | ⟨b, h1, h2⟩
        · omega
        · exact ⟨b, h1, fun i hi => h2 i (by have := HNN.out; omega)⟩
      have hbnP : bn ≠ P := fun e => by
        have h1 := hnat j hlt
        rw [e, cell_of_row w3 P j _ _ (0, 0) HP3.out] at h1
        rcases j with _ | _ | _ | _ | _ | _ | j <;> simp at h1
      have d0 : wr.cell? ⟨bn, j, none⟩ = some (.string (text (L.getD j []))) := by
        have h1 := hnat j hlt
        have hbk := HTR.out.block bn (World.block_lt_of_cell? w3 _ h1) (fun e => hbnP e)
        simpa only [World.cell?, hbk] using h1
      have htk : L.take (j + 1) = L.take j ++ [L.getD j []] := by
        have hjl : j < L.length := by have := HNN.out; omega
        rw [List.take_add_one, List.getElem?_eq_getElem hjl, List.getD_eq_getElem?_getD, List.getElem?_eq_getElem hjl]
        rfl
      have HLI := Lib.hid (HLN.out j)
      have HNW := Lib.hid (fun (W : World) (hb : Below w.heap.size w W) => wnumber_c (L.getD j []) (by have := HLI.out; omega) (HTE.out.grown hb))
      have HST := Lib.hid (numsF_snoc (L.take j) (L.getD j []))
      rw [← htk] at HST
      obtain ⟨nm, hnm9⟩ : ∃ z, L.getD j [] = z := ⟨_, rfl⟩
      rw [hnm9] at d0 HNW HST
      obtain ⟨tx, htx⟩ : ∃ z, text nm = z := ⟨_, rfl⟩
      rw [htx] at d0 HNW
      obtain ⟨x, hx⟩ : ∃ z, readW 119 nm = z := ⟨_, rfl⟩
      rw [hx] at HNW HST
      have HJ := Lib.hid hlt
      have HLT2 := Lib.hid (show (numsF (L.take j)).length + 1 ≤ 2000000 from by have := numsF_len (L.take j); rw [List.length_take] at this; omega)
      clear hnat hbnP htk hnm9 htx hx hlt
      go_upto_region 6 with (go_at_call 18; (with_reducible refine (HNW.out _ HBW.out).mono ?_); rintro e6 w6 ⟨rfl, hb6⟩; have HB6 := Lib.hid hb6; clear hb6)
      clear d0
      have HP6 := Lib.hid (show PlB w6 P q fl v from (HB6.out.block P (Array.getElem?_eq_some_iff.1 HP.out).1).trans HP.out)
      have HROW6 := Lib.hid (HROW.out.kept HB6.out)
      have HTR6 := Lib.hid (HTR.out.then (Trn.of HB6.out))
      by_cases hx0 : 0 < x
      · rw [if_pos hx0] at HST
        obtain ⟨va, vc, hvv, -⟩ := OwnL.ls (z := (0 : Int)) iarr_size HROW6.out
        obtain ⟨vm, hvm⟩ : ∃ z, (numsF (L.take j)).length = z := ⟨_, rfl⟩
        rw [hvm] at hvv
        subst hvv
        have p2 : w6.cell? ⟨P, 2, none⟩ = some (.slice va vm vc) := by rw [cell_of_row w6 P 2 _ _ (0, 0) HP6.out]; rfl
        have HAB := Lib.hid (alloc_below w6 (.cells #[.int .i64 x] 3))
        have HOA := Lib.hid (HROW6.out.kept HAB.out)
        have HXK := Lib.hid (heap_alloc_new w6 (.cells #[.int .i64 x] 3))
        have HPA := Lib.hid (show PlB (w6.alloc (.cells #[.int .i64 x] 3)) P q fl (.slice va vm vc) from (HAB.out.block P (Array.getElem?_eq_some_iff.1 HP6.out).1).trans HP6.out)
        have HTA := Lib.hid (HTR6.out.then (Trn.of HAB.out))
        clear hvm
        go_wp2_with (at_builtin; refine wpList_append_int rfl _ _ rfl rfl HOA.out x rfl HXK.out HLT2.out HTA.out.size ?_; intro v9 w9 ho9 hg9 ha9; obtain ⟨wa, wc, hw9, -⟩ := OwnL.ls (z := (0 : Int)) iarr_size ho9; obtain ⟨wm, hwm⟩ : ∃ z, (numsF (L.take j) ++ [x]).length = z := ⟨_, rfl⟩; rw [hwm] at hw9; subst hw9; have hne9 : ∀ k, (Value.slice va vm vc).ownBlock = some k → k ≠ P := (fun k hk e => by have := (HOA.out.lt k hk).1; have := HP3L.out; omega); have HP9 := Lib.hid (show PlB w9 P q fl (.slice va vm vc) from (hg9.block P (Array.getElem?_eq_some_iff.1 HPA.out).1 (fun e => hne9 P e.symm rfl)).trans HPA.out); have HO9 := Lib.hid ho9; have HT9 := Lib.hid (show Trn (fun k => k = P) w3 w9 from HTA.out.trans (Trn.grown (F := fun k => (Value.slice va vm vc).ownBlock = some k) hg9 (fun k hk => hk)) (fun k hk => .inr (HOA.out.lt k hk).1)); have q2 : w9.cell? ⟨P, 2, none⟩ = some (.slice va vm vc) := (by rw [cell_of_row w9 P 2 _ _ (0, 0) HP9.out]; rfl); have f2 := frozen_of_row w9 P 2 _ _ HP9.out; clear ho9 hg9 ha9 hne9 hwm)
        go_roundw
        case rel =>
          refine ⟨j + 1, .slice wa wm wc, HJ.out, by go_num, ?_, ?_, HT9.out.set (.inl rfl)⟩
          · unfold PlB
            rw [heap_setCell_same w9 P 2 _ _ _ HP9.out]
            rfl
          · rw [HST.out]
            refine HO9.out.of_block (fun k hk => heap_setCell_other w9 ⟨P, 2, none⟩ k _ (fun e => ?_))
            have h1 := (HO9.out.lt k hk).1
            have h2 := HP3L.out
            have h3 : k = P := e
            omega
        case measure => simp [intOf]; have := HJ.out; omega
      · rw [if_neg hx0, List.append_nil] at HST
        have hx1 : ¬ (0 : Int) < x := hx0
        go_wp2
        go_roundw
        case rel => exact ⟨j + 1, v, HJ.out, by go_num, HP6.out, by rw [HST.out]; exact HROW6.out, HTR6.out⟩
        case measure => simp [intOf]; have := HJ.out; omega
    · obtain rfl : j = n := by omega
      have hfull : L.take j = L := List.take_of_length_le (by have := HNN.out; omega)
      rw [hfull] at HROW
      obtain ⟨va, vc, hvv, -⟩ := OwnL.ls (z := (0 : Int)) iarr_size HROW.out
      obtain ⟨vm, hvm⟩ : ∃ z, (numsF L).length = z := ⟨_, rfl⟩
      rw [hvm] at hvv
      subst hvv
      have hpp := HP.out
      have d0 : wr.cell? ⟨P, 0, none⟩ = some (.pointer (some ⟨q, 0, none⟩)) := by rw [cell_of_row wr P 0 _ _ (0, 0) hpp]; rfl
      have d1 : wr.cell? ⟨P, 1, none⟩ = some (.int .i64 fl) := by rw [cell_of_row wr P 1 _ _ (0, 0) hpp]; rfl
      have d2 : wr.cell? ⟨P, 2, none⟩ = some (.slice va vm vc) := by rw [cell_of_row wr P 2 _ _ (0, 0) hpp]; rfl
      have d3 : wr.cell? ⟨P, 3, none⟩ = some (.int .i64 0) := by rw [cell_of_row wr P 3 _ _ (0, 0) hpp]; rfl
      have d4 : wr.cell? ⟨P, 4, none⟩ = some (.int .i64 1) := by rw [cell_of_row wr P 4 _ _ (0, 0) hpp]; rfl
      have d5 : wr.cell? ⟨P, 5, none⟩ = some (.int .i64 0) := by rw [cell_of_row wr P 5 _ _ (0, 0) hpp]; rfl
      have hrr := HTR.out.heap HR3.out (fun e => by have h1 := HRP.out; omega)
      have HRR := Lib.hid hrr
      have r0 : wr.cell? ⟨R, 0, none⟩ = some (.pointer none) := by rw [cell_of_row wr R 0 _ _ (0, 0) hrr]; rfl
      have r1 : wr.cell? ⟨R, 1, none⟩ = some (.int .i64 0) := by rw [cell_of_row wr R 1 _ _ (0, 0) hrr]; rfl
      have r2 : wr.cell? ⟨R, 2, none⟩ = some (.slice none 0 0) := by rw [cell_of_row wr R 2 _ _ (0, 0) hrr]; rfl
      have r3 : wr.cell? ⟨R, 3, none⟩ = some (.int .i64 0) := by rw [cell_of_row wr R 3 _ _ (0, 0) hrr]; rfl
      have r4 : wr.cell? ⟨R, 4, none⟩ = some (.int .i64 0) := by rw [cell_of_row wr R 4 _ _ (0, 0) hrr]; rfl
      have r5 : wr.cell? ⟨R, 5, none⟩ = some (.int .i64 0) := by rw [cell_of_row wr R 5 _ _ (0, 0) hrr]; rfl
      have f0 := frozen_of_row wr R 0 _ _ hrr
      have f1 := frozen_of_row wr R 1 _ _ hrr
      have f2 := frozen_of_row wr R 2 _ _ hrr
      have f3 := frozen_of_row wr R 3 _ _ hrr
      have f4 := frozen_of_row wr R 4 _ _ hrr
      have f5 := frozen_of_row wr R 5 _ _ hrr
      clear hpp hrr hfull hvm
      go_wp2
      refine bodyPost_ret (run_results_cellW rfl _ _ R 68 _ (0, 0) _ rfl (six_set wr R _ _ _ _ _ _ _ rfl HRR.out) Tryz.underlying68 rfl (sizePl _ _ _ _ _ _)) rfl ⟨.slice va vm vc, by rfl, ?_, ?_⟩
      · refine (HROW.out.mono (Nat.le_trans HB3.out.size (Nat.le_refl _))).of_block (fun k hk => ?_)
        have hkR : k ≠ R := fun e => by have h1 := (HROW.out.lt k hk).1; have h2 := HRP.out; have h3 := HP3L.out; omega
        rw [heap_setCell_other _ ⟨R, 5, none⟩ k _ hkR, heap_setCell_other _ ⟨R, 4, none⟩ k _ hkR, heap_setCell_other _ ⟨R, 3, none⟩ k _ hkR, heap_setCell_other _ ⟨R, 2, none⟩ k _ hkR, heap_setCell_other _ ⟨R, 1, none⟩ k _ hkR, heap_setCell_other _ ⟨R, 0, none⟩ k _ hkR]
      · exact (((((HBW.out.setCell (p := ⟨R, 0, none⟩) (Nat.le_of_eq HRE.out) _).setCell (p := ⟨R, 1, none⟩) (Nat.le_of_eq HRE.out) _).setCell (p := ⟨R, 2, none⟩) (Nat.le_of_eq HRE.out) _).setCell (p := ⟨R, 3, none⟩) (Nat.le_of_eq HRE.out) _).setCell (p := ⟨R, 4, none⟩) (Nat.le_of_eq HRE.out) _).setCell (p := ⟨R, 5, none⟩) (Nat.le_of_eq HRE.out) _
end Go.Proofs.YtpejojagghfjgaaGreatDoor
end

section
namespace Go.Proofs.YtpejojagghfjgaaGreatDoor
open Go.RowKit Go Go.Sort Go.Maps Go.WideMaps
set_option linter.unusedVariables false
set_option maxRecDepth 20000

set_option maxHeartbeats 1600000 in
theorem lread_none {w : World} {p q : Nat} {bv : Value} {g : Lg} (h : LogIn w p q bv g) (hB : g.B = []) : Calls Tryz.prog 59 #[.pointer (some ⟨p, 0, none⟩)] w (fun e w' => e = .returned (.tuple #[.slice none 0 0, .bool false, .int .i64 0]) ∧ w = w') := by
  obtain ⟨a, cap, hv, -, -, -⟩ := h.place
  rw [hB] at hv
  have c2 := h.cs.2.2.1
  rw [hv] at c2
  simp only [List.length_nil] at c2
  clear h hv hB
  go_enter Tryz.func59, Tryz.ntmps59
  go_wp2
  go_step3
  go_wp2
  go_step3
  go_wp2
  go_loopw [18, 5, 6] (fun i r t wr => i = .int .i64 0 ∧ r = .slice none 0 0 ∧ t = .bool false ∧ wr = w) (fun i _ _ _ => 0)
  case atStart => exact ⟨rfl, rfl, rfl, rfl⟩
  case round =>
    obtain ⟨rfl, rfl, rfl, rfl⟩ := hrel
    go_wp2
    try rw [Exit.noGoto_ret]
    go_ret3
    exact ⟨rfl, rfl⟩
set_option maxHeartbeats 1600000 in
theorem lsettle_none {w1 W : World} {F0 G0 : Nat → Prop} {q p : Nat} {st : Ds} {g : Lg} (h : Lw w1 F0 G0 q p st g W) (hB : g.B = []) (hT : TabI W) (h2 : 0 ≤ g.next) (h3 : g.next ≤ 1000000000000) (torn : Bool) :
    Calls Tryz.prog 60 #[.pointer (some ⟨p, 0, none⟩), .bool torn] W (fun e W' => e = .returned (.int .i64 (beginL st g).1) ∧ Lw w1 F0 G0 q p (beginL st g).2.1 (beginL st g).2.2 W') := by
  have HBG := Lib.hid (lbegin_p h hT h2 h3 (by rw [hB]; simp))
  obtain ⟨bv, hl⟩ := h.cs
  obtain ⟨a, cap, hv, -, -, -⟩ := hl.place
  rw [hB] at hv
  have c2 := hl.cs.2.2.1
  rw [hv] at c2
  simp only [List.length_nil] at c2
  obtain ⟨⟨r1, s1, g1⟩, hr⟩ : ∃ z, beginL st g = z := ⟨_, rfl⟩
  rw [hr] at HBG ⊢
  simp only at HBG ⊢
  clear h hl hv hB hT h2 h3 hr
  go_enter Tryz.func60, Tryz.ntmps60
  go_wp2_with (go_at_call 110; (with_reducible refine HBG.out.mono ?_); rintro e2 w2 ⟨rfl, hl2⟩; have HL2 := Lib.hid hl2; clear hl2)
  go_ret
  exact ⟨rfl, HL2.out⟩
/-- A log that nobody has read yet. -/
def lg0 (st : Ds) (B : List Int) (size : Int) : Lg := ⟨B, 0, 1, 0, size, st.fails⟩
set_option maxRecDepth 100000 in
set_option maxHeartbeats 6400000 in
theorem wopen_none {w0 W : World} {q : Nat} {st : Ds} {F : Nat → Prop} (hd : Dk W q st F) (hF : ∀ k, F k → w0.heap.size ≤ k) (hb0 : Below w0.heap.size w0 W) (hT : TabE w0) (hrd : (st.read []).2 = 152) (hno : numsF (st.F.map Fi.nm) = []) (size : Int) (h1 : 1 ≤ size) (h2 : size ≤ 1048576)
    {s2 : Ds} {g2 : Lg} (hbg : beginL st (lg0 st [] size) = (0, s2, g2)) :
    Calls Tryz.prog 21 #[.pointer (some ⟨q, 0, none⟩), .int .i64 size] W (fun e W' => ∃ p, e = .returned (.tuple #[.pointer (some ⟨p, 0, none⟩), .slice none 0 0, .int .i64 0]) ∧ Wg w0 q p s2 g2 W') := by
  have HD := Lib.hid hd
  have HB0 := Lib.hid hb0
  have HF := Lib.hid hF
  have HTE := Lib.hid hT
  have HRD := Lib.hid (dread_c hd [] (by simp))
  rw [hrd] at HRD
  rw [show text [] = ⟨#[]⟩ from rfl] at HRD
  have HFI := Lib.hid (fun (W' : World) (hb : Below W.heap.size W W') => (show Calls Tryz.prog 58 #[.pointer (some ⟨q, 0, none⟩)] W' (FindPost q st.fails (st.F.map Fi.nm) W') from wfind_c (wdk_keep hd fun k hk => hb.block k (wdk_lt hd hk)) (hT.grown (hb0.trans (hb.mono hb0.size)))))
  have HNO := Lib.hid hno
  have HBG := Lib.hid hbg
  have n1 : ¬ size < 1 := by omega
  have n2 : ¬ 1048576 < size := by omega
  clear hd hF hb0 hT hrd hno hbg h1 h2
  go_enter Tryz.func21, Tryz.ntmps21
  go_upto_region 7 with (first
    | (go_at_call 38; (with_reducible refine HRD.out.mono ?_); rintro e1 w1 ⟨rv, rfl, hb1, -⟩; have HB1 := Lib.hid hb1; clear hb1)
    | (go_at_call 58; (with_reducible refine (HFI.out _ HB1.out).mono ?_); rintro e2 w2 ⟨fv, rfl, ho2, hb2⟩; have HO2 := Lib.hid ho2; have HB12 := Lib.hid hb2; have HB2 := Lib.hid (HB1.out.trans (hb2.mono HB1.out.size)); clear ho2 hb2))
  have hal := alloc_below w2 (.cells #[.pointer (some ⟨q, 0, none⟩), .int .i64 st.fails, fv, .int .i64 0, .int .i64 1, .int .i64 0, .int .i64 size] 70)
  have HB3 := Lib.hid (HB2.out.trans (hal.mono HB2.out.size))
  have HLI := Lib.hid (show LogIn (w2.alloc (.cells #[.pointer (some ⟨q, 0, none⟩), .int .i64 st.fails, fv, .int .i64 0, .int .i64 1, .int .i64 0, .int .i64 size] 70)) w2.heap.size q fv (lg0 st [] size) from ⟨heap_alloc_new w2 _, by
    have := HO2.out.kept hal
    rw [HNO.out] at this
    exact this.mono (Nat.zero_le _)⟩)
  have HGS := Lib.hid (show (∀ k, lgfoot w2.heap.size fv k → W.heap.size ≤ k) from fun k hk => by
    rcases hk with rfl | hk
    · exact HB2.out.size
    · exact Nat.le_trans HB1.out.size (HO2.out.lt k hk).1)
  obtain ⟨p, hp⟩ : ∃ z, w2.heap.size = z := ⟨_, rfl⟩
  rw [hp] at HLI HGS ⊢
  clear hal hp
  generalize w2.alloc (.cells #[.pointer (some ⟨q, 0, none⟩), .int .i64 st.fails, fv, .int .i64 0, .int .i64 1, .int .i64 0, .int .i64 size] 70) = w3 at *
  have HLW := Lib.hid (Lw.start (wdk_keep HD.out fun k hk => HB3.out.block k (wdk_lt HD.out hk)) ⟨fv, HLI.out, rfl⟩ (fun k hk hg => by have h1 := wdk_lt HD.out hk; have h2 := HGS.out k hg; omega))
  have HRE := Lib.hid (lread_none HLI.out rfl)
  have HSE := Lib.hid (lsettle_none HLW.out rfl (HTE.out.i.grown (HB0.out.trans (HB3.out.mono HB0.out.size))) (show (0 : Int) ≤ 1 by decide) (show (1 : Int) ≤ 1000000000000 by decide) false)
  rw [HBG.out] at HSE
  simp only at HSE
  go_wp2_with (first
    | (go_at_call 59; (with_reducible refine HRE.out.mono ?_); rintro e4 w4 ⟨rfl, rfl⟩)
    | (go_at_call 60; (with_reducible refine HSE.out.mono ?_); rintro e5 w5 ⟨rfl, hl5⟩; have HL5 := Lib.hid hl5; clear hl5))
  go_ret3
  refine ⟨p, rfl, wg_of HF.out (fun k hk => Nat.le_trans HB0.out.size (HGS.out k hk)) (HB0.out.trans (HB3.out.mono HB0.out.size)) HL5.out⟩
end Go.Proofs.YtpejojagghfjgaaGreatDoor
end

section
namespace Go.Proofs.YtpejojagghfjgaaGreatDoor
open Go.RowKit Go Go.Sort Go.Maps Go.WideMaps
set_option linter.unusedVariables false
set_option maxRecDepth 20000

def wb4 : List UInt8 := [97, 97, 97, 97]
def wex0 : Ds := Ds.new 1000
def wex : Nat → Ds × Lg
  | 0 => (beginL wex0 (lg0 wex0 [] 20)).2
  | i + 1 => (appL (wex i).1 (wex i).2 wb4).2
theorem wexA : beginL wex0 (lg0 wex0 [] 20) = (0, (wex 0).1, (wex 0).2) := by kernel_rfl
theorem wexB : (wex0.read []).2 = 152 := by kernel_rfl
theorem wexC : numsF (wex0.F.map Fi.nm) = [] := by kernel_rfl
theorem wex1 : (appL (wex 0).1 (wex 0).2 wb4).1 = (1, 0) := by kernel_rfl
theorem wex2 : (appL (wex 1).1 (wex 1).2 wb4).1 = (2, 0) := by kernel_rfl
theorem wex3 : (appL (wex 2).1 (wex 2).2 wb4).1 = (3, 0) := by kernel_rfl
theorem wexI (i : Nat) (h : i < 3) : (appL (wex i).1 (wex i).2 wb4).1 = ((i : Int) + 1, 0) := by
  rcases (by omega : i = 0 ∨ i = 1 ∨ i = 2) with rfl | rfl | rfl
  · exact wex1
  · exact wex2
  · exact wex3
theorem wexL : (wrapS wb4).length = 10 := by kernel_rfl
theorem wexZ : (wex 0).2 = ⟨[1], 0, 1, 0, 20, 0⟩ := by kernel_rfl
theorem wexK (i : Nat) : GOk (wex i).2 (2 * i) := by
  induction i with
  | zero => rw [wexZ]; exact ⟨by decide, by decide, by simp, by decide, by decide, by decide⟩
  | succ i ih => exact ih.app (wex i).1 (by rw [wexL]; decide)
theorem wexN : (wex 3).2.next = 4 := by kernel_rfl
theorem wexF : (wex 3).1.F.map Fi.nm = [nameW 119 1, nameW 119 3] := by kernel_rfl
theorem wexT : text (nameW 119 3) = ⟨#[119, 48, 48, 48, 48, 48, 48, 48, 48, 48, 48, 48, 51]⟩ := by kernel_rfl
theorem wexR : readW 119 (nameW 119 3) = 3 := by kernel_rfl
theorem wfour_bys (w : World) (m : Nat × Nat) : Bys (w.alloc (.cells #[.int .u8 97, .int .u8 97, .int .u8 97, .int .u8 97] 5 m)) (some ⟨w.heap.size, 0, none⟩) 4 4 wb4 := by
  refine ⟨rfl, Nat.le_refl _, by omega, .inr ⟨w.heap.size, 0, rfl, fun i hi => ?_⟩⟩
  have h : (w.alloc (.cells #[.int .u8 97, .int .u8 97, .int .u8 97, .int .u8 97] 5 m)).heap[w.heap.size]? = some (.cells #[.int .u8 97, .int .u8 97, .int .u8 97, .int .u8 97] 5 m) := by
    show (w.heap.push _)[w.heap.size]? = _
    simp
  unfold World.cell?
  rw [h]
  rcases (by omega : i = 0 ∨ i = 1 ∨ i = 2 ∨ i = 3) with rfl | rfl | rfl | rfl <;> rfl
theorem lapp_new {w0 W : World} {q p : Nat} {i b : Nat} (hi : i < 3) (h : Wg w0 q p (wex i).1 (wex i).2 W) (hT : TabE w0) {m : Nat × Nat} {C : Array Value} (hC : C = #[.int .u8 97, .int .u8 97, .int .u8 97, .int .u8 97]) (hb : W.heap.size = b) :
    Calls Tryz.prog 24 #[.pointer (some ⟨p, 0, none⟩), .slice (some ⟨b, 0, none⟩) 4 4] (W.alloc (.cells C 5 m)) (fun e W' => e = .returned (.tuple #[.int .i64 ((i : Int) + 1), .int .i64 0]) ∧ Wg w0 q p (wex (i + 1)).1 (wex (i + 1)).2 W') := by
  subst hb
  subst hC
  have h2 := lappend_c (h.below (alloc_below W _)) (wexK i) (by omega) hT (wfour_bys W m) (by omega)
  rw [wexI i hi] at h2
  exact h2
set_option maxRecDepth 100000 in
set_option maxHeartbeats 6400000 in
theorem wlives_c {w : World} (hT : TabE w) : Calls Tryz.prog 12 #[] w (Tells (.bool true) w) := by
  have kc := fun (w : World) (C : Array Value) (n c : Nat) => Lib.run_convert_bytes_const (P := Tryz.prog) w 34 5 C n c Tryz.underlying34 Tryz.underlying5
  have HTE := Lib.hid hT
  clear hT
  go_enter Tryz.func12, Tryz.ntmps12
  go_wp2_with (first
    | (go_at_call 9; (with_reducible refine (lv_new 1000 _ (by omega) (by omega)).mono ?_); rintro e1 w1 ⟨q, rfl, hl1⟩; have HL := Lib.hid (show Lv w w1 q wex0 from hl1); clear hl1)
    | (go_at_call 21; obtain ⟨F1, hd1, hF1, hb1⟩ := HL.out; (with_reducible refine (wopen_none hd1 hF1 hb1 HTE.out wexB wexC 20 (by omega) (by omega) wexA).mono ?_); rintro e2 w2 ⟨p, rfl, hg2⟩; clear hd1 hF1 hb1; have HG := Lib.hid hg2; clear hg2))
  clear HL
  go_loopw [27] (fun j wr => ∃ i : Nat, i ≤ 3 ∧ j = .int .i64 (i : Int) ∧ Wg w q p (wex i).1 (wex i).2 wr) (fun j _ => 3 - (intOf j).toNat)
  case atStart => exact ⟨0, by omega, rfl, HG.out⟩
  case round =>
    obtain ⟨i, hi, rfl, hg⟩ := hrel
    have HGI := Lib.hid hg
    clear hg
    by_cases hlt : i < 3
    · have hji : (i : Int) < 3 := by omega
      have hle : (i : Int) ≤ 9000 := by omega
      have HLT := Lib.hid hlt
      clear hlt
      go_wp2_with (go_at_call 24; (with_reducible refine (lapp_new HLT.out HGI.out HTE.out rfl rfl).mono ?_); rintro e3 w3 ⟨rfl, hg3⟩; have HG3 := Lib.hid hg3; clear hg3)
      go_roundw
      case rel => exact ⟨i + 1, HLT.out, by go_num, HG3.out⟩
      case measure => simp [intOf]; omega
    · obtain rfl : i = 3 := by omega
      have hji : ¬ ((3 : Nat) : Int) < 3 := by omega
      have HNX := Lib.hid (fun (W : World) (hb : Wg w q p (wex 3).1 (wex 3).2 W) => (show Calls Tryz.prog 30 #[.pointer (some ⟨p, 0, none⟩)] W (Tells (.int .i64 4) W) from by
        obtain ⟨bv, hl⟩ := hb.cs
        have := lnext_c hl
        rw [wexN] at this
        exact this))
      have HNU := Lib.hid (fun (W : World) (hb : Below w.heap.size w W) => (show Calls Tryz.prog 18 #[.string ⟨#[119, 48, 48, 48, 48, 48, 48, 48, 48, 48, 48, 48, 51]⟩] W (Tells (.int .i64 3) W) from by
        have := wnumber_c (nameW 119 3) (Nat.le_trans (nameW_len 119 3) (by omega)) (HTE.out.grown hb)
        rw [wexR, wexT] at this
        exact this))
      have HNM := Lib.hid (show Calls Tryz.prog 39 #[.pointer (some ⟨q, 0, none⟩)] wr (fun e W' => ∃ a c, e = .returned (.slice a 2 c) ∧ Below wr.heap.size wr W' ∧ 2 ≤ c ∧ ∃ b o, a = some ⟨b, o, none⟩ ∧ ∀ W2, Below W'.heap.size W' W2 → W2.cell? ⟨b, o + 1, none⟩ = some (.string ⟨#[119, 48, 48, 48, 48, 48, 48, 48, 48, 48, 48, 48, 51]⟩)) from by
        obtain ⟨F, G, ⟨m, pv, FS, h1, -⟩, -⟩ := HGI.out
        refine (dnames_c h1).mono fun e W' ⟨v, he, ho, hb⟩ => ?_
        rw [wexF] at ho
        obtain ⟨na, nc, rfl, hnl, hnm, hnat⟩ := ho.tx
        refine ⟨na, nc, he, hb, hnl, ?_⟩
        rcases hnat with h | ⟨b, rfl, h2⟩
        · rw [h] at hnl; simp at hnl
        · refine ⟨b, 0, rfl, fun W2 hb2 => ?_⟩
          have h3 := h2 1 (by simp)
          rw [Nat.zero_add]
          have hbk := hb2.block b (World.block_lt_of_cell? W' _ h3)
          simp only [World.cell?, hbk] at h3 ⊢
          exact h3)
      clear hi
      go_wp2_with (first
        | (go_at_call 39; (with_reducible refine HNM.out.mono ?_); rintro e4 w4 ⟨a4, c4, rfl, hb4, hc4, b4, o4, rfl, hat4⟩; have hx4 := hat4 w4 (Below.refl _ _); have HAT := Lib.hid hat4; have HG4 := Lib.hid (HGI.out.below hb4); clear hat4 hb4)
        | (go_at_call 30; (with_reducible refine (HNX.out _ HG4.out).mono ?_); rintro e5 w5 ⟨rfl, hb5⟩; have HG5 := Lib.hid (HG4.out.below hb5); have hx5 := HAT.out w5 hb5; clear hb5)
        | (go_at_call 18; (with_reducible refine (HNU.out _ HG5.out.b).mono ?_); rintro e6 w6 ⟨rfl, hb6⟩; have HG6 := Lib.hid (HG5.out.below hb6); clear hb6))
      go_ret
      exact ⟨rfl, HG6.out.b⟩
end Go.Proofs.YtpejojagghfjgaaGreatDoor
end

section
namespace Go.Proofs.YtpejojagghfjgaaGreatDoor
open Go.RowKit Go

theorem wnobody_walk {w : World} (hT : TabE w) (n : Int) (x : Option Addr) (m cap : Nat) :
    Calls Tryz.prog 8 #[.slice x m cap, .int .i64 n] w (Tells (.bool true) w) :=
  wnobody_rest (fun _ h => wlives_c h) hT n x m cap
end Go.Proofs.YtpejojagghfjgaaGreatDoor
end

section
namespace Go.Proofs.YtpejojagghfjgaaGreatDoor
open Go.RowKit Go Go.Sort Go.Maps Go.WideMaps
set_option linter.unusedVariables false
set_option maxRecDepth 20000

theorem padD_nm : ∀ (k n : Nat), (padD k n).all nmB = true
  | 0, _ => rfl
  | k + 1, n => by
    show (padD k (n / 10) ++ [UInt8.ofNat (48 + n % 10)]).all nmB = true
    rw [List.all_append, padD_nm k (n / 10), Bool.true_and]
    have h : n % 10 < 10 := Nat.mod_lt _ (by decide)
    generalize n % 10 = m at h
    rcases (by omega : m = 0 ∨ m = 1 ∨ m = 2 ∨ m = 3 ∨ m = 4 ∨ m = 5 ∨ m = 6 ∨ m = 7 ∨ m = 8 ∨ m = 9) with rfl | rfl | rfl | rfl | rfl | rfl | rfl | rfl | rfl | rfl <;> decide
theorem nameW_good {n : Int} (h1 : 1 ≤ n) (h2 : n ≤ 999999999999) : goodNm (nameW 119 n) = true := by
  have hl := nameW_len 119 n
  unfold nameW at hl ⊢
  rw [if_neg (by omega)] at hl ⊢
  unfold goodNm
  rw [Bool.and_eq_true]
  refine ⟨decide_eq_true ⟨by simp, by omega⟩, ?_⟩
  rw [List.all_cons, padD_nm, Bool.and_true]
  decide
theorem wnums_tells (l : List UInt8) (hl : l.length ≤ 9223372036854775807) (w : World) : Calls Tryz.prog 19 #[.string (text l)] w (Tells (.int .i64 (readW 119 l)) w) :=
  (rnumber_cW l hl w).mono fun e w' ⟨he, hw⟩ => ⟨he, hw ▸ Below.refl _ _⟩

set_option maxRecDepth 100000 in
set_option maxHeartbeats 6400000 in
theorem wnames_walk (n : Int) (l : List UInt8) {w : World} (hT : TabE w) (hmax : l.length ≤ 9223372036854775807) (h0 : -9223372036854775808 ≤ n) (h1 : n ≤ 9223372036854775807) :
    Calls Tryz.prog 4 #[.int .i64 n, .string (text l)] w (Tells (.bool true) w) := by
  have hs : (text l).size = l.length := by show l.toArray.size = _; simp
  have HT := Lib.hid hT
  by_cases h2 : 1000 < l.length
  · obtain ⟨S, hS⟩ : ∃ S, text l = S := ⟨_, rfl⟩
    rw [hS] at hs ⊢
    have hsz : (S.size : Int) = l.length := by omega
    obtain ⟨L, hL⟩ : ∃ L, l.length = L := ⟨_, rfl⟩
    rw [hL] at hsz h2
    have hgt : (1000 : Int) < (L : Int) := by omega
    clear hs hS hT h0 h1 hmax hL h2
    go_enter Tryz.func4, Tryz.ntmps4
    go_wp2_with (go_at_call 12; (with_reducible refine (wlives_c HT.out).mono ?_); rintro e w1 ⟨rfl, hb1⟩)
    go_ret
    exact ⟨rfl, hb1⟩
  · have HN := Lib.hid (wname_c n h0 h1 hT.i)
    have HR := Lib.hid (rname_cW n)
    have N1 := fun {W : World} (hT : TabE W) => wnumber_c l (by omega) hT
    have N2 := wnums_tells l (by omega)
    have N3 := fun {W : World} (hT : TabE W) => wnumber_c (nameW 119 n) (Nat.le_trans (nameW_len 119 n) (by omega)) hT
    have N4 := dgood_c (nameW 119 n) (Nat.le_trans (nameW_len 119 n) (by omega))
    obtain ⟨x, hx⟩ : ∃ q, readW 119 l = q := ⟨_, rfl⟩
    rw [hx] at N1 N2
    obtain ⟨S, hS⟩ : ∃ S, text l = S := ⟨_, rfl⟩
    rw [hS] at hs N1 N2 ⊢
    have hsz : (S.size : Int) = l.length := by omega
    obtain ⟨L, hL⟩ : ∃ L, l.length = L := ⟨_, rfl⟩
    rw [hL] at hsz h2
    have hgt : ¬ (1000 : Int) < (L : Int) := by omega
    have HN1 := Lib.hid (fun (w : World) (hT : TabE w) => @N1 w hT)
    have HN2 := Lib.hid N2
    have HLV := Lib.hid (fun (w : World) (hT : TabE w) => wlives_c hT)
    by_cases hin : 1 ≤ n ∧ n ≤ 999999999999
    · rw [readW_nameW hin.1 hin.2] at N3
      rw [nameW_good hin.1 hin.2] at N4
      obtain ⟨X, hX⟩ : ∃ X, text (nameW 119 n) = X := ⟨_, rfl⟩
      rw [hX] at HN HR N3 N4
      have HN3 := Lib.hid (fun (w : World) (hT : TabE w) => @N3 w hT)
      have HN4 := Lib.hid N4
      clear N1 N2 N3 N4 hs hS hT h0 h1 hmax hL h2 hX hin hx
      go_enter Tryz.func4, Tryz.ntmps4
      go_wp2_with (first
        | (go_at_call 16; (with_reducible refine HN.out.mono ?_); rintro e2 w2 ⟨rfl, hb2⟩; have HB := Lib.hid hb2; have HT2 := Lib.hid (HT.out.grown hb2); clear hb2)
        | (go_at_call 17; (with_reducible refine (HR.out _).mono ?_); rintro e3 w3 ⟨rfl, hb3⟩; have HB := Lib.hid (HB.out.trans (hb3.mono HB.out.size)); have HT2 := Lib.hid (HT2.out.grown hb3); clear hb3)
        | (go_at_call 18; (with_reducible refine (HN1.out _ HT2.out).mono ?_); rintro e4 w4 ⟨rfl, hb4⟩; have HB := Lib.hid (HB.out.trans (hb4.mono HB.out.size)); have HT2 := Lib.hid (HT2.out.grown hb4); clear hb4)
        | (go_at_call 19; (with_reducible refine (HN2.out _).mono ?_); rintro e5 w5 ⟨rfl, hb5⟩; have HB := Lib.hid (HB.out.trans (hb5.mono HB.out.size)); have HT2 := Lib.hid (HT2.out.grown hb5); clear hb5)
        | (go_at_call 18; (with_reducible refine (HN3.out _ HT2.out).mono ?_); rintro e6 w6 ⟨rfl, hb6⟩; have HB := Lib.hid (HB.out.trans (hb6.mono HB.out.size)); have HT2 := Lib.hid (HT2.out.grown hb6); clear hb6)
        | (go_at_call 20; (with_reducible refine (HN4.out _).mono ?_); rintro e7 w7 ⟨rfl, hb7⟩; have HB := Lib.hid (HB.out.trans (hb7.mono HB.out.size)); have HT2 := Lib.hid (HT2.out.grown hb7); clear hb7)
        | (go_at_call 12; (with_reducible refine (HLV.out _ HT2.out).mono ?_); rintro e8 w8 ⟨rfl, hb8⟩; have HB := Lib.hid (HB.out.trans (hb8.mono HB.out.size)); clear hb8))
      all_goals go_ret
      all_goals exact ⟨rfl, HB.out⟩
    · have hX : text (nameW 119 n) = (⟨#[]⟩ : ByteArray) := by
        unfold nameW
        rw [if_pos (by omega)]
        rfl
      rw [hX] at HN HR
      clear N1 N2 N3 N4 hs hS hT h0 h1 hmax hL h2 hX hin hx
      go_enter Tryz.func4, Tryz.ntmps4
      go_wp2_with (first
        | (go_at_call 16; (with_reducible refine HN.out.mono ?_); rintro e2 w2 ⟨rfl, hb2⟩; have HB := Lib.hid hb2; have HT2 := Lib.hid (HT.out.grown hb2); clear hb2)
        | (go_at_call 17; (with_reducible refine (HR.out _).mono ?_); rintro e3 w3 ⟨rfl, hb3⟩; have HB := Lib.hid (HB.out.trans (hb3.mono HB.out.size)); have HT2 := Lib.hid (HT2.out.grown hb3); clear hb3)
        | (go_at_call 18; (with_reducible refine (HN1.out _ HT2.out).mono ?_); rintro e4 w4 ⟨rfl, hb4⟩; have HB := Lib.hid (HB.out.trans (hb4.mono HB.out.size)); have HT2 := Lib.hid (HT2.out.grown hb4); clear hb4)
        | (go_at_call 19; (with_reducible refine (HN2.out _).mono ?_); rintro e5 w5 ⟨rfl, hb5⟩; have HB := Lib.hid (HB.out.trans (hb5.mono HB.out.size)); have HT2 := Lib.hid (HT2.out.grown hb5); clear hb5)
        | (go_at_call 12; (with_reducible refine (HLV.out _ HT2.out).mono ?_); rintro e8 w8 ⟨rfl, hb8⟩; have HB := Lib.hid (HB.out.trans (hb8.mono HB.out.size)); clear hb8))
      all_goals go_ret
      all_goals exact ⟨rfl, HB.out⟩
end Go.Proofs.YtpejojagghfjgaaGreatDoor
end

section
namespace Go.Proofs.YtpejojagghfjgaaGreatDoor
open Go.RowKit
set_option maxRecDepth 100000

theorem gES : Tryz.prog.globalNamed "strconv.ErrSyntax" = some 0 := by kernel_rfl
theorem gER : Tryz.prog.globalNamed "strconv.ErrRange" = some 1 := by kernel_rfl
theorem gESType : (Tryz.prog.globals[0]?).map (·.type) = some 94 := by kernel_rfl
theorem gERType : (Tryz.prog.globals[1]?).map (·.type) = some 94 := by kernel_rfl
theorem cellsES : Tryz.prog.cellsOf 210 = 1 := by kernel_rfl
theorem cellsStr : Tryz.prog.cellsOf 9 = 1 := by kernel_rfl
theorem starES : "*" ++ "errors.errorString" = "*errors.errorString" := by decide
theorem rowES (u : TypeId) (h : Tryz.prog.typeName? 3 u = some "*errors.errorString") : u = 208 :=
  typeName_ptr_named (nm := "errors.errorString") (by rw [starES]; kernel_rfl) (by kernel_rfl) (by decide) u (by rw [starES]; exact h)

theorem tabE_of_laid {W : World} (h1 : laidMet Tryz.prog [("math/bits.deBruijn32tab", Rows.laid_math_bits_deBruijn32tab), ("math/bits.deBruijn64tab", Rows.laid_math_bits_deBruijn64tab), ("internal/strconv.uint64pow10", Rows.laid_internal_strconv_uint64pow10), ("strconv.ErrRange", Rows.laid_strconv_ErrRange), ("strconv.ErrSyntax", Rows.laid_strconv_ErrSyntax)] W) : TabE W := by
  have h2 := h1.tail
  have h3 := h2.tail
  have h4 := h3.tail
  have h5 := h4.tail
  have T : Lib.TabIs Tryz.prog W "math/bits.deBruijn64tab" .u8 tab64 := Lib.tabIs_of_head (rest := [("internal/strconv.uint64pow10", Rows.laid_internal_strconv_uint64pow10), ("strconv.ErrRange", Rows.laid_strconv_ErrRange), ("strconv.ErrSyntax", Rows.laid_strconv_ErrSyntax)]) gTab gTabType Tryz.underlying218 Tryz.underlying5 cells5 cells48 h2
  have T2 : Lib.TabIs Tryz.prog W "internal/strconv.uint64pow10" .u64 powZ := Lib.tabIs_of_head (rest := [("strconv.ErrRange", Rows.laid_strconv_ErrRange), ("strconv.ErrSyntax", Rows.laid_strconv_ErrSyntax)]) gPow gPowType Tryz.underlying204 Tryz.underlying152 cellsU64 cells20 h3
  rw [powZ_eq] at T2
  obtain ⟨a0, s0, hv0, -, -, -⟩ := laid_sentinel h4 gER gERType Tryz.underlying94 rowES Tryz.underlying208 Tryz.underlying210 rfl rfl Tryz.underlying9 cellsES cellsStr
  obtain ⟨a1, s1, hv1, -, -, -⟩ := laid_sentinel h5 gES gESType Tryz.underlying94 rowES Tryz.underlying208 Tryz.underlying210 rfl rfl Tryz.underlying9 cellsES cellsStr
  refine ⟨⟨⟨T.cell gTab 0 (by decide), T.cell gTab 1 (by decide), T.cell gTab 3 (by decide), T.cell gTab 7 (by decide)⟩, T2⟩, ⟨_, by have h0 := World.var?_cell gES hv1 0; simpa using h0, .inr ⟨_, _, rfl⟩⟩, ⟨_, by have h0 := World.var?_cell gER hv0 0; simpa using h0, .inr ⟨_, _, rfl⟩⟩⟩

/-- So many blocks has the settled world. -/
noncomputable def lowE : Nat := (World.holding Tryz.prog default ⟨#[], #[], []⟩).heap.size
/-- A world for the witness. -/
noncomputable def laidWorldE (os : Os) : World :=
  let w0 := World.holding Tryz.prog os ⟨#[.cells #[.string ⟨#[118, 97, 108, 117, 101, 32, 111, 117, 116, 32, 111, 102, 32, 114, 97, 110, 103, 101]⟩] 210, .cells #[.string ⟨#[105, 110, 118, 97, 108, 105, 100, 32, 115, 121, 110, 116, 97, 120]⟩] 210], #[], []⟩
  { w0 with
    heap := ((((w0.heap.modify 4 (fun o => match o with
      | .cells _ t frozen => .cells (tab32.map (Value.int .u8)).toArray t frozen
      | o => o)).modify 5 (fun o => match o with
      | .cells _ t frozen => .cells (tab64.map (Value.int .u8)).toArray t frozen
      | o => o)).modify 2 (fun o => match o with
      | .cells _ t frozen => .cells (powZ.map (Value.int .u64)).toArray t frozen
      | o => o)).modify 1 (fun o => match o with
      | .cells _ t frozen => .cells #[.iface 208 (.pointer (some ⟨lowE, 0, none⟩))] t frozen
      | o => o)).modify 0 (fun o => match o with
      | .cells _ t frozen => .cells #[.iface 208 (.pointer (some ⟨lowE + 1, 0, none⟩))] t frozen
      | o => o) }
end Go.Proofs.YtpejojagghfjgaaGreatDoor
end

