/-
  Policy, the program: Print.
-/
import Derived.Test.YtkhihfpdghjfmaaDoorJG
import Derived.Test.YtkhihfpdghjfmaaDoorIS
import Derived.OwnWalk
namespace Go.Proofs.YtkhihfpdghjfmaaDoor
open Go.RowKit Go Go.Sort
set_option linter.unusedVariables false
set_option maxRecDepth 20000

/-- A row of texts that lies at a block's head. -/
def Strs (W : World) (g : Nat) (ts : List (List UInt8)) : Prop := W.heap[g]? = some (.cells (ts.map (fun t => Value.string (text t))).toArray 9 (0, 0))
theorem Strs.lt {W : World} {g : Nat} {ts : List (List UInt8)} (h : Strs W g ts) : g < W.heap.size := (Array.getElem?_eq_some_iff.1 h).1
theorem Strs.kept {W W' : World} {g : Nat} {ts : List (List UInt8)} (h : Strs W g ts) (hb : Below W.heap.size W W') : Strs W' g ts := (hb.block g h.lt).trans h
theorem Strs.cell {W : World} {g : Nat} {ts : List (List UInt8)} (h : Strs W g ts) {i : Nat} (hi : i < ts.length) : W.cell? ⟨g, i, none⟩ = some (.string (text (ts.getD i []))) := by
  rw [cell_of_row W g i _ _ (0, 0) h]
  simp [List.getD_eq_getElem?_getD, List.getElem?_eq_getElem hi]
theorem Strs.fz {W : World} {g : Nat} {ts : List (List UInt8)} (h : Strs W g ts) (i : Nat) : W.frozen? ⟨g, i, none⟩ = false := frozen_of_row W g i _ _ h
theorem Strs.set {W : World} {g : Nat} {ts : List (List UInt8)} (h : Strs W g ts) (i : Nat) (t : List UInt8) : Strs (W.setCell ⟨g, i, none⟩ (.string (text t))) g (ts.set i t) := by
  unfold Strs
  rw [heap_setCell_same W g i _ _ _ h]
  congr 2
  simp [List.map_set]
theorem strs_of_made {w : World} {B g n : Nat} (h : w.ownsRow B 9 1 (.slice (some ⟨g, 0, none⟩) n n) n (madeCells #[Value.string ⟨#[]⟩] n).toList) : Strs w g (List.replicate n []) := by
  rcases h.2 with ⟨h', _⟩ | ⟨g', cap', cur, h', _, hg, _, _, hcs, htake⟩
  · simp at h'
  · simp only [Value.slice.injEq, Option.some.injEq, Addr.mk.injEq, and_true, true_and] at h'
    obtain ⟨rfl, rfl⟩ := h'
    rw [toList_madeCells_one, List.take_of_length_le (by simp [hcs])] at htake
    unfold Strs
    rw [hg]
    congr 2
    apply Array.ext'
    rw [htake]
    simp [text]
theorem Tryd.info9 : (Tryd.prog.info? 9).map (fun i => (i.zero, i.size, i.bytes)) = some (some (.string ⟨#[]⟩), 1, 16) := by kernel_rfl

/-- What lies there when k groups are told. -/
def partsAt (l : List Grp) (k : Nat) : List (List UInt8) := (l.take k).map oneT ++ List.replicate (l.length - k) []
theorem partsAt_zero (l : List Grp) : partsAt l 0 = List.replicate l.length [] := by simp [partsAt]
theorem partsAt_len (l : List Grp) (k : Nat) (h : k ≤ l.length) : (partsAt l k).length = l.length := by simp [partsAt]; omega
theorem partsAt_step (l : List Grp) (k : Nat) (h : k < l.length) : (partsAt l k).set k (oneT (l.getD k ([], 0))) = partsAt l (k + 1) := by
  have e : l[k] = l.getD k ([], 0) := by rw [List.getD_eq_getElem?_getD, List.getElem?_eq_getElem h]; rfl
  have e2 : l.length - k = (l.length - (k + 1)) + 1 := by omega
  unfold partsAt
  rw [List.take_succ_eq_append_getElem h, e, List.map_append, e2, List.replicate_succ, List.set_append_right _ _ (by simp; omega)]
  simp [Nat.min_eq_left (Nat.le_of_lt h)]
theorem partsAt_all (l : List Grp) : partsAt l l.length = l.map oneT := by simp [partsAt]
theorem join_parts (l : List Grp) : Lib.join (l.map oneT) [44] = ptextS l := by
  cases l with
  | nil => rfl
  | cons g r =>
    rw [List.map_cons, Lib.join_cons]
    show oneT g ++ _ = oneT g ++ _
    congr 1
    unfold Lib.joinTail
    induction r with
    | nil => rfl
    | cons h r ih => simp at ih ⊢; exact ih
theorem ptext_len {l : List Grp} (h : pgoodS l = 0) : (ptextS l).length ≤ 100 := by
  have := parse_back h
  unfold pparseS at this
  split at this
  · simp at this
  · omega
theorem word_same {p : Int} (hp : p = 1 ∨ p = 2) : wordP p = wordS p := by rcases hp with rfl | rfl <;> rfl

set_option maxRecDepth 100000 in
set_option maxHeartbeats 3200000 in
theorem pprint_c {w : World} {a : Option Addr} {n cap : Nat} {l : List Grp} (hl : Grs w a n cap l) (hs : ∀ g ∈ l, g.1.length ≤ 9223372036854775807) :
    Calls Tryd.prog 25 #[.slice a n cap] w (Tells (.tuple #[.string (text (if pgoodS l = 0 then ptextS l else [])), .int .i64 (pgoodS l)]) w) := by
  have G := pgood_c hl hs
  have hln := hl.len
  have hle := hl.le
  have hmx := hl.max
  have hsch := @schema_names l
  have htl := @ptext_len l
  have HL := Lib.hid hl
  have HPS := Lib.hid (partsAt_step l)
  have HPA := Lib.hid (partsAt_all l)
  have HPL := Lib.hid (partsAt_len l)
  have HP0 := Lib.hid (partsAt_zero l)
  have HJP := Lib.hid (join_parts l)
  obtain ⟨e, he⟩ : ∃ e, pgoodS l = e := ⟨_, rfl⟩
  rw [he] at G hsch htl ⊢
  have HG := Lib.hid G
  clear hl G he
  by_cases h0 : e = 0
  · subst h0
    obtain ⟨h1, h4, hnm⟩ := hsch rfl
    have hn4 : n ≤ 4 := by omega
    have hs12 : ∀ g ∈ l, g.1.length ≤ 12 ∧ (g.2 = 1 ∨ g.2 = 2) := fun g hg => ⟨(name_len (hnm g hg).1).2, (hnm g hg).2⟩
    have HS12 := Lib.hid hs12
    have HTL := Lib.hid (htl rfl)
    rw [if_pos rfl]
    obtain ⟨i0, hi, hz0, hz1, hz2⟩ := info_parts Tryd.info9
    clear hsch hnm hs12 htl
    go_enter Tryd.func25, Tryd.ntmps25
    go_upto_region 6 with (first
      | (go_at_call 18; (with_reducible refine (HG.out).mono ?_); rintro e w1 ⟨rfl, hb1⟩)
      | (at_make; refine wpList_make_full _ rfl _ _ 95 rfl w1.heap.size 9 i0 (.string ⟨#[]⟩) 1 Tryd.underlying95 hi hz0 hz1 .i64 .i64 _ _ n rfl rfl ?c1 ?c2 ?c3 ?c4 ?c5 ?_))
    case c1 => rfl
    case c2 => rfl
    case c3 => rw [hz2]; omega
    case c4 => unfold maxLen; omega
    case c5 => exact Nat.le_refl _
    intro w2 hown hgr
    have hbel := hb1.trans (((Below.refl w1.heap.size w1).grown hgr (Nat.le_refl _) (fun k hk => by cases hk)).mono hb1.size)
    have hstr := strs_of_made hown
    have hgw : w.heap.size ≤ w1.heap.size := hb1.size
    obtain ⟨g, hg⟩ : ∃ g, w1.heap.size = g := ⟨_, rfl⟩
    rw [hg] at hstr hgw ⊢
    rw [← hln, ← HP0.out] at hstr
    have HSTR := Lib.hid hstr
    have HBEL := Lib.hid hbel
    have HGW := Lib.hid hgw
    clear hown hgr hb1 hbel hstr hgw hg hi hz0 hz1 hz2
    go_upto_region 6 with (fail)
    go_loopw [18] (fun i wr => ∃ k : Nat, k ≤ n ∧ i = .int .i64 k ∧ Strs wr g (partsAt l k) ∧ Below w.heap.size w wr) (fun i _ => n - (intOf i).toNat)
    case atStart => exact ⟨0, by omega, rfl, HSTR.out, HBEL.out⟩
    case round =>
      clear HSTR HBEL
      obtain ⟨k, hk, rfl, hstr, hB⟩ := hrel
      by_cases hlt : k < n
      · have hki : (k : Int) < (n : Int) := by omega
        have hki2 : (k : Int) < (cap : Int) := by omega
        obtain ⟨b, off, rfl, hat⟩ := HL.out.at hlt
        have hst := HPS.out k (by omega)
        have hnm := HS12.out _ (show l.getD k ([], 0) ∈ l by rw [List.getD_eq_getElem?_getD, List.getElem?_eq_getElem (by omega)]; exact List.getElem_mem _)
        obtain ⟨⟨s, p⟩, hg⟩ : ∃ g, l.getD k ([], 0) = g := ⟨_, rfl⟩
        rw [hg] at hat hst hnm
        obtain ⟨c0, c1⟩ := hat wr hB
        simp only at c0 c1 hnm
        have hw := word_same hnm.2
        have hwl : (wordS p).length ≤ 6 := by unfold wordS; split <;> decide
        obtain ⟨wd, hwd⟩ : ∃ q, wordS p = q := ⟨_, rfl⟩
        have hone : oneT (s, p) = s ++ [61] ++ wd := by rw [← hwd]; rfl
        rw [hone] at hst
        rw [hwd] at hw hwl
        have HW := Lib.hid (word_c p)
        rw [hw] at HW
        have hadd1 : ∀ W, (Op.stringOp .add (text s) ⟨#[61]⟩).run Tryd.prog W = .ok (.string (text (s ++ [61]))) W := fun W => run_text_add s [61] (by simp; omega) W
        have hadd2 : ∀ W, (Op.stringOp .add (text (s ++ [61])) (text wd)).run Tryd.prog W = .ok (.string (text (s ++ [61] ++ wd))) W := fun W => run_text_add (s ++ [61]) wd (by simp; omega) W
        have hgn := GrpAt.new wr s p
        have hal := alloc_below wr (.cells #[.string (text s), .int .i64 p] 54)
        have hB1 := hB.trans (hal.mono hB.size)
        have hstr1 := hstr.kept hal
        have hplen := HPL.out k (by omega)
        have HST := Lib.hid hst
        have HPLN := Lib.hid hplen
        have hkn2 : k + 1 ≤ n := by omega
        have HK := Lib.hid hkn2
        have HLT := Lib.hid hlt
        clear hat hst hg hstr hB hnm hkn2 hal hw hwl hwd hone hplen
        go_upto_region 8 with (fail)
        clear c0 c1
        obtain ⟨gb, hgb⟩ : ∃ q, wr.heap.size = q := ⟨_, rfl⟩
        rw [hgb] at hgn ⊢
        generalize wr.alloc (.cells #[.string (text s), .int .i64 p] 54) = W1 at *
        have HG2 := Lib.hid hgn
        have HB := Lib.hid hB1
        have HSTR := Lib.hid hstr1
        obtain ⟨S0, hS0⟩ : ∃ q, text s = q := ⟨_, rfl⟩
        obtain ⟨S1, hS1⟩ : ∃ q, text (s ++ [61]) = q := ⟨_, rfl⟩
        obtain ⟨S2, hS2⟩ : ∃ q, text wd = q := ⟨_, rfl⟩
        obtain ⟨S3, hS3⟩ : ∃ q, text (s ++ [61] ++ wd) = q := ⟨_, rfl⟩
        rw [hS0, hS1] at hadd1
        rw [hS1, hS2, hS3] at hadd2
        rw [hS2] at HW
        have HC0 := Lib.hid (fun W (h : Below W1.heap.size W1 W) => by have := (HG2.out.kept h).c0; rwa [hS0] at this)
        have HC1 := Lib.hid (fun W (h : Below W1.heap.size W1 W) => (HG2.out.kept h).c1)
        have H3 := Lib.hid hS3
        clear hgn hB1 hstr1 hgb hS0 hS1 hS2 hS3 hlt
        refine wp_region_flow_tail 10 [none, none, none, none, none, none, none, none, none, none, none, none, none, none, none, none, none, none, none, none, none, none, none, some 0, some 1, some 2, some 3, some 4, some 5, some 6, some 7, some 8, some 9, none, none, none] (fun i => [u23, u24, u25, u26, u27, u28, u29, u30, u31, u32].getD i undef) [(fun v _ => v = .slice (some ⟨g, 0, none⟩) n n), (fun v _ => v = .int .i64 (k : Int)), (fun v _ => v = .pointer (some ⟨gb, 0, none⟩)), (fun v _ => v = .string S0), (fun v _ => v = .string S1), (fun v _ => v = .pointer (some ⟨gb, 1, none⟩)), (fun v _ => v = .int .i64 p), (fun v _ => v = .string S2), (fun v _ => v = .string S3), (fun v _ => v = .pointer (some ⟨g, k, none⟩))] (fun _ => False) (by kernel_rfl) (by kernel_rfl) (by kernel_rfl) rfl rfl rfl ?_ ?_ ?_
        · intro g hg v X Y hX hY hv
          simp only [List.mem_cons, List.not_mem_nil, or_false] at hg
          rcases hg with rfl | rfl | rfl | rfl | rfl | rfl | rfl | rfl | rfl | rfl
          all_goals first
            | exact hv
            | exact hv.kept hY
        · simp only [flowOpsF, List.take_succ_cons, List.take_zero, and_true]
          refine ⟨?_, ?_, ?_, ?_, ?_, ?_, ?_, ?_, ?_, ?_⟩
          · intro xs W hW hn
            simp only [flowAct, List.zipWith_cons_cons, List.zipWith_nil_left]
            go_wp2_with (fail)
            exact ⟨rfl, _, rfl, Below.refl _ _, rfl, fun h => h.elim⟩
          · intro xs W hW hn
            simp only [flowAct, List.zipWith_cons_cons, List.zipWith_nil_left]
            go_wp2_with (fail)
            exact ⟨rfl, _, rfl, Below.refl _ _, rfl, fun h => h.elim⟩
          · intro xs W hW hn
            simp only [flowAct, List.zipWith_cons_cons, List.zipWith_nil_left]
            go_wp2_with (fail)
            exact ⟨rfl, _, rfl, Below.refl _ _, rfl, fun h => h.elim⟩
          · intro xs W hW hn
            have c0 := HC0.out W hW
            simp [flowNeeds, Region.binds] at hn
            simp only [flowAct, List.zipWith_cons_cons, List.zipWith_nil_left]
            try simp only [hn]
            go_wp2_with (fail)
            exact ⟨rfl, _, rfl, Below.refl _ _, rfl, fun h => h.elim⟩
          · intro xs W hW hn
            simp [flowNeeds, Region.binds] at hn
            simp only [flowAct, List.zipWith_cons_cons, List.zipWith_nil_left]
            try simp only [hn]
            go_wp2_with (fail)
            exact ⟨rfl, _, rfl, Below.refl _ _, rfl, fun h => h.elim⟩
          · intro xs W hW hn
            simp only [flowAct, List.zipWith_cons_cons, List.zipWith_nil_left]
            go_wp2_with (fail)
            exact ⟨rfl, _, rfl, Below.refl _ _, rfl, fun h => h.elim⟩
          · intro xs W hW hn
            have c1 := HC1.out W hW
            simp [flowNeeds, Region.binds] at hn
            simp only [flowAct, List.zipWith_cons_cons, List.zipWith_nil_left]
            try simp only [hn]
            go_wp2_with (fail)
            exact ⟨rfl, _, rfl, Below.refl _ _, rfl, fun h => h.elim⟩
          · intro xs W hW hn
            simp [flowNeeds, Region.binds] at hn
            simp only [flowAct, List.zipWith_cons_cons, List.zipWith_nil_left]
            simp only [hn]
            go_wp2_with (go_at_call 43; (with_reducible refine (HW.out _).mono ?_); rintro e w9 ⟨rfl, rfl⟩)
            exact ⟨rfl, _, rfl, Below.refl _ _, rfl, fun h => h.elim⟩
          · intro xs W hW hn
            simp [flowNeeds, Region.binds] at hn
            simp only [flowAct, List.zipWith_cons_cons, List.zipWith_nil_left]
            try simp only [hn]
            go_wp2_with (fail)
            exact ⟨rfl, _, rfl, Below.refl _ _, rfl, fun h => h.elim⟩
          · intro xs W hW hn
            simp [flowNeeds, Region.binds] at hn
            simp only [flowAct, List.zipWith_cons_cons, List.zipWith_nil_left]
            try simp only [hn]
            go_wp2_with (fail)
            exact ⟨rfl, _, rfl, Below.refl _ _, rfl, fun h => h.elim⟩
        · intro xs W hW hall hfr
          clear hfr
          simp only [flowAll, and_true, Nat.zero_add, Nat.reduceAdd] at hall
          obtain ⟨-, -, -, -, -, -, -, -, e8, e9⟩ := hall
          simp only [flowAct, List.zipWith_cons_cons, List.zipWith_nil_left, List.drop_succ_cons, List.drop_zero]
          simp only [e8, e9]
          have hsw := HSTR.out.kept hW
          have q0 := hsw.cell (i := k) (by rw [HPLN.out, hln]; exact HLT.out)
          have z0 := hsw.fz k
          have hset := hsw.set k (s ++ [61] ++ wd)
          rw [H3.out, HST.out] at hset
          have HSET := Lib.hid hset
          have HB2 := Lib.hid ((HB.out.trans (hW.mono HB.out.size)).setCell (p := ⟨g, k, none⟩) HGW.out (.string S3))
          clear hsw hset
          go_wp2
          go_roundw
          case rel => exact ⟨k + 1, HK.out, rfl, HSET.out, HB2.out⟩
          case measure => simp [intOf]; omega
      · obtain rfl : k = n := by omega
        rw [← hln, HPA.out] at hstr
        have hj := Tryd.strings_Join g 0 k (l.map (fun x => text (oneT x))) (text [44]) wr (fun j x hx => ?hc) hstr.lt (by simp; omega) (by simp; omega) ?hjl
        case hc =>
          rw [Nat.zero_add]
          have hjl : j < l.length := by have := (List.getElem?_eq_some_iff.1 hx).1; simpa using this
          rw [hstr.cell (by simpa using hjl)]
          have hx2 : x = text (oneT (l[j])) := by
            rw [List.getElem?_map, List.getElem?_eq_getElem hjl] at hx
            exact (Option.some.inj hx).symm
          rw [hx2, List.getD_eq_getElem?_getD, List.getElem?_map, List.getElem?_eq_getElem hjl]
          rfl
        case hjl =>
          have hm : (l.map (fun x => text (oneT x))).map (fun x => x.data.toList) = l.map oneT := by rw [List.map_map]; exact List.map_congr_left fun x _ => by simp [text]
          rw [hm, show (text [44]).data.toList = [44] from rfl, HJP.out]
          have := HTL.out
          omega
        have hm : (l.map (fun x => text (oneT x))).map (fun x => x.data.toList) = l.map oneT := by rw [List.map_map]; exact List.map_congr_left fun x _ => by simp [text]
        rw [hm, show (text [44]).data.toList = [44] from rfl, HJP.out, List.length_map, hln] at hj
        have HJ := Lib.hid hj
        have HB := Lib.hid hB
        clear hstr hB hj hm
        go_wp2_with (go_at_call 52; refine HJ.out.mono ?_; rintro e w9 ⟨rfl, hb9⟩)
        go_ret2
        exact ⟨rfl, HB.out.trans (hb9.mono HB.out.size)⟩
  · have hne : (e != 0) = true := by simpa using h0
    rw [if_neg h0]
    clear h0 hsch
    go_enter Tryd.func25, Tryd.ntmps25
    go_wp2_with (go_at_call 18; (with_reducible refine (HG.out).mono ?_); rintro e w1 ⟨rfl, hb1⟩)
    go_ret2
    exact ⟨rfl, hb1⟩
end Go.Proofs.YtkhihfpdghjfmaaDoor
