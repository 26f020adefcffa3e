/-
  Policy, the program: Find, Of, Encode.
-/
import Derived.Test.YtkhihfpdghjfmaaDoorJB
namespace Go.Proofs.YtkhihfpdghjfmaaDoor
open Go.RowKit Go Go.Sort
set_option linter.unusedVariables false
set_option maxRecDepth 20000

set_option maxHeartbeats 1600000 in
theorem pfind_c {w : World} {a : Option Addr} {n cap : Nat} {l : List Grp} (hl : Grs w a n cap l) (hs : ∀ g ∈ l, g.1.length ≤ 9223372036854775807) (name : List UInt8) :
    Calls Tryd.prog 14 #[.slice a n cap, .string (text name)] w (Tells (.tuple #[.int .i64 (pfindS l name).1, .int .i64 (pfindS l name).2]) w) := by
  have hln := hl.len
  have hle := hl.le
  have hmx := hl.max
  have G := pgood_c hl hs
  have HL := Lib.hid hl
  have HV := Lib.hid (show pfindS l name = if pgoodS l = 0 then findFrom name 0 l else (0, pgoodS l) from rfl)
  obtain ⟨e, he⟩ : ∃ e, pgoodS l = e := ⟨_, rfl⟩
  rw [he] at G HV
  have HG := Lib.hid G
  clear hl G he
  by_cases h0 : e = 0
  · subst h0
    have hv : pfindS l name = findFrom name 0 (l.drop 0) := by rw [HV.out, if_pos rfl]; rfl
    have HV2 := Lib.hid hv
    obtain ⟨r, hr⟩ : ∃ r, pfindS l name = r := ⟨_, rfl⟩
    rw [hr] at HV2 ⊢
    clear hv HV hr
    go_enter Tryd.func14, Tryd.ntmps14
    go_upto_region 5 with (go_at_call 18; (with_reducible refine (HG.out).mono ?_); rintro e w1 ⟨rfl, hb1⟩)
    go_loopw [16] (fun i wr => ∃ k : Nat, k ≤ n ∧ i = .int .i64 k ∧ r = findFrom name k (l.drop k) ∧ Below w.heap.size w wr) (fun i _ => n - (intOf i).toNat)
    case atStart => exact ⟨0, by omega, rfl, HV2.out, hb1⟩
    case round =>
      clear HV2 hb1
      obtain ⟨k, hk, rfl, hv, hB⟩ := hrel
      by_cases hlt : k < n
      · have hki : (k : Int) < (n : Int) := by omega
        have hki2 : (k : Int) < (cap : Int) := by omega
        obtain ⟨b, off, rfl, hat⟩ := HL.out.at hlt
        have hst := find_step name l k (by omega)
        obtain ⟨⟨s, p⟩, hg⟩ : ∃ g, l.getD k ([], 0) = g := ⟨_, rfl⟩
        rw [hg] at hat hst
        obtain ⟨c0, c1⟩ := hat wr hB
        simp only at c0 c1 hst
        have hcmp := text_same s name
        have HB := Lib.hid (hB.alloc hB.size (.cells #[.string (text s), .int .i64 p] 54))
        by_cases he : s = name
        · have HR := Lib.hid (show r = ((k : Int), 0) by rw [hv, hst, if_pos he])
          rw [decide_eq_true he] at hcmp
          clear hat hst hv hB hg he
          go_wp2
          go_ret2
          exact ⟨by rw [HR.out]; rfl, HB.out⟩
        · have HR := Lib.hid (show r = findFrom name (k + 1) (l.drop (k + 1)) by rw [hv, hst, if_neg he])
          rw [decide_eq_false he] at hcmp
          clear hat hst hv hB hg he
          go_wp2
          go_roundw
          case rel => exact ⟨k + 1, by omega, rfl, HR.out, HB.out⟩
          case measure => simp [intOf]; omega
      · obtain rfl : k = n := by omega
        have HR := Lib.hid (show r = (0, 70) by rw [hv, List.drop_of_length_le (by omega)]; rfl)
        have HB := Lib.hid hB
        clear hv hB
        go_wp2
        go_ret2
        exact ⟨by rw [HR.out]; rfl, HB.out⟩
  · have hne : (e != 0) = true := by simpa using h0
    have HR := Lib.hid (show pfindS l name = (0, e) by rw [HV.out, if_neg h0])
    clear HV h0
    go_enter Tryd.func14, Tryd.ntmps14
    go_wp2_with (go_at_call 18; (with_reducible refine (HG.out).mono ?_); rintro e w1 ⟨rfl, hb1⟩)
    go_ret2
    exact ⟨by rw [HR.out]; rfl, hb1⟩

set_option maxHeartbeats 1600000 in
theorem pof_c {w : World} {a : Option Addr} {n cap : Nat} {l : List Grp} (hl : Grs w a n cap l) (hs : ∀ g ∈ l, g.1.length ≤ 9223372036854775807) (k : Int) :
    Calls Tryd.prog 16 #[.slice a n cap, .int .i64 k] w (Tells (.tuple #[.int .i64 (pofS l k).1, .int .i64 (pofS l k).2]) w) := by
  have hln := hl.len
  have hle := hl.le
  have hmx := hl.max
  have G := pgood_c hl hs
  have HL := Lib.hid hl
  have HV := Lib.hid (show pofS l k = if pgoodS l = 0 then (if k < 0 ∨ (l.length : Int) ≤ k then (0, 70) else ((l.getD k.toNat ([], 0)).2, 0)) else (0, pgoodS l) from rfl)
  rw [hln] at HV
  obtain ⟨e, he⟩ : ∃ e, pgoodS l = e := ⟨_, rfl⟩
  rw [he] at G HV
  have HG := Lib.hid G
  clear hl G he
  by_cases h0 : e = 0
  · subst h0
    by_cases h1 : k < 0
    · have HR := Lib.hid (show pofS l k = (0, 70) by rw [HV.out, if_pos rfl, if_pos (.inl h1)])
      clear HV
      go_enter Tryd.func16, Tryd.ntmps16
      go_wp2_with (go_at_call 18; (with_reducible refine (HG.out).mono ?_); rintro e w1 ⟨rfl, hb1⟩)
      go_ret2
      exact ⟨by rw [HR.out]; rfl, hb1⟩
    · by_cases h2 : (n : Int) ≤ k
      · have HR := Lib.hid (show pofS l k = (0, 70) by rw [HV.out, if_pos rfl, if_pos (.inr h2)])
        clear HV
        go_enter Tryd.func16, Tryd.ntmps16
        go_wp2_with (go_at_call 18; (with_reducible refine (HG.out).mono ?_); rintro e w1 ⟨rfl, hb1⟩)
        go_ret2
        exact ⟨by rw [HR.out]; rfl, hb1⟩
      · obtain ⟨m, rfl⟩ : ∃ m : Nat, k = (m : Int) := ⟨k.toNat, by omega⟩
        have hmn : m < n := by omega
        have hmi : (m : Int) < (cap : Int) := by omega
        obtain ⟨b, off, rfl, hat⟩ := HL.out.at hmn
        have HR := Lib.hid (show pofS l m = ((l.getD m ([], 0)).2, 0) by rw [HV.out, if_pos rfl, if_neg (by omega), Int.toNat_natCast])
        obtain ⟨⟨s, p⟩, hg⟩ : ∃ g, l.getD m ([], 0) = g := ⟨_, rfl⟩
        rw [hg] at hat HR
        have HAT := Lib.hid hat
        clear HV hat hg
        go_enter Tryd.func16, Tryd.ntmps16
        go_wp2_with (go_at_call 18; (with_reducible refine (HG.out).mono ?_); rintro e w1 ⟨rfl, hb1⟩; obtain ⟨c0, c1⟩ := HAT.out w1 hb1; simp only at c0 c1)
        go_ret2
        exact ⟨by rw [HR.out]; rfl, hb1⟩
  · have hne : (e != 0) = true := by simpa using h0
    have HR := Lib.hid (show pofS l k = (0, e) by rw [HV.out, if_neg h0])
    clear HV h0
    go_enter Tryd.func16, Tryd.ntmps16
    go_wp2_with (go_at_call 18; (with_reducible refine (HG.out).mono ?_); rintro e w1 ⟨rfl, hb1⟩)
    go_ret2
    exact ⟨by rw [HR.out]; rfl, hb1⟩
set_option maxRecDepth 100000 in
set_option maxHeartbeats 3200000 in
theorem pencode_c {w : World} {a : Option Addr} {n cap : Nat} {l : List Grp} (hl : Grs w a n cap l) (hs : ∀ g ∈ l, g.1.length ≤ 9223372036854775807) (hT : TabW w) :
    Calls Tryd.prog 20 #[.slice a n cap] w (EncPost (if pgoodS l = 0 then pbytesS l else []) (pgoodS l) w) := by
  have G := pgood_c hl hs
  have hln := hl.len
  have hle := hl.le
  have hmx := hl.max
  have hsch := @schema_names l
  have HL := Lib.hid hl
  have HT := Lib.hid hT
  have HF := Lib.hid (show pbytesS l = numB (l.length : Int) ++ l.flatMap oneB from rfl)
  rw [hln] at HF
  obtain ⟨e, he⟩ : ∃ e, pgoodS l = e := ⟨_, rfl⟩
  rw [he] at G hsch ⊢
  have HG := Lib.hid G
  clear hl G he hT
  by_cases h0 : e = 0
  · subst h0
    obtain ⟨h1, h4, hnm⟩ := hsch rfl
    have hn4 : n ≤ 4 := by omega
    have hs12 : ∀ g ∈ l, g.1.length ≤ 12 ∧ (g.2 = 1 ∨ g.2 = 2) := fun g hg => ⟨(name_len (hnm g hg).1).2, (hnm g hg).2⟩
    have HS12 := Lib.hid hs12
    rw [if_pos rfl]
    have hb8 := numB_length (n : Int)
    have HP0 := Lib.hid (fun W (h : Below w.heap.size w W) => put_c (w := W) (a := none) (m := 0) (cap := 0) (l := []) ⟨rfl, Nat.le_refl _, by omega, .inl rfl⟩ (by omega) (n : Int) (by omega) (by omega) (HT.out.below h))
    clear hsch hnm hs12
    go_enter Tryd.func20, Tryd.ntmps20
    go_upto_region 6 with (first
      | (go_at_call 18; (with_reducible refine (HG.out).mono ?_); rintro e w1 ⟨rfl, hb1⟩)
      | (go_at_call 45; (with_reducible refine (HP0.out _ hb1).mono ?_); rintro e w2 ⟨v1, rfl, ho1, hb2⟩))
    rw [List.nil_append] at ho1
    have ho2 := ho1.mono hb1.size
    have hb3 := hb1.trans (hb2.mono hb1.size)
    clear ho1 hb1 hb2
    go_loopw [5, 18] (fun v i wr => ∃ k : Nat, k ≤ n ∧ i = .int .i64 k ∧ OwnB wr w.heap.size 5 v (numB (n : Int) ++ (l.take k).flatMap oneB) ∧ (numB (n : Int) ++ (l.take k).flatMap oneB).length ≤ 8 + 40 * k ∧ Below w.heap.size w wr) (fun _ i _ => n - (intOf i).toNat)
    case atStart => exact ⟨0, by omega, rfl, by simpa using ho2, by simpa using hb8, hb3⟩
    case round =>
      clear ho2 hb3
      obtain ⟨k, hk, rfl, ho, hacc, hB⟩ := hrel
      by_cases hlt : k < n
      · have hki : (k : Int) < (n : Int) := by omega
        have hki2 : (k : Int) < (cap : Int) := by omega
        obtain ⟨b, off, rfl, hat⟩ := HL.out.at hlt
        have hst := pbytes_step n l k (by omega)
        have hnm := HS12.out _ (show l.getD k ([], 0) ∈ l by rw [List.getD_eq_getElem?_getD, List.getElem?_eq_getElem (by omega)]; exact List.getElem_mem _)
        obtain ⟨⟨s, p⟩, hg⟩ : ∃ g, l.getD k ([], 0) = g := ⟨_, rfl⟩
        rw [hg] at hat hst hnm
        obtain ⟨c0, c1⟩ := hat wr hB
        simp only at c0 c1 hnm hst
        obtain ⟨acc, hac⟩ : ∃ q, numB (n : Int) ++ (l.take k).flatMap oneB = q := ⟨_, rfl⟩
        rw [hac] at hst hacc ho
        obtain ⟨a', c', rfl, hy⟩ := ho.bys
        obtain ⟨lt, hlt2⟩ : ∃ q, putTextS acc s = q := ⟨_, rfl⟩
        rw [hlt2] at hst
        obtain ⟨lf, hlf⟩ : ∃ q, lt ++ numB p = q := ⟨_, rfl⟩
        rw [hlf] at hst
        have hs8 := numB_length (s.length : Int)
        have hp8 := numB_length p
        have hltl : lt.length ≤ acc.length + 20 := by rw [← hlt2]; unfold putTextS; simp only [List.length_append]; omega
        have hlfl : lf.length ≤ 8 + 40 * (k + 1) := by rw [← hlf, List.length_append]; omega
        have HST := Lib.hid hst
        have HLF := Lib.hid hlfl
        have hgn := GrpAt.new wr s p
        have hal := alloc_below wr (.cells #[.string (text s), .int .i64 p] 54)
        have hB1 := hB.trans (hal.mono hB.size)
        have hy1 := hy.below hal
        have hsd : (text s).data.toList = s := by simp [text]
        have hkn2 : k + 1 ≤ n := by omega
        have HK := Lib.hid hkn2
        have hal8 : acc.length ≤ 1000000 := by omega
        have hll8 : lt.length ≤ 1000000 := by omega
        have hsl8 : (text s).size ≤ 1000000 := by rw [text_len]; omega
        have hpi : -9223372036854775808 ≤ p ∧ p ≤ 9223372036854775807 := by omega
        have HNM := Lib.hid hnm
        clear hat hst hg hac hacc ho hy hs8 hp8 hltl hlfl hB hnm hkn2 hb8 hal
        go_upto_region 8 with (fail)
        clear c0 c1
        obtain ⟨gb, hgb⟩ : ∃ q, wr.heap.size = q := ⟨_, rfl⟩
        rw [hgb] at hgn ⊢
        generalize wr.alloc (.cells #[.string (text s), .int .i64 p] 54) = W1 at *
        have HG2 := Lib.hid hgn
        have HB := Lib.hid hB1
        have hpt := fun W (h : Below W1.heap.size W1 W) => puttext_c (hy1.below h) (text s) hal8 hsl8 (HT.out.below (hB1.trans (h.mono hB1.size)))
        simp only [hsd, hlt2] at hpt
        have HPT := Lib.hid hpt
        have hpp := fun (W : World) (a2 : Option Addr) (c2 : Nat) (h : Below W1.heap.size W1 W) (hy2 : Bys W a2 lt.length c2 lt) => put_c hy2 hll8 p hpi.1 hpi.2 (HT.out.below (hB1.trans (h.mono hB1.size)))
        simp only [hlf] at hpp
        have HPP := Lib.hid hpp
        have HBs := Lib.hid hB1.size
        clear hgn hB1 hy1 hlt2 hlf hpt hpp hsd hgb hal8 hll8 hsl8 hpi
        refine wp_region_flow_tail 7 [none, none, none, none, none, none, none, none, none, none, none, none, none, none, none, none, none, none, none, none, none, none, some 0, some 1, some 2, some 3, some 4, some 5, some 6, none, none] (fun i => [u22, u23, u24, u25, u26, u27, u28].getD i undef) [(fun v _ => v = .slice a' acc.length c'), (fun v _ => v = .pointer (some ⟨gb, 0, none⟩)), (fun v _ => v = .string (text s)), (fun v W => OwnB W w.heap.size 5 v lt), (fun v _ => v = .pointer (some ⟨gb, 1, none⟩)), (fun v _ => v = .int .i64 p), (fun v W => OwnB W w.heap.size 5 v lf)] (fun _ => False) (by kernel_rfl) (by kernel_rfl) (by kernel_rfl) rfl rfl rfl ?_ ?_ ?_
        · intro g hg v X Y hX hY hv
          simp only [List.mem_cons, List.not_mem_nil, or_false] at hg
          rcases hg with rfl | rfl | rfl | rfl | rfl | rfl | rfl
          all_goals first
            | exact hv
            | exact hv.kept hY
        · simp only [flowOpsF, List.take_succ_cons, List.take_zero, and_true]
          refine ⟨?_, ?_, ?_, ?_, ?_, ?_, ?_⟩
          · intro xs W hW hn
            simp only [flowAct, List.zipWith_cons_cons, List.zipWith_nil_left]
            go_wp2_with (fail)
            exact ⟨rfl, _, rfl, Below.refl _ _, rfl, fun h => h.elim⟩
          · intro xs W hW hn
            simp only [flowAct, List.zipWith_cons_cons, List.zipWith_nil_left]
            go_wp2_with (fail)
            exact ⟨rfl, _, rfl, Below.refl _ _, rfl, fun h => h.elim⟩
          · intro xs W hW hn
            have c0 := (HG2.out.kept hW).c0
            simp [flowNeeds, Region.binds] at hn
            simp only [flowAct, List.zipWith_cons_cons, List.zipWith_nil_left]
            try simp only [hn]
            go_wp2_with (fail)
            exact ⟨rfl, _, rfl, Below.refl _ _, rfl, fun h => h.elim⟩
          · intro xs W hW hn
            simp [flowNeeds, Region.binds] at hn
            simp only [flowAct, List.zipWith_cons_cons, List.zipWith_nil_left]
            simp only [hn]
            go_wp2_with (go_at_call 46; (with_reducible refine (HPT.out _ hW).mono ?_); rintro e w9 ⟨v, rfl, ho, hb9⟩)
            exact ⟨rfl, _, rfl, hb9, ho.mono (Nat.le_trans HBs.out hW.size), fun h => h.elim⟩
          · intro xs W hW hn
            simp only [flowAct, List.zipWith_cons_cons, List.zipWith_nil_left]
            go_wp2_with (fail)
            exact ⟨rfl, _, rfl, Below.refl _ _, rfl, fun h => h.elim⟩
          · intro xs W hW hn
            have c1 := (HG2.out.kept hW).c1
            simp [flowNeeds, Region.binds] at hn
            simp only [flowAct, List.zipWith_cons_cons, List.zipWith_nil_left]
            try simp only [hn]
            go_wp2_with (fail)
            exact ⟨rfl, _, rfl, Below.refl _ _, rfl, fun h => h.elim⟩
          · intro xs W hW hn
            simp [flowNeeds, Region.binds] at hn
            simp only [flowAct, List.zipWith_cons_cons, List.zipWith_nil_left]
            obtain ⟨ho3, e5⟩ := hn
            obtain ⟨a2, c2, e3, hy3⟩ := ho3.bys
            simp only [e3, e5]
            go_wp2_with (go_at_call 45; (with_reducible refine (HPP.out _ _ _ hW hy3).mono ?_); rintro e w9 ⟨v, rfl, ho, hb9⟩)
            exact ⟨rfl, _, rfl, hb9, ho.mono (Nat.le_trans HBs.out hW.size), fun h => h.elim⟩
        · intro xs W hW hall hfr
          clear hfr
          simp only [flowAll, and_true, Nat.zero_add, Nat.reduceAdd] at hall
          obtain ⟨-, -, -, -, -, -, e13⟩ := hall
          simp only [flowAct, List.zipWith_cons_cons, List.zipWith_nil_left, List.drop_succ_cons, List.drop_zero]
          go_wp2
          go_roundw
          case rel => exact ⟨k + 1, HK.out, rfl, by rw [HST.out]; exact e13, by rw [HST.out]; exact HLF.out, HB.out.trans (hW.mono HB.out.size)⟩
          case measure => simp [intOf]; omega
      · obtain rfl : k = n := by omega
        rw [List.take_of_length_le (by omega)] at ho
        have HO := Lib.hid ho
        have HB := Lib.hid hB
        clear ho hB hacc hb8
        go_wp2
        go_ret2
        exact ⟨_, rfl, by rw [HF.out]; exact HO.out, HB.out⟩
  · have hne : (e != 0) = true := by simpa using h0
    rw [if_neg h0]
    clear h0 hsch
    go_enter Tryd.func20, Tryd.ntmps20
    go_wp2_with (go_at_call 18; (with_reducible refine (HG.out).mono ?_); rintro e w1 ⟨rfl, hb1⟩)
    go_ret2
    exact ⟨_, rfl, World.ownsRow_nil _ _ _ _, hb1⟩
end Go.Proofs.YtkhihfpdghjfmaaDoor
