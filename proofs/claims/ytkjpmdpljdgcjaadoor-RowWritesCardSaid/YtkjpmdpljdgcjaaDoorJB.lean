/-
  Policy, the program: Good, which counts names in a map.
-/
import Derived.Test.YtkjpmdpljdgcjaaDoorJQ
import Derived.Maps.OwnOps
import Derived.Maps.Views
namespace Go.Proofs.YtkjpmdpljdgcjaaDoor
open Go.RowKit Go Go.Sort Go.Maps Go.WideMaps
set_option linter.unusedVariables false
set_option maxRecDepth 20000

/-- A group that lies at a block's head. -/
def GrpAt (W : World) (g : Nat) (s : List UInt8) (p : Int) : Prop := W.heap[g]? = some (.cells #[.string (text s), .int .i64 p] 87 (0, 0))
theorem GrpAt.lt {W : World} {g : Nat} {s : List UInt8} {p : Int} (h : GrpAt W g s p) : g < W.heap.size := (Array.getElem?_eq_some_iff.1 h).1
theorem GrpAt.kept {W W' : World} {g : Nat} {s : List UInt8} {p : Int} (h : GrpAt W g s p) (hb : Below W.heap.size W W') : GrpAt W' g s p := (hb.block g h.lt).trans h
theorem GrpAt.c0 {W : World} {g : Nat} {s : List UInt8} {p : Int} (h : GrpAt W g s p) : W.cell? ⟨g, 0, none⟩ = some (.string (text s)) := by
  rw [cell_of_row W g 0 _ _ (0, 0) h]; rfl
theorem GrpAt.c1 {W : World} {g : Nat} {s : List UInt8} {p : Int} (h : GrpAt W g s p) : W.cell? ⟨g, 1, none⟩ = some (.int .i64 p) := by
  rw [cell_of_row W g 1 _ _ (0, 0) h]; rfl
theorem GrpAt.new (W : World) (s : List UInt8) (p : Int) : GrpAt (W.alloc (.cells #[.string (text s), .int .i64 p] 87)) W.heap.size s p := heap_alloc_new W _
theorem GrpAt.grown {W W' : World} {g B : Nat} {s : List UInt8} {p : Int} (h : GrpAt W g s p) (hg : W.grownBy W' (some B)) (hne : g ≠ B) : GrpAt W' g s p := (hg.block g h.lt (by simpa using hne)).trans h

theorem klaw : Keyed Tryd.prog 9 := string_keyed Tryd.underlying9
theorem zero3 (w : World) : (zeroValue 3).run Tryd.prog w = .ok (.int .i64 0) w := by kernel_rfl
theorem owns_below {w w' : World} {R : Value → Option (DataW Unit × List MemPlace)} {B k : Nat} {D : DataW Unit} (h : w.ownsMap Tryd.prog 9 R B k D) (hb : Below w.heap.size w w') : w'.ownsMap Tryd.prog 9 R B k D := by
  have hlt := h.lt
  obtain ⟨es, clock, h1, rest⟩ := h
  exact ⟨es, clock, (hb.block B hlt).trans h1, rest⟩
theorem keylit (s : List UInt8) : WideAt.IsKeyLit (.string s) := by simp [WideAt.IsKeyLit]
theorem key_text (s : List UInt8) (h : s.length ≤ 12) : keyOf Tryd.prog 9 (.string (text s)) = some (.string s) := by
  have := keyOf_string_mk (P := Tryd.prog) (s := text s) Tryd.underlying9 (by rw [text_len]; unfold maxLen; omega)
  rw [this]
  congr 2

/-- What a map tells of the names that were met. -/
def Counts (l : List Grp) (k : Nat) (D : DataW Unit) : Prop := IsMap D ∧ ∀ q : List UInt8, D.atKey (.string q) (.lit (.int .i64 0)) = .lit (.int .i64 (if (l.take k).any (fun h => h.1 == q) = true then 1 else 0))
theorem counts_none (l : List Grp) : Counts l 0 (.map []) := ⟨isMap_empty, fun q => rfl⟩
theorem counts_step {l : List Grp} {k : Nat} {D : DataW Unit} (h : Counts l k D) (hk : k < l.length) {s : List UInt8} {p : Int} (hg : l.getD k ([], 0) = (s, p)) (ha : (l.take k).any (fun h => h.1 == s) = false) : Counts l (k + 1) (D.put (.string s) (.lit (.int .i64 1))) := by
  refine ⟨h.1.put _ _, fun q => ?_⟩
  have hst := any_step l k hk q
  rw [hg] at hst
  by_cases e : q = s
  · subst e
    rw [atKey_put_same h.1 (keylit _), hst]
    simp
  · rw [atKey_put_other (by simpa using e), h.2 q, hst]
    have : (s == q) = false := by simpa using fun x => e x.symm
    rw [this, Bool.or_false]

set_option maxHeartbeats 3200000 in
theorem pgood_c {w : World} {a : Option Addr} {n cap : Nat} {l : List Grp} (hl : Grs w a n cap l) (hs : ∀ g ∈ l, g.1.length ≤ 9223372036854775807) :
    Calls Tryd.prog 41 #[.slice a n cap] w (Tells (.int .i64 (pgoodS l)) w) := by
  have hln := hl.len
  have hle := hl.le
  have hmx := hl.max
  have HL := Lib.hid hl
  have HV := Lib.hid (show pgoodS l = if l.length = 0 then 2 else if 4 < l.length then 3 else goodFrom [] l from rfl)
  rw [hln] at HV
  clear hl
  have hmm := @run_makeMap Tryd.prog
  by_cases h0 : n = 0
  · have hv : pgoodS l = 2 := by rw [HV.out, if_pos h0]
    rw [hv]
    subst h0
    clear hv HV
    go_enter Tryd.func41, Tryd.ntmps41
    go_wp2
    go_ret
    exact ⟨rfl, Below.refl _ _⟩
  · have e0 : ((n : Int) == 0) = false := by rw [beq_eq_false_iff_ne]; omega
    by_cases h4 : 4 < n
    · have hv : pgoodS l = 3 := by rw [HV.out, if_neg h0, if_pos h4]
      rw [hv]
      have h4i : (4 : Int) < (n : Int) := by omega
      clear hv HV h0
      go_enter Tryd.func41, Tryd.ntmps41
      go_wp2
      go_ret
      exact ⟨rfl, Below.refl _ _⟩
    · have h4i : ¬ (4 : Int) < (n : Int) := by omega
      have hv : pgoodS l = goodFrom (l.take 0) (l.drop 0) := by rw [HV.out, if_neg h0, if_neg h4]; rfl
      have HV2 := Lib.hid hv
      clear hv HV h0
      go_enter Tryd.func41, Tryd.ntmps41
      go_upto_region 7 with (fail)
      go_loopw [17] (fun i wr => ∃ k : Nat, k ≤ n ∧ i = .int .i64 k ∧ pgoodS l = goodFrom (l.take k) (l.drop k) ∧ (∃ D, wr.ownsMap Tryd.prog 9 (plainElem Tryd.prog 3) w.heap.size k D ∧ Counts l k D) ∧ Below w.heap.size w wr) (fun i _ => n - (intOf i).toNat)
      case atStart => exact ⟨0, by omega, rfl, HV2.out, ⟨_, World.ownsMap_made _ _ _ _, counts_none l⟩, (Below.refl _ _).alloc (Nat.le_refl _) _⟩
      case round =>
        clear HV2 hmm
        obtain ⟨k, hk, rfl, hv, ⟨D, hown, hcn⟩, hB⟩ := hrel
        by_cases hlt : k < n
        · have hki : (k : Int) < (n : Int) := by omega
          have hki2 : (k : Int) < (cap : Int) := by omega
          obtain ⟨b, off, rfl, hat⟩ := HL.out.at hlt
          obtain ⟨⟨s, p⟩, hg⟩ : ∃ g, l.getD k ([], 0) = g := ⟨_, rfl⟩
          have hstep := good_step l k (by omega) s p hg
          have hkl : k < l.length := by omega
          have HG := Lib.hid hg
          rw [hg] at hat
          have hsl : s.length ≤ 9223372036854775807 := by
            have : (s, p) ∈ l := by rw [← hg, List.getD_eq_getElem?_getD, List.getElem?_eq_getElem (by omega)]; exact List.getElem_mem _
            exact hs _ this
          have hN := isname_c s hsl
          have HW := Lib.hid (word_c p)
          obtain ⟨c0, c1⟩ := hat wr hB
          simp only at c0 c1
          have HST := Lib.hid hstep
          have HV3 := Lib.hid hv
          have HKL := Lib.hid hkl
          have HCN := Lib.hid hcn
          have hgn := GrpAt.new wr s p
          have hB1 := hB.alloc hB.size (.cells #[.string (text s), .int .i64 p] 87)
          have hown1 := hown.alloc (.cells #[.string (text s), .int .i64 p] 87)
          have hne : wr.heap.size ≠ w.heap.size := by have := hown.lt; omega
          have HNE := Lib.hid hne
          clear hat hstep hv hkl hg hcn hown hne
          go_upto_region 9 with (fail)
          clear c0 c1 hB
          obtain ⟨gb, hgb⟩ : ∃ q, wr.heap.size = q := ⟨_, rfl⟩
          rw [hgb] at hgn HNE ⊢
          generalize wr.alloc (.cells #[.string (text s), .int .i64 p] 87) = W1 at *
          have c0 := hgn.c0
          have c1 := hgn.c1
          have HGN := Lib.hid hgn
          have HB1 := Lib.hid hB1
          have HO1 := Lib.hid hown1
          clear hgn hB1 hown1 hgb hsl
          cases hn : nameS s with
          | false =>
            rw [hn] at hN
            have HN := Lib.hid hN
            have HR := Lib.hid (show pgoodS l = 2 by rw [HV3.out, HST.out, if_pos (by simp [hn])])
            clear hN hn
            go_wp2_with (go_at_call 67; (with_reducible refine (HN.out _).mono ?_); rintro e w1 ⟨rfl, hb1⟩)
            go_ret
            exact ⟨by rw [HR.out]; rfl, HB1.out.trans (hb1.mono HB1.out.size)⟩
          | true =>
            have hkey := key_text s (name_len hn).2
            rw [hn] at hN
            have HN := Lib.hid hN
            by_cases hp : p = 1 ∨ p = 2
            · have HR := Lib.hid (show pgoodS l = if (l.take k).any (fun h => h.1 == s) then 70 else goodFrom (l.take (k + 1)) (l.drop (k + 1)) by rw [HV3.out, HST.out, if_neg (by simp [hn, hp])])
              have hat0 := HCN.out.2 s
              have HAT := Lib.hid hat0
              have HKEY := Lib.hid hkey
              clear hN hn HV3 HST hat0 hkey
              have hwe : (text (wordP p)).toList.isEmpty = false := by rcases hp with rfl | rfl <;> (rw [text_list]; rfl)
              obtain ⟨wt, hwt⟩ : ∃ q, text (wordP p) = q := ⟨_, rfl⟩
              rw [hwt] at HW hwe
              clear hwt
              rcases hp with rfl | rfl
              all_goals
                go_upto_region 11 with (first
                  | (go_at_call 67; (with_reducible refine (HN.out _).mono ?_); rintro e w1 ⟨rfl, hb1⟩; have c1 := (HGN.out.kept hb1).c1)
                  | (go_at_call 68; (with_reducible refine (HW.out _).mono ?_); rintro e w2 ⟨rfl, rfl⟩))
                have hg1 := HGN.out.kept hb1
                have hB2 := HB1.out.trans (hb1.mono HB1.out.size)
                have hown2 := owns_below HO1.out hb1
                have c0 := hg1.c0
                obtain ⟨c, hrun, hat, hwc⟩ := hown2.lookup_int klaw Tryd.underlying114 Tryd.underlying3 (zero3 _) HKEY.out
                rw [HAT.out] at hat
                cases ha : (l.take k).any (fun h => h.1 == s) with
                | true =>
                  rw [ha, if_pos rfl] at hat
                  obtain rfl : 1 = c := by simpa using hat
                  rw [ha, if_pos rfl] at HR
                  have HG1 := Lib.hid hg1
                  have HB2 := Lib.hid hB2
                  have HOW2 := Lib.hid hown2
                  clear hat hwc ha hg1 hB2 hown2 hb1
                  go_upto_region 12 with (first
                    | (at_mapUpdate; refine wpList_mapUpdate_own _ rfl _ _ _ 114 rfl 9 3 klaw Tryd.underlying114 _ w.heap.size k _ rfl HOW2.out (by unfold maxLen; omega) _ _ _ rfl rfl HKEY.out (.lit (.int .i64 2)) [] (plainElem_int Tryd.underlying3 (by decide)) ?_; intro w3 hown3 hgrow3))
                  have hg3 := HG1.out.grown hgrow3 HNE.out
                  have d0 := hg3.c0
                  obtain ⟨c', hrun', hat', hwc'⟩ := hown3.lookup_int klaw Tryd.underlying114 Tryd.underlying3 (zero3 _) HKEY.out
                  rw [atKey_put_same HCN.out.1 (keylit _)] at hat'
                  obtain rfl : 2 = c' := by simpa using hat'
                  have HB3 := Lib.hid (HB2.out.grown hgrow3 HB2.out.size (fun j hj => by cases hj; exact Nat.le_refl _))
                  clear hat' hwc' hown3 hgrow3 hg3 hrun
                  go_wp2
                  go_ret
                  exact ⟨by rw [HR.out]; rfl, HB3.out⟩
                | false =>
                  rw [ha, if_neg (by simp)] at hat
                  obtain rfl : 0 = c := by simpa using hat
                  have HCN2 := Lib.hid (counts_step HCN.out HKL.out HG.out ha)
                  rw [ha, if_neg (by simp)] at HR
                  have HG1 := Lib.hid hg1
                  have HB2 := Lib.hid hB2
                  have HOW2 := Lib.hid hown2
                  clear hat hwc ha hg1 hB2 hown2 hb1
                  go_upto_region 12 with (first
                    | (at_mapUpdate; refine wpList_mapUpdate_own _ rfl _ _ _ 114 rfl 9 3 klaw Tryd.underlying114 _ w.heap.size k _ rfl HOW2.out (by unfold maxLen; omega) _ _ _ rfl rfl HKEY.out (.lit (.int .i64 1)) [] (plainElem_int Tryd.underlying3 (by decide)) ?_; intro w3 hown3 hgrow3))
                  have hg3 := HG1.out.grown hgrow3 HNE.out
                  have d0 := hg3.c0
                  obtain ⟨c', hrun', hat', hwc'⟩ := hown3.lookup_int klaw Tryd.underlying114 Tryd.underlying3 (zero3 _) HKEY.out
                  rw [atKey_put_same HCN.out.1 (keylit _)] at hat'
                  obtain rfl : 1 = c' := by simpa using hat'
                  have HB3 := Lib.hid (HB2.out.grown hgrow3 HB2.out.size (fun j hj => by cases hj; exact Nat.le_refl _))
                  have HO3 := Lib.hid hown3
                  clear hat' hwc' hown3 hgrow3 hg3 hrun
                  go_wp2
                  go_roundw
                  case rel => exact ⟨k + 1, by omega, rfl, HR.out, ⟨_, HO3.out, HCN2.out⟩, HB3.out⟩
                  case measure => simp [intOf]; omega
            · have HR := Lib.hid (show pgoodS l = 2 by rw [HV3.out, HST.out, if_pos (by simp [hp])])
              have hw0 : wordP p = [] := by unfold wordP; rw [if_neg (fun h => hp (.inl h)), if_neg (fun h => hp (.inr h))]
              have hwe : (text ([] : List UInt8)).toList.isEmpty = true := by rw [text_list]; rfl
              rw [hw0] at HW
              obtain ⟨wt, hwt⟩ : ∃ q, text ([] : List UInt8) = q := ⟨_, rfl⟩
              rw [hwt] at HW hwe
              clear hN hn hp hkey hw0 hwt
              go_wp2_with (first
                | (go_at_call 67; (with_reducible refine (HN.out _).mono ?_); rintro e w1 ⟨rfl, hb1⟩; have c1 := (HGN.out.kept hb1).c1)
                | (go_at_call 68; (with_reducible refine (HW.out _).mono ?_); rintro e w2 ⟨rfl, rfl⟩))
              go_ret
              exact ⟨by rw [HR.out]; rfl, HB1.out.trans (hb1.mono HB1.out.size)⟩
        · obtain rfl : k = n := by omega
          have HR := Lib.hid (show pgoodS l = 0 by rw [hv, List.drop_of_length_le (by omega)]; rfl)
          have HB := Lib.hid hB
          clear hv hB hown hcn
          go_wp2
          go_ret
          exact ⟨by rw [HR.out]; rfl, HB.out⟩
end Go.Proofs.YtkjpmdpljdgcjaaDoor
