/-
  Policy: the walks of PolicyChecks and PolicyNames.
-/
import Derived.Test.YtkhihfpdghjfmaaDoorJI
namespace Go.Proofs.YtkhihfpdghjfmaaDoor
open Go.RowKit Go Go.Sort
set_option linter.unusedVariables false
set_option maxRecDepth 20000

set_option maxHeartbeats 1600000 in
theorem pchecks_walk {w : World} {a : Option Addr} {n cap : Nat} {l : List Grp} (hl : Grs w a n cap l) (hs : ∀ g ∈ l, g.1.length ≤ 9223372036854775807) (name : List UInt8) (k : Int) (hT : TabW w) :
    Calls Tryd.prog 3 #[.slice a n cap, .string (text name), .int .i64 k] w (Tells (.bool true) w) := by
  have hle := hl.le
  have hmx := hl.max
  have hLv := fun W (h : Below w.heap.size w W) => plives_c (hT.below h)
  have hF := fun W (h : Below w.heap.size w W) => pfind_c (hl.below h) hs name
  have hRF := fun W (h : Below w.heap.size w W) => rpfind_c (hl.below h) hs name
  have hO := fun W (h : Below w.heap.size w W) => pof_c (hl.below h) hs k
  have hRO := fun W (h : Below w.heap.size w W) => rpof_c (hl.below h) hs k
  have hG := fun W (h : Below w.heap.size w W) => pgood_c (hl.below h) hs
  have hRG := fun W (h : Below w.heap.size w W) => rpgood_c (hl.below h) hs
  obtain ⟨⟨x, e⟩, hx⟩ : ∃ q, pfindS l name = q := ⟨_, rfl⟩
  obtain ⟨⟨y, f⟩, hy⟩ : ∃ q, pofS l k = q := ⟨_, rfl⟩
  obtain ⟨z, hz⟩ : ∃ q, pgoodS l = q := ⟨_, rfl⟩
  rw [hx] at hF hRF
  rw [hy] at hO hRO
  rw [hz] at hG hRG
  have HLv := Lib.hid hLv
  have HF := Lib.hid hF
  have HRF := Lib.hid hRF
  have HO := Lib.hid hO
  have HRO := Lib.hid hRO
  have HG := Lib.hid hG
  have HRG := Lib.hid hRG
  have hcur := Below.refl w.heap.size w
  clear hLv hF hRF hO hRO hG hRG hx hy hz hl hs hT
  by_cases h1 : 1000 < n
  · have h1i : (1000 : Int) < (n : Int) := by omega
    go_enter Tryd.func3, Tryd.ntmps3
    go_wp2_with ((go_at_call 13; (with_reducible refine (HLv.out _ hcur).mono ?_); rintro e9 w9 ⟨rfl, hb9⟩; (replace hcur := hcur.trans (hb9.mono hcur.size)); clear hb9))
    go_ret
    exact ⟨rfl, hcur⟩
  · have h1i : ¬ (1000 : Int) < (n : Int) := by omega
    go_enter Tryd.func3, Tryd.ntmps3
    go_wp2_with (first
      | (go_at_call 14; (with_reducible refine (HF.out _ hcur).mono ?_); rintro e9 w9 ⟨rfl, hb9⟩; (replace hcur := hcur.trans (hb9.mono hcur.size)); clear hb9)
      | (go_at_call 15; (with_reducible refine (HRF.out _ hcur).mono ?_); rintro e9 w9 ⟨rfl, hb9⟩; (replace hcur := hcur.trans (hb9.mono hcur.size)); clear hb9)
      | (go_at_call 16; (with_reducible refine (HO.out _ hcur).mono ?_); rintro e9 w9 ⟨rfl, hb9⟩; (replace hcur := hcur.trans (hb9.mono hcur.size)); clear hb9)
      | (go_at_call 17; (with_reducible refine (HRO.out _ hcur).mono ?_); rintro e9 w9 ⟨rfl, hb9⟩; (replace hcur := hcur.trans (hb9.mono hcur.size)); clear hb9)
      | (go_at_call 18; (with_reducible refine (HG.out _ hcur).mono ?_); rintro e9 w9 ⟨rfl, hb9⟩; (replace hcur := hcur.trans (hb9.mono hcur.size)); clear hb9)
      | (go_at_call 19; (with_reducible refine (HRG.out _ hcur).mono ?_); rintro e9 w9 ⟨rfl, hb9⟩; (replace hcur := hcur.trans (hb9.mono hcur.size)); clear hb9)
      | (go_at_call 13; (with_reducible refine (HLv.out _ hcur).mono ?_); rintro e9 w9 ⟨rfl, hb9⟩; (replace hcur := hcur.trans (hb9.mono hcur.size)); clear hb9))
    go_ret
    exact ⟨rfl, hcur⟩

set_option maxHeartbeats 3200000 in
theorem pnames_walk {w : World} {a : Option Addr} {n cap : Nat} {l : List Grp} (hl : Grs w a n cap l) (hs : ∀ g ∈ l, g.1.length ≤ 9223372036854775807) (hT : TabW w) :
    Calls Tryd.prog 7 #[.slice a n cap] w (Tells (.bool true) w) := by
  have hln := hl.len
  have hle := hl.le
  have hmx := hl.max
  have HLv := Lib.hid (fun W (h : Below w.heap.size w W) => plives_c (hT.below h))
  have hG := fun W (h : Below w.heap.size w W) => pgood_c (hl.below h) hs
  have HF := Lib.hid (fun (name : List UInt8) W (h : Below w.heap.size w W) => pfind_c (hl.below h) hs name)
  have HO := Lib.hid (fun (k : Int) W (h : Below w.heap.size w W) => pof_c (hl.below h) hs k)
  have HL := Lib.hid hl
  have HN1 := Lib.hid (@names_find l)
  have HN2 := Lib.hid (@names_of l)
  have HN3 := Lib.hid (@names_none l)
  have HN4 := Lib.hid (@names_end l)
  obtain ⟨z, hz⟩ : ∃ q, pgoodS l = q := ⟨_, rfl⟩
  rw [hz] at hG
  have HG := Lib.hid hG
  have HZ := Lib.hid hz
  have hcur := Below.refl w.heap.size w
  clear hG hl hs hT hz
  by_cases h1 : 1000 < n
  · have h1i : (1000 : Int) < (n : Int) := by omega
    go_enter Tryd.func7, Tryd.ntmps7
    go_wp2_with ((go_at_call 13; (with_reducible refine (HLv.out _ hcur).mono ?_); rintro e9 w9 ⟨rfl, hb9⟩; (replace hcur := hcur.trans (hb9.mono hcur.size)); clear hb9))
    go_ret
    exact ⟨rfl, hcur⟩
  · have h1i : ¬ (1000 : Int) < (n : Int) := by omega
    by_cases h0 : z = 0
    · subst h0
      have hE := HN3.out HZ.out
      have hE2 := HN4.out HZ.out
      rw [hln] at hE2
      have hFE := HF.out []
      have hOE := HO.out (n : Int)
      rw [hE] at hFE
      rw [hE2] at hOE
      have hnil : text ([] : List UInt8) = ⟨#[]⟩ := rfl
      rw [hnil] at hFE
      have HFE := Lib.hid hFE
      have HOE := Lib.hid hOE
      clear hE hE2 hFE hOE hnil
      go_enter Tryd.func7, Tryd.ntmps7
      go_upto_region 4 with ((go_at_call 18; (with_reducible refine (HG.out _ hcur).mono ?_); rintro e9 w9 ⟨rfl, hb9⟩; (replace hcur := hcur.trans (hb9.mono hcur.size)); clear hb9))
      go_loopw [24] (fun i wr => ∃ k : Nat, k ≤ n ∧ i = .int .i64 k ∧ Below w.heap.size w wr) (fun i _ => n - (intOf i).toNat)
      case atStart => exact ⟨0, by omega, rfl, hcur⟩
      case round =>
        clear hcur
        obtain ⟨k, hk, rfl, hcur⟩ := hrel
        by_cases hlt : k < n
        · have hki : (k : Int) < (n : Int) := by omega
          have hki2 : (k : Int) < (cap : Int) := by omega
          obtain ⟨b, off, rfl, hat⟩ := HL.out.at hlt
          have hf := HN1.out HZ.out (i := k) (by omega)
          have hof := HN2.out HZ.out (i := k) (by omega)
          obtain ⟨⟨s, p⟩, hg⟩ : ∃ g, l.getD k ([], 0) = g := ⟨_, rfl⟩
          rw [hg] at hat hf hof
          obtain ⟨c0, c1⟩ := hat wr hcur
          simp only at c0 c1 hf hof
          have hFk := HF.out s
          have hOk := HO.out (k : Int)
          rw [hf] at hFk
          rw [hof] at hOk
          have HFk := Lib.hid hFk
          have HOk := Lib.hid hOk
          have hgn := GrpAt.new wr s p
          have hcur2 := hcur.alloc hcur.size (.cells #[.string (text s), .int .i64 p] 54)
          clear hat hf hof hg hFk hOk
          go_upto_region 6 with (fail)
          clear c0 c1 hcur
          obtain ⟨gb, hgb⟩ : ∃ q, wr.heap.size = q := ⟨_, rfl⟩
          rw [hgb] at hgn ⊢
          generalize wr.alloc (.cells #[.string (text s), .int .i64 p] 54) = W1 at *
          have c0 := hgn.c0
          have HGN := Lib.hid hgn
          have hcur := Below.refl W1.heap.size W1
          have HB := Lib.hid hcur2
          clear hgn hgb hcur2
          go_wp2_with (first
            | (go_at_call 14; (with_reducible refine (HFk.out _ (HB.out.trans (hcur.mono HB.out.size))).mono ?_); rintro e9 w9 ⟨rfl, hb9⟩; (replace hcur := hcur.trans (hb9.mono hcur.size)); clear hb9)
            | (go_at_call 16; (with_reducible refine (HOk.out _ (HB.out.trans (hcur.mono HB.out.size))).mono ?_); rintro e9 w9 ⟨rfl, hb9⟩; (replace hcur := hcur.trans (hb9.mono hcur.size)); clear hb9; have c1 := (HGN.out.kept hcur).c1))
          go_roundw
          case rel => exact ⟨k + 1, by omega, rfl, HB.out.trans (hcur.mono HB.out.size)⟩
          case measure => simp [intOf]; omega
        · obtain rfl : k = n := by omega
          go_wp2_with (first
            | (go_at_call 14; (with_reducible refine (HFE.out _ hcur).mono ?_); rintro e9 w9 ⟨rfl, hb9⟩; (replace hcur := hcur.trans (hb9.mono hcur.size)); clear hb9)
            | (go_at_call 16; (with_reducible refine (HOE.out _ hcur).mono ?_); rintro e9 w9 ⟨rfl, hb9⟩; (replace hcur := hcur.trans (hb9.mono hcur.size)); clear hb9)
            | (go_at_call 13; (with_reducible refine (HLv.out _ hcur).mono ?_); rintro e9 w9 ⟨rfl, hb9⟩; (replace hcur := hcur.trans (hb9.mono hcur.size)); clear hb9))
          go_ret
          exact ⟨rfl, hcur⟩
    · have hne : (z != 0) = true := by simpa using h0
      clear h0
      go_enter Tryd.func7, Tryd.ntmps7
      go_wp2_with (first
        | (go_at_call 18; (with_reducible refine (HG.out _ hcur).mono ?_); rintro e9 w9 ⟨rfl, hb9⟩; (replace hcur := hcur.trans (hb9.mono hcur.size)); clear hb9)
        | (go_at_call 13; (with_reducible refine (HLv.out _ hcur).mono ?_); rintro e9 w9 ⟨rfl, hb9⟩; (replace hcur := hcur.trans (hb9.mono hcur.size)); clear hb9))
      go_ret
      exact ⟨rfl, hcur⟩
end Go.Proofs.YtkhihfpdghjfmaaDoor
