/-
  frame.find and the reference's Open: what the frame is with which bytes begin.
-/
import Derived.Test.YticcmhgahbnboaaDoorFM
import Derived.Test.YticcmhgahbnboaaDoorNG
import Derived.Test.YticcmhgahbnboaaDoorNR
namespace Go.Proofs.YticcmhgahbnboaaDoor
open Go.RowKit
set_option linter.unusedVariables false

/-- The bytes from the second one on, wherever their slice leads. -/
theorem tail_bys {w : World} {b off n cap : Nat} {l : List UInt8} (hb : Bys w (some ⟨b, off, none⟩) n cap l) (hn : 0 < n) :
    (cap = 1 → Bys w (some ⟨b, off, none⟩) (n - 1) (cap - 1) (l.drop 1)) ∧ Bys w (some ⟨b, off + 1, none⟩) (n - 1) (cap - 1) (l.drop 1) :=
  ⟨fun h => hb.dropEnd hn h, by have := hb.drop (q := 1) hn; rwa [Option.map_some, addr_add] at this⟩

set_option maxRecDepth 100000 in
set_option maxHeartbeats 1600000 in
theorem find_c {w : World} {a : Option Addr} {n cap : Nat} {l : List UInt8} (hb : Bys w a n cap l) (hn : n ≤ 100000) :
    Calls Tryd.prog 38 #[.slice a n cap] w (Ret3 (findS l) w) := by
  have hlen := hb.len
  have hle := hb.le
  have hmax := hb.max
  by_cases h0 : n = 0
  · subst h0
    obtain rfl := List.eq_nil_of_length_eq_zero hlen
    go_enter Tryd.func38, Tryd.ntmps38
    go_wp2
    go_ret3
    exact Ret3.mk findS_nil
  have hpos : 0 < n := by omega
  have hne : ((n : Int) == 0) = false := by rw [beq_eq_false_iff_ne]; omega
  obtain ⟨b, off, rfl, hcs⟩ : ∃ b off, a = some ⟨b, off, none⟩ ∧ ∀ i, i < n → w.cell? ⟨b, off + i, none⟩ = some (.int .u8 (by8 l i)) := by
    rcases hb.adr with h | h
    · omega
    · exact h
  have hc0 : w.cell? ⟨b, off, none⟩ = some (.int .u8 (by8 l 0)) := hcs 0 hpos
  have hlp : 0 < l.length := by omega
  have hn1 : (0 : Int) < (n : Int) := by omega
  clear hcs
  by_cases hm : byt8 l 0 = 181
  · have hm1 : by8 l 0 = 181 := by rw [by8_byt8, hm]; rfl
    rw [hm1] at hc0
    have htl := tail_bys hb hpos
    have ht : ∀ q, q ≤ n → Bys w (some ⟨b, off, none⟩) q cap (l.take q) := fun q hq => hb.take hq
    have HLEN := Lib.hid hlen
    have HT := Lib.hid ht
    clear hlen hm1 h0 ht
    rcases getS_cases (l.drop 1) with ⟨ge, hg, he⟩ | ⟨gn, gk, hg, h1, h2, h3⟩
    · have hf := Lib.hid (findS_get hlp hm hg he)
      have hb1 : (ge != 0) = true := by rw [bne_iff_ne]; exact he
      have hg1 : ∀ a c, Bys w a (n - 1) c (l.drop 1) → Calls Tryd.prog 56 #[.slice a (n - 1) c] w (Ret3 (0, 0, ge) w) := fun a c h => hg ▸ get_c h
      have HG := Lib.hid hg1
      clear hg hg1 hm he hb
      by_cases hc1 : cap = 1
      · obtain rfl : n = 1 := by omega
        have hd := htl.1 hc1
        subst hc1
        clear htl
        go_enter Tryd.func38, Tryd.ntmps38
        go_wp2_with (go_at_call 56; refine (HG.out _ _ hd).mono ?_; rintro e w' ⟨rfl, rfl⟩)
        go_ret3
        exact Ret3.mk hf.out
      · have hd := htl.2
        clear htl
        go_enter Tryd.func38, Tryd.ntmps38
        go_wp2_with (go_at_call 56; refine (HG.out _ _ hd).mono ?_; rintro e w' ⟨rfl, rfl⟩)
        go_ret3
        exact Ret3.mk hf.out
    · rw [List.length_drop] at h2
      have hq2 : 1 + gk ≤ n := by have := HLEN.out; omega
      have hc1 : ¬ cap = 1 := by omega
      have hd := htl.2
      have hg1 : ∀ a c, Bys w a (n - 1) c (l.drop 1) → Calls Tryd.prog 56 #[.slice a (n - 1) c] w (Ret3 (gn, gk, 0) w) := fun a c h => hg ▸ get_c h
      have HG := Lib.hid hg1
      clear hg1 htl hb h2
      by_cases hl : 1048576 < gn
      · have hf := Lib.hid (findS_long hlp hm hg (by omega))
        have hb1 : decide ((1048576 : Int) < (gn : Int)) = true := by simp; omega
        clear hg hm
        go_enter Tryd.func38, Tryd.ntmps38
        go_wp2_with (go_at_call 56; refine (HG.out _ _ hd).mono ?_; rintro e w' ⟨rfl, rfl⟩)
        go_ret3
        exact Ret3.mk hf.out
      have hb1 : decide ((1048576 : Int) < (gn : Int)) = false := by simp; omega
      by_cases hc : 1 + gk + gn + 4 ≤ n
      · have hb2 : decide ((n : Int) - (1 + (gk : Int)) < (gn : Int) + 4) = false := by simp; omega
        have hl1 : 1 + gk + gn + 4 ≤ l.length := by rw [HLEN.out]; exact hc
        have htk := HT.out (1 + gk + gn + 4) hc
        have hi : (1 : Int) + (gk : Int) + (gn : Int) + 4 ≤ (cap : Int) ∧ (0 : Int) ≤ 1 + (gk : Int) + (gn : Int) + 4 := by omega
        cases hr : rightS (l.take (1 + gk + gn + 4)) with
        | false =>
          have hf := Lib.hid (findS_sum hlp hm hg hl hl1 hr)
          have hrc := right_c htk
          rw [hr] at hrc
          have HR := Lib.hid hrc
          clear hr hrc hg hm hl htk
          go_enter Tryd.func38, Tryd.ntmps38
          go_wp2_with (first
            | (go_at_call 56; refine (HG.out _ _ hd).mono ?_; rintro e w' ⟨rfl, rfl⟩)
            | (go_at_call 57; refine (HR.out).mono ?_; rintro e w' ⟨rfl, rfl⟩))
          go_ret3
          exact Ret3.mk hf.out
        | true =>
          have hf := Lib.hid (findS_good hlp hm hg hl hl1 hr)
          have hrc := right_c htk
          rw [hr] at hrc
          have HR := Lib.hid hrc
          clear hr hrc hg hm hl htk
          go_enter Tryd.func38, Tryd.ntmps38
          go_wp2_with (first
            | (go_at_call 56; refine (HG.out _ _ hd).mono ?_; rintro e w' ⟨rfl, rfl⟩)
            | (go_at_call 57; refine (HR.out).mono ?_; rintro e w' ⟨rfl, rfl⟩))
          go_ret3
          exact Ret3.mk (by rw [hf.out]; simp)
      · have hf := Lib.hid (findS_cut hlp hm hg (by omega) (by rw [HLEN.out]; omega))
        have hb2 : decide ((n : Int) - (1 + (gk : Int)) < (gn : Int) + 4) = true := by simp; omega
        clear hg hm hl hc
        go_enter Tryd.func38, Tryd.ntmps38
        go_wp2_with (go_at_call 56; refine (HG.out _ _ hd).mono ?_; rintro e w' ⟨rfl, rfl⟩)
        go_ret3
        exact Ret3.mk hf.out
  · have hf := Lib.hid (findS_mark hlp hm)
    have hb1 : (by8 l 0 != 181) = true := by rw [bne_iff_ne, by8_byt8]; intro h; exact hm (UInt8.toNat_inj.1 (by have : ((byt8 l 0).toNat : Int) = 181 := h; show _ = 181; omega))
    have h8 := by8_bd l 0
    clear hm hlen h0
    go_enter Tryd.func38, Tryd.ntmps38
    go_wp2
    go_ret3
    exact Ret3.mk hf.out
end Go.Proofs.YticcmhgahbnboaaDoor
