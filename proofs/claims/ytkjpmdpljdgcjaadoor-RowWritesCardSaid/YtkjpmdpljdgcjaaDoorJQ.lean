/-
  Letters, names and words of policy (cut of JA).
-/
import Derived.Test.YtkjpmdpljdgcjaaDoorQ2
import Derived.Test.YtkjpmdpljdgcjaaDoorNM
import Derived.Test.YtkjpmdpljdgcjaaDoorTX
import Derived.Test.YtkjpmdpljdgcjaaDoorOM
import Derived.Lib.OthersKept
import Derived.Laws.RangeAny
import Derived.Outline
namespace Go.Proofs.YtkjpmdpljdgcjaaDoor
open Go.RowKit Go Go.Sort
set_option linter.unusedVariables false
set_option maxRecDepth 20000

def lowI (r : Int) : Bool := decide (97 ≤ r ∧ r ≤ 122)
theorem lowI_yes {r : Int} (h1 : 97 ≤ r) (h2 : r ≤ 122) : lowI r = true := decide_eq_true ⟨h1, h2⟩
theorem lowI_no {r : Int} (h : ¬ (97 ≤ r ∧ r ≤ 122)) : lowI r = false := decide_eq_false h
theorem isletter_c (r : Int) (w : World) : Calls Tryd.prog 92 #[.int .i32 r] w (fun e w' => e = .returned (.bool (lowI r)) ∧ w' = w) := by
  by_cases h1 : 97 ≤ r
  · by_cases h2 : r ≤ 122
    · have HR := Lib.hid (lowI_yes h1 h2)
      go_enter Tryd.func92, Tryd.ntmps92
      go_wp2
      go_ret
      exact ⟨by rw [HR.out]; rfl, rfl⟩
    · have HR := Lib.hid (lowI_no (r := r) (fun h => h2 h.2))
      go_enter Tryd.func92, Tryd.ntmps92
      go_wp2
      go_ret
      exact ⟨by rw [HR.out]; rfl, rfl⟩
  · have HR := Lib.hid (lowI_no (r := r) (fun h => h1 h.1))
    go_enter Tryd.func92, Tryd.ntmps92
    go_wp2
    go_ret
    exact ⟨by rw [HR.out]; rfl, rfl⟩
theorem text_get (s : List UInt8) (k : Nat) (h : k < s.length) (h2 : k < (text s).size) : (((text s)[k]'h2).toNat : Int) = by8 s k := by
  unfold by8
  rw [List.getD_eq_getElem?_getD, List.getElem?_eq_getElem h]
  rfl
/-- What an iterator over a text tells next: a sign below 128, or a rune that is none. -/
theorem next_sign (s : List UInt8) (pos : Nat) (h : pos < s.length) : (by8 s pos < 128 ∧ ∀ (W : World) (b : Nat), W.heap[b]? = some (.stringIter (text s) pos) → ∀ ty, (Instr.next (.pointer (some ⟨b, 0, none⟩)) true ty).run Tryd.prog W = .ok (.tuple #[.bool true, .int .i64 pos, .int .i32 (by8 s pos)]) (W.iterAt b (text s) (pos + 1))) ∨
    (128 ≤ by8 s pos ∧ ∃ r : Int, 128 ≤ r ∧ ∃ k : Nat, ∀ (W : World) (b : Nat), W.heap[b]? = some (.stringIter (text s) pos) → ∀ ty, (Instr.next (.pointer (some ⟨b, 0, none⟩)) true ty).run Tryd.prog W = .ok (.tuple #[.bool true, .int .i64 pos, .int .i32 r]) (W.iterAt b (text s) (pos + k))) := by
  have h2 : pos < (text s).size := by rw [text_len]; exact h
  have hg := text_get s pos h h2
  by_cases ha : ((text s)[pos]'h2).toNat < 128
  · left
    refine ⟨by omega, fun W b hb ty => ?_⟩
    rw [Lib.run_next_ascii_at W b (text s) pos ty hb h2 ha, hg]
  · right
    have hd := decode_high (text s) pos h2 (by omega)
    refine ⟨by omega, ((Utf8.decode (text s) pos).1 : Int), by omega, (Utf8.decode (text s) pos).2, fun W b hb ty => ?_⟩
    exact Lib.run_next_any_at W b (text s) pos ty hb h2
theorem next_end (s : List UInt8) (pos : Nat) (h : ¬ pos < s.length) (W : World) (b : Nat) (hb : W.heap[b]? = some (.stringIter (text s) pos)) : ∀ ty, (Instr.next (.pointer (some ⟨b, 0, none⟩)) true ty).run Tryd.prog W = .ok (.tuple #[.bool false]) W :=
  fun ty => Lib.run_next_end_at W b (text s) pos ty hb (by rw [text_len]; exact h)
set_option maxHeartbeats 1600000 in
theorem isname_c (s : List UInt8) (hmax : s.length ≤ 9223372036854775807) (w : World) : Calls Tryd.prog 67 #[.string (text s)] w (Tells (.bool (nameS s)) w) := by
  have hsz : ((text s).size : Int) = s.length := by rw [text_len]
  have HX := Lib.hid (fun k h => next_sign s k h)
  have HE := Lib.hid (fun k h => next_end s k h)
  have HN := Lib.hid (nameS_low s)
  have HA := Lib.hid (fun k h ha => name_all s k h ha)
  have hit0 := World.iter_heap w (text s) 0
  have hb0 : Below w.heap.size w (w.iter (text s) 0) := (Below.refl _ w).alloc (Nat.le_refl _) _
  obtain ⟨S, hS⟩ : ∃ S, text s = S := ⟨_, rfl⟩
  rw [hS] at hsz HX HE hit0 hb0 ⊢
  obtain ⟨L, hL⟩ : ∃ L, s.length = L := ⟨_, rfl⟩
  have HL := Lib.hid hL
  rw [hL] at hsz HN
  have hL2 : (L : Int) ≤ 9223372036854775807 := by omega
  have HI := Lib.hid hit0
  have HB := Lib.hid hb0
  clear hS hmax hL hit0 hb0
  by_cases hl1 : L < 1
  · have hi1 : (L : Int) < 1 := by omega
    go_enter Tryd.func67, Tryd.ntmps67
    go_wp2
    go_ret
    exact ⟨by rw [HN.out]; simp; omega, Below.refl _ _⟩
  · have hi1 : ¬ (L : Int) < 1 := by omega
    by_cases hl2 : 12 < L
    · have hi2 : (12 : Int) < (L : Int) := by omega
      go_enter Tryd.func67, Tryd.ntmps67
      go_wp2
      go_ret
      exact ⟨by rw [HN.out]; simp; omega, Below.refl _ _⟩
    · have hi2 : ¬ (12 : Int) < (L : Int) := by omega
      have HD := Lib.hid (decide_eq_true (show 1 ≤ L ∧ L ≤ 12 by omega))
      rw [HD.out, Bool.and_true] at HN
      clear HD hl1 hl2
      go_enter Tryd.func67, Tryd.ntmps67
      go_wp2
      go_loopg [] L (fun gf wr => ∃ pos : Nat, pos + gf = L ∧ wr.heap[w.heap.size]? = some (.stringIter S pos) ∧ (s.take pos).all lowB = true ∧ Below w.heap.size w wr)
      case atStart => exact ⟨0, by omega, HI.out, rfl, HB.out⟩
      case round =>
        obtain ⟨pos, hpg, hit, hall, hbw⟩ := hrel
        clear HI HB
        by_cases hlt : pos < L
        · obtain ⟨g', rfl⟩ : ∃ g', gk = g' + 1 := ⟨gk - 1, by omega⟩
          have hx := HX.out pos (by rw [HL.out]; exact hlt)
          have ha := HA.out pos (by rw [HL.out]; exact hlt) hall
          obtain ⟨c, hc⟩ : ∃ c, by8 s pos = c := ⟨_, rfl⟩
          rw [hc] at hx ha
          rcases hx with ⟨h1, h2⟩ | ⟨h1, r, hr, k, h2⟩
          · have hnx := h2 wr w.heap.size hit
            have hit2 := Lib.iterAt_heap wr w.heap.size S pos (pos + 1) hit
            have hbw2 := Lib.below_iterAt hbw (k := w.heap.size) (Nat.le_refl _) S (pos + 1)
            have HT2 := Lib.hid hit2
            have HB2 := Lib.hid hbw2
            have cL := isletter_c c
            rcases ha with ⟨h3, h4, h5⟩ | ⟨h3, h5⟩
            · rw [lowI_yes h3 h4] at cL
              have H5 := Lib.hid h5
              have HCL := Lib.hid cL
              clear h2 h5 hit2 hbw2 cL hall hc hit hbw hlt
              go_wp2_with (go_at_call 92; (with_reducible refine (HCL.out _).mono ?_); rintro e w1 ⟨rfl, rfl⟩)
              go_roundg g'
              case measure => omega
              case rel => exact ⟨pos + 1, by omega, HT2.out, H5.out, HB2.out⟩
            · rw [lowI_no (r := c) (by omega)] at cL
              have H5 := Lib.hid h5
              have HCL := Lib.hid cL
              clear h2 h5 hit2 hbw2 cL hall hc hit hbw hlt
              go_wp2_with (go_at_call 92; (with_reducible refine (HCL.out _).mono ?_); rintro e w1 ⟨rfl, rfl⟩)
              go_ret
              exact ⟨by rw [HN.out, H5.out]; rfl, HB2.out⟩
          · have hnx := h2 wr w.heap.size hit
            have hbw2 := Lib.below_iterAt hbw (k := w.heap.size) (Nat.le_refl _) S (pos + k)
            have HB2 := Lib.hid hbw2
            have cL := isletter_c r
            rw [lowI_no (r := r) (by omega)] at cL
            have H5 := Lib.hid (show s.all lowB = false by
              rcases ha with ⟨h3, h4, h5⟩ | ⟨h3, h5⟩
              · omega
              · exact h5)
            have HCL := Lib.hid cL
            clear h2 hbw2 cL hall hc hit hbw hlt ha h1
            go_wp2_with (go_at_call 92; (with_reducible refine (HCL.out _).mono ?_); rintro e w1 ⟨rfl, rfl⟩)
            go_ret
            exact ⟨by rw [HN.out, H5.out]; rfl, HB2.out⟩
        · have hnx := HE.out pos (by rw [HL.out]; exact hlt) wr w.heap.size hit
          have H5 := Lib.hid (show s.all lowB = true by rw [List.take_of_length_le (by rw [HL.out]; omega)] at hall; exact hall)
          have HB2 := Lib.hid hbw
          clear hall hit hbw hlt
          go_wp2
          go_ret
          exact ⟨by rw [HN.out, H5.out]; rfl, HB2.out⟩
/-- A policy's word; nothing for none. -/
def wordP (p : Int) : List UInt8 := if p = 1 then [108, 97, 115, 116] else if p = 2 then [100, 101, 108, 101, 116, 101] else []
theorem word_c (p : Int) (w : World) : Calls Tryd.prog 68 #[.int .i64 p] w (fun e w' => e = .returned (.string (text (wordP p))) ∧ w' = w) := by
  by_cases h1 : p = 1
  · subst h1
    go_enter Tryd.func68, Tryd.ntmps68
    go_wp2
    go_ret
    exact ⟨rfl, rfl⟩
  · by_cases h2 : p = 2
    · subst h2
      go_enter Tryd.func68, Tryd.ntmps68
      go_wp2
      go_ret
      exact ⟨rfl, rfl⟩
    · have HR := Lib.hid (show wordP p = [] by unfold wordP; rw [if_neg h1, if_neg h2])
      have k1 : (p == 1) = false := by simpa using h1
      have k2 : (p == 2) = false := by simpa using h2
      clear h1 h2
      go_enter Tryd.func68, Tryd.ntmps68
      go_wp2
      go_ret
      exact ⟨by rw [HR.out]; rfl, rfl⟩
theorem name_len {s : List UInt8} (h : nameS s = true) : 1 ≤ s.length ∧ s.length ≤ 12 := by
  rw [nameS_low] at h; simp at h; omega
end Go.Proofs.YtkjpmdpljdgcjaaDoor
