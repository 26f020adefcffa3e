/-
  frame.Open and the reference's Open: the body of the frame with which bytes begin, in new memory.
-/
import Derived.Test.YticcmhgahbnboaaDoorFO
import Derived.Test.YticcmhgahbnboaaDoorPP
namespace Go.Proofs.YticcmhgahbnboaaDoor
open Go.RowKit
set_option linter.unusedVariables false

/-- What Open tells. -/
def OpenPost (l : List UInt8) (w : World) (e : Ending) (w' : World) : Prop :=
  ∃ v, e = .returned (.tuple #[v, .int .i64 (openS l).2.1, .int .i64 (openS l).2.2]) ∧ OwnB w' w.heap.size 5 v (openS l).1 ∧ Below w.heap.size w w'
theorem OwnB.nil (w : World) (B : Nat) (e : TypeId) : OwnB w B e (.slice none 0 0) [] := World.ownsRow_nil _ _ _ _
theorem OpenPost.bad {l : List UInt8} {w w' : World} {e : Int} (h : openS l = ([], 0, e)) (hb : Below w.heap.size w w') : OpenPost l w (.returned (.tuple #[.slice none 0 0, .int .i64 0, .int .i64 e])) w' := by
  unfold OpenPost; rw [h]; exact ⟨_, rfl, OwnB.nil _ _ _, hb⟩
theorem OpenPost.good {l m : List UInt8} {w w' : World} {k : Int} {v : Value} (h : openS l = (m, k, 0)) (ho : OwnB w' w.heap.size 5 v m) (hb : Below w.heap.size w w') : OpenPost l w (.returned (.tuple #[v, .int .i64 k, .int .i64 0])) w' := by
  unfold OpenPost; rw [h]; exact ⟨_, rfl, ho, hb⟩

set_option maxRecDepth 100000 in
set_option maxHeartbeats 1600000 in
theorem open_c {w : World} {a : Option Addr} {n cap : Nat} {l : List UInt8} (hb : Bys w a n cap l) (hn : n ≤ 100000) :
    Calls Tryd.prog 16 #[.slice a n cap] w (OpenPost l w) := by
  have hle := hb.le
  have hmax := hb.max
  have hlen := hb.len
  rcases findS_cases l with ⟨e, hf, he⟩ | ⟨s, t, hf, h2, hst, ht4⟩
  · have hO := Lib.hid (openS_bad hf he)
    have hfc := find_c hb hn
    rw [hf] at hfc
    have HF := Lib.hid hfc
    have hb1 : (e != 0) = true := by rw [bne_iff_ne]; exact he
    clear hf hfc he hlen
    go_enter Tryd.func16, Tryd.ntmps16
    go_wp2_with (go_at_call 38; refine (HF.out).mono ?_; rintro e w' ⟨rfl, rfl⟩)
    go_ret3
    exact OpenPost.bad hO.out (Below.refl _ _)
  · obtain ⟨d, rfl⟩ : ∃ d, t = s + d := ⟨t - s, by omega⟩
    have hO := openS_good hf
    rw [Nat.add_sub_cancel_left] at hO
    have HO := Lib.hid hO
    have hfc := find_c hb hn
    rw [hf] at hfc
    have HF := Lib.hid hfc
    obtain ⟨i0, hi, hz0, hz1, hz2⟩ := info_parts Tryd.info5
    have hszi : (Tryd.prog.info? 5).map (·.size) = some 1 := by rw [hi]; simp [hz1]
    obtain ⟨b, off, rfl⟩ : ∃ b off, a = some ⟨b, off, none⟩ := by
      rcases hb.adr with h | ⟨b, off, h, _⟩
      · omega
      · exact ⟨b, off, h⟩
    have hsrc : Bys w (some ⟨b, off + s, none⟩) d (cap - s) ((l.drop s).take d) := by
      have h1 := hb.drop (q := s) (by omega)
      rw [Option.map_some, addr_add] at h1
      exact h1.take (by omega)
    obtain ⟨m, hm⟩ : ∃ m, (l.drop s).take d = m := ⟨_, rfl⟩
    rw [hm] at hsrc HO
    have hml : m.length = d := hsrc.len
    subst hml
    have hi1 : (s : Int) ≤ (s : Int) + (m.length : Int) ∧ (s : Int) + (m.length : Int) ≤ (cap : Int) ∧ ¬ cap = s ∧ s + m.length ≤ cap ∧ m.length ≤ 100000 ∧ s ≤ 100000 := by omega
    clear hf hfc hO hm hlen hb ht4 hst
    go_enter Tryd.func16, Tryd.ntmps16
    go_wp2_with (first
      | (go_at_call 38; refine (HF.out).mono ?_; rintro e w' ⟨rfl, rfl⟩)
      | (at_make; refine wpList_make_full _ rfl _ _ 22 rfl w.heap.size 5 i0 (.int .u8 0) 1 Tryd.underlying22 hi hz0 hz1 .i64 .i64 _ _ m.length rfl rfl ?c1 ?c2 ?c3 ?c4 ?c5 ?_))
    case c1 => first | omega | (simp; done) | (simp; omega)
    case c2 => first | omega | (simp; done) | (simp; omega)
    case c3 => rw [hz2]; omega
    case c4 => unfold maxLen; omega
    case c5 => exact Nat.le_refl _
    intro w1 hown hgr
    have hbel : Below w.heap.size w w1 := (Below.refl _ _).grown hgr (Nat.le_refl _) (fun k hk => by cases hk)
    have HH := Lib.hid (show w1.heap[w.heap.size]? = some (.cells (List.replicate m.length (Value.int .u8 0)).toArray 5 (0, 0)) from heap_of_made hown)
    have hcl : (u8v m).length = m.length := u8v_length m
    have HP := Lib.hid (show 0 < (u8v m).length → ∃ ad, (some ⟨b, off + s, none⟩ : Option Addr) = some ad ∧ ∀ j v, (u8v m)[j]? = some v → w1.cell? (ad.add j) = some v from fun hp => (hsrc.below hbel).cells (by rw [hcl] at hp; exact hp))
    have HM := Lib.hid (show (u8v m).length = Nat.min (s + m.length - s) m.length by rw [hcl, Nat.add_sub_cancel_left]; exact (Nat.min_self _).symm)
    have hfit : 0 + (u8v m).length ≤ (List.replicate m.length (Value.int .u8 0)).length := by rw [hcl]; simp
    clear hown hgr hcl
    go_wp2_with (with_reducible refine wpList_copy_splice rfl (.tmp 22) (.tmp 26) 22 22 rfl 5 Tryd.underlying22 hszi (some ⟨w.heap.size, 0, none⟩) (some ⟨b, off + s, none⟩) m.length m.length (s + m.length - s) (cap - s) rfl rfl w.heap.size 0 (List.replicate m.length (Value.int .u8 0)) 5 HH.out (u8v m) HM.out (fun hp => ⟨rfl, HP.out hp⟩) hfit (u8v_one m) w.heap.size w hbel (Nat.le_refl _) ?_; intro w4 hg4 hb4)
    go_ret3
    have ho := own_copied (k := 0) (Nat.le_refl w.heap.size) (by omega) hg4.out
    exact OpenPost.good (m := m) (by rw [HO.out]; simp) (by simpa [OwnB] using ho) hb4

set_option maxRecDepth 100000 in
set_option maxHeartbeats 1600000 in
theorem ropen_c {w : World} {a : Option Addr} {n cap : Nat} {l : List UInt8} (hb : Bys w a n cap l) (hn : n ≤ 100000) :
    Calls Tryd.prog 17 #[.slice a n cap] w (OpenPost l w) := by
  have hlen := hb.len
  have hle := hb.le
  have hmax := hb.max
  by_cases h0 : n = 0
  · subst h0
    obtain rfl := List.eq_nil_of_length_eq_zero hlen
    go_enter Tryd.func17, Tryd.ntmps17
    go_wp2
    go_ret3
    exact OpenPost.bad rfl (Below.refl _ _)
  have hpos : 0 < n := by omega
  have hne : ((n : Int) == 0) = false := by rw [beq_eq_false_iff_ne]; omega
  obtain ⟨b, off, rfl, hcs⟩ : ∃ b off, a = some ⟨b, off, none⟩ ∧ ∀ i, i < n → w.cell? ⟨b, off + i, none⟩ = some (.int .u8 (by8 l i)) := by
    rcases hb.adr with h | h
    · omega
    · exact h
  have hc0 : w.cell? ⟨b, off, none⟩ = some (.int .u8 (by8 l 0)) := hcs 0 hpos
  have hlp : 0 < l.length := by omega
  have hn1 : (0 : Int) < (n : Int) := by omega
  clear hcs
  by_cases hm : byt8 l 0 = 181
  · have hm1 : by8 l 0 = 181 := by rw [by8_byt8, hm]; rfl
    rw [hm1] at hc0
    have htl := tail_bys hb hpos
    have ht : ∀ q, q ≤ n → Bys w (some ⟨b, off, none⟩) q cap (l.take q) := fun q hq => hb.take hq
    have HLEN := Lib.hid hlen
    have HT := Lib.hid ht
    clear hlen hm1 h0 ht
    rcases getS_cases (l.drop 1) with ⟨ge, hg, he⟩ | ⟨gn, gk, hg, h1, h2, h3⟩
    · have hf := Lib.hid (openS_bad (findS_get hlp hm hg he) he)
      have hb1 : (ge != 0) = true := by rw [bne_iff_ne]; exact he
      have hg1 : ∀ a c, Bys w a (n - 1) c (l.drop 1) → Calls Tryd.prog 39 #[.slice a (n - 1) c] w (Ret3 (0, 0, ge) w) := fun a c h => hg ▸ rget_c h
      have HG := Lib.hid hg1
      clear hg hg1 hm he hb
      by_cases hc1 : cap = 1
      · obtain rfl : n = 1 := by omega
        have hd := htl.1 hc1
        subst hc1
        clear htl
        go_enter Tryd.func17, Tryd.ntmps17
        go_wp2_with (go_at_call 39; refine (HG.out _ _ hd).mono ?_; rintro e w' ⟨rfl, rfl⟩)
        go_ret3
        exact OpenPost.bad hf.out (Below.refl _ _)
      · have hd := htl.2
        clear htl
        go_enter Tryd.func17, Tryd.ntmps17
        go_wp2_with (go_at_call 39; refine (HG.out _ _ hd).mono ?_; rintro e w' ⟨rfl, rfl⟩)
        go_ret3
        exact OpenPost.bad hf.out (Below.refl _ _)
    · rw [List.length_drop] at h2
      have hq2 : 1 + gk ≤ n := by have := HLEN.out; omega
      have hc1 : ¬ cap = 1 := by omega
      have hd := htl.2
      have hg1 : ∀ a c, Bys w a (n - 1) c (l.drop 1) → Calls Tryd.prog 39 #[.slice a (n - 1) c] w (Ret3 (gn, gk, 0) w) := fun a c h => hg ▸ rget_c h
      have HG := Lib.hid hg1
      have hbk := Lib.hid hb
      clear hg1 htl hb h2
      by_cases hl : 1048576 < gn
      · have hf := Lib.hid (openS_bad (findS_long hlp hm hg (by omega)) (by decide))
        have hb1 : decide ((1048576 : Int) < (gn : Int)) = true := by simp; omega
        clear hg hm
        go_enter Tryd.func17, Tryd.ntmps17
        go_wp2_with (go_at_call 39; refine (HG.out _ _ hd).mono ?_; rintro e w' ⟨rfl, rfl⟩)
        go_ret3
        exact OpenPost.bad hf.out (Below.refl _ _)
      have hb1 : decide ((1048576 : Int) < (gn : Int)) = false := by simp; omega
      by_cases hc : 1 + gk + gn + 4 ≤ n
      · have hb2 : decide ((n : Int) < (1 : Int) + (gk : Int) + (gn : Int) + 4) = false := by simp; omega
        have hl1 : 1 + gk + gn + 4 ≤ l.length := by rw [HLEN.out]; exact hc
        have htk := HT.out (1 + gk + gn + 4) hc
        have hi : (1 : Int) + (gk : Int) + (gn : Int) + 4 ≤ (cap : Int) ∧ (0 : Int) ≤ 1 + (gk : Int) + (gn : Int) + 4 := by omega
        cases hr : rightS (l.take (1 + gk + gn + 4)) with
        | false =>
          have hf := Lib.hid (openS_bad (findS_sum hlp hm hg hl hl1 hr) (by decide))
          have hrc := rright_c htk (by omega)
          rw [hr] at hrc
          have HR := Lib.hid hrc
          clear hr hrc hg hm hl htk
          go_enter Tryd.func17, Tryd.ntmps17
          go_wp2_with (first
            | (go_at_call 39; refine (HG.out _ _ hd).mono ?_; rintro e w' ⟨rfl, rfl⟩)
            | (go_at_call 40; refine (HR.out).mono ?_; rintro e w1 ⟨rfl, hbr⟩))
          go_ret3
          exact OpenPost.bad hf.out hbr
        | true =>
          have hf := openS_good (findS_good hlp hm hg hl hl1 hr)
          rw [show 1 + gk + gn - (1 + gk) = gn by omega] at hf
          have hsrc : Bys w (some ⟨b, off + (1 + gk), none⟩) gn (cap - (1 + gk)) ((l.drop (1 + gk)).take gn) := by
            have h1 := hbk.out.drop (q := 1 + gk) hq2
            rw [Option.map_some, addr_add] at h1
            exact h1.take (by omega)
          obtain ⟨m, hmm⟩ : ∃ m, (l.drop (1 + gk)).take gn = m := ⟨_, rfl⟩
          rw [hmm] at hsrc hf
          have HF := Lib.hid hf
          have hrc := rright_c htk (by omega)
          rw [hr] at hrc
          have HR := Lib.hid hrc
          obtain ⟨i0, hi0, hz0, hz1, hz2⟩ := info_parts Tryd.info5
          have hi2 : (1 : Int) + (gk : Int) ≤ 1 + (gk : Int) + (gn : Int) ∧ (1 : Int) + (gk : Int) + (gn : Int) ≤ (cap : Int) ∧ ¬ cap = 1 + gk ∧ 1 + gk + gn ≤ cap ∧ gn ≤ 100000 := by omega
          clear hr hrc hg hm hl htk hf hmm
          go_enter Tryd.func17, Tryd.ntmps17
          go_wp2_with (first
            | (go_at_call 39; refine (HG.out _ _ hd).mono ?_; rintro e w' ⟨rfl, rfl⟩)
            | (go_at_call 40; refine (HR.out).mono ?_; rintro e w1 ⟨rfl, hbr⟩; have hal := (Below.refl w1.heap.size w1).alloc (Nat.le_refl _) (.cells #[] 5); have hoe := OwnB.empty w1 w1.heap.size 5 (Nat.le_refl _); have hs1 : Bys _ _ (1 + gk + gn - (1 + gk)) _ _ := (Nat.add_sub_cancel_left (1 + gk) gn).symm ▸ ((hsrc.below hbr).below hal))
            | (at_builtin; refine wpList_append_bys rfl (.tmp 42) (.tmp 50) 22 rfl Tryd.underlying22 hi0 hz0 hz1 hz2 rfl rfl hoe rfl hs1 (by simp; omega) (by simp) ?_; intro v2 w2 ho2 hg2))
          go_ret3
          have b2 : Below w1.heap.size w1 w2 := hal.grown hg2 (by simp) (fun k hk => (hoe.lt k hk).1)
          exact OpenPost.good (m := m) (by rw [HF.out]; simp) (by rw [List.nil_append] at ho2; exact ho2.mono hbr.size) (hbr.trans (b2.mono hbr.size))
      · have hf := Lib.hid (openS_bad (findS_cut hlp hm hg (by omega) (by rw [HLEN.out]; omega)) (by decide))
        have hb2 : decide ((n : Int) < (1 : Int) + (gk : Int) + (gn : Int) + 4) = true := by simp; omega
        clear hg hm hl hc
        go_enter Tryd.func17, Tryd.ntmps17
        go_wp2_with (go_at_call 39; refine (HG.out _ _ hd).mono ?_; rintro e w' ⟨rfl, rfl⟩)
        go_ret3
        exact OpenPost.bad hf.out (Below.refl _ _)
  · have hf := Lib.hid (openS_bad (findS_mark hlp hm) (by decide))
    have hb1 : (by8 l 0 != 181) = true := by rw [bne_iff_ne, by8_byt8]; intro h; exact hm (UInt8.toNat_inj.1 (by have : ((byt8 l 0).toNat : Int) = 181 := h; show _ = 181; omega))
    have h8 := by8_bd l 0
    clear hm hlen h0
    go_enter Tryd.func17, Tryd.ntmps17
    go_wp2
    go_ret3
    exact OpenPost.bad hf.out (Below.refl _ _)
end Go.Proofs.YticcmhgahbnboaaDoor
