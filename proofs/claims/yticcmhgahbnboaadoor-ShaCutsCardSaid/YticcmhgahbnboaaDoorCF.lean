/-
  crc.Fix and what it calls: bytes with their sum behind them, in new memory.
-/
import Derived.Test.YticcmhgahbnboaaDoorCL
import Derived.Test.YticcmhgahbnboaaDoorCo
import Derived.Deep.RegionLaw
import Derived.Deep.RegionHeld3
namespace Go.Proofs.YticcmhgahbnboaaDoor
open Go.RowKit
set_option linter.unusedVariables false

/-- Where laySum's loop stands: k of the four bytes are laid. -/
def layK (l1 l4 : List UInt8) (x : W32) (k : Nat) : List UInt8 := l1 ++ ((four x).take k ++ l4.drop k)

theorem layK_zero (l1 l4 : List UInt8) (x : W32) : layK l1 l4 x 0 = l1 ++ l4 := by simp [layK]
theorem layK_four (l1 l4 : List UInt8) (x : W32) (h : l4.length = 4) : layK l1 l4 x 4 = l1 ++ four x := by
  unfold layK; rw [List.drop_of_length_le (by omega), List.take_of_length_le (by simp [four])]; simp

theorem layK_succ (l1 l4 : List UInt8) (x : W32) (k : Nat) (hk : k < 4) (h : l4.length = 4) :
    (u8v (layK l1 l4 x k)).set (l1.length + k) (.int .u8 (by8 (four x) k)) = u8v (layK l1 l4 x (k + 1)) := by
  match l4, h with
  | [a, b, c, d], _ =>
    unfold layK u8v
    simp only [List.map_append]
    rw [List.set_append, List.length_map, if_neg (by omega), show l1.length + k - l1.length = k by omega]
    congr 1
    rcases (by omega : k = 0 ∨ k = 1 ∨ k = 2 ∨ k = 3) with rfl | rfl | rfl | rfl <;> rfl
theorem layK_length (l1 l4 : List UInt8) (x : W32) (k : Nat) (hk : k ≤ 4) (h : l4.length = 4) : (layK l1 l4 x k).length = l1.length + 4 := by
  unfold layK; simp [four]; omega

theorem four_val (x : W32) (k : Nat) (hk : k < 4) : by8 (four x) k = I x / 2 ^ (8 * (3 - k)) % 256 := by
  unfold by8 four I
  rcases (by omega : k = 0 ∨ k = 1 ∨ k = 2 ∨ k = 3) with rfl | rfl | rfl | rfl
  all_goals simp [List.getD]

/-- What laySum leaves. -/
def LayPost (B g n cap : Nat) (l1 : List UInt8) (x : W32) (w : World) (e : Ending) (w' : World) : Prop :=
  e = .returned (.tuple #[]) ∧ w'.ownsRow B 5 1 (.slice (some ⟨g, 0, none⟩) n cap) n (u8v (l1 ++ four x)) ∧ Below g w w' ∧ w.grownBy w' (some g)

set_option maxHeartbeats 800000 in
theorem lay_c {w : World} {B g n cap c2 : Nat} {l1 l4 : List UInt8} (x : W32) (h4 : l4.length = 4) (hn : n = l1.length + 4) (hg : g ≤ w.heap.size) (hown : w.ownsRow B 5 1 (.slice (some ⟨g, 0, none⟩) n cap) n (u8v (l1 ++ l4))) :
    Calls Tryd.prog 50 #[.slice (some ⟨g, l1.length, none⟩) 4 c2, .int .u32 (I x)] w (LayPost B g n cap l1 x w) := by
  have hx := I_bd x
  go_enter Tryd.func50, Tryd.ntmps50
  go_wp2
  go_loopw [5] (fun i wr => ∃ k : Nat, k ≤ 4 ∧ i = .int .i64 k ∧ wr.ownsRow B 5 1 (.slice (some ⟨g, 0, none⟩) n cap) n (u8v (layK l1 l4 x k)) ∧ w.grownBy wr (some g)) (fun i _ => 4 - (intOf i).toNat)
  case atStart => exact ⟨0, by omega, rfl, by rw [layK_zero]; exact hown, World.grownBy.refl _ _⟩
  case round =>
    obtain ⟨k, hk, rfl, hown2, hgr⟩ := hrel
    by_cases hlt : k < 4
    · have hcell := hown2.cellAt (l1.length + k) (by rw [hn]; omega)
      rw [u8v_get _ _ (by rw [layK_length _ _ _ _ hk h4]; omega)] at hcell
      have hfz := hown2.frozenAt (l1.length + k)
      have hv := four_val x k hlt
      generalize by8 (layK l1 l4 x k) (l1.length + k) = old at hcell
      rcases (by omega : k = 0 ∨ k = 1 ∨ k = 2 ∨ k = 3) with rfl | rfl | rfl | rfl
      · have hv2 : I x / 16777216 = by8 (four x) 0 := by rw [hv]; omega
        have hs := hown2.stored (l1.length) (.int .u8 (by8 (four x) 0))
        have hl := layK_succ l1 l4 x 0 (by omega) h4
        rw [show l1.length = l1.length + 0 by rfl, hl, Nat.add_zero] at hs
        have HS := Lib.hid hs
        have HV := Lib.hid hv2
        clear hs hl hv hv2 hown hown2
        simp only [Nat.add_zero] at hcell hfz
        go_wp2
        go_roundw
        case rel => exact ⟨1, by omega, rfl, by rw [HV.out]; exact HS.out.1, by rw [HV.out]; exact grown_trans hgr HS.out.2⟩
        case measure => simp [intOf]
      · have hv2 : I x / 65536 % 256 = by8 (four x) 1 := by rw [hv]; omega
        have hs := hown2.stored (l1.length + 1) (.int .u8 (by8 (four x) 1))
        have hl := layK_succ l1 l4 x 1 (by omega) h4
        rw [hl] at hs
        have HS := Lib.hid hs
        have HV := Lib.hid hv2
        clear hs hl hv hv2 hown hown2
        go_wp2
        go_roundw
        case rel => exact ⟨2, by omega, rfl, by rw [HV.out]; exact HS.out.1, by rw [HV.out]; exact grown_trans hgr HS.out.2⟩
        case measure => simp [intOf]
      · have hv2 : I x / 256 % 256 = by8 (four x) 2 := by rw [hv]; omega
        have hs := hown2.stored (l1.length + 2) (.int .u8 (by8 (four x) 2))
        have hl := layK_succ l1 l4 x 2 (by omega) h4
        rw [hl] at hs
        have HS := Lib.hid hs
        have HV := Lib.hid hv2
        clear hs hl hv hv2 hown hown2
        go_wp2
        go_roundw
        case rel => exact ⟨3, by omega, rfl, by rw [HV.out]; exact HS.out.1, by rw [HV.out]; exact grown_trans hgr HS.out.2⟩
        case measure => simp [intOf]
      · have hv2 : I x % 256 = by8 (four x) 3 := by rw [hv]; omega
        have hs := hown2.stored (l1.length + 3) (.int .u8 (by8 (four x) 3))
        have hl := layK_succ l1 l4 x 3 (by omega) h4
        rw [hl] at hs
        have HS := Lib.hid hs
        have HV := Lib.hid hv2
        clear hs hl hv hv2 hown hown2
        go_wp2
        go_roundw
        case rel => exact ⟨4, by omega, rfl, by rw [HV.out]; exact HS.out.1, by rw [HV.out]; exact grown_trans hgr HS.out.2⟩
        case measure => simp [intOf]
    · obtain rfl : k = 4 := by omega
      go_wp2
      go_end0
      exact ⟨rfl, by rw [← layK_four l1 l4 x h4]; exact hown2, grown_below hgr hg, hgr⟩

/-- Bytes with their sum behind them. -/
def fixS (l : List UInt8) : List UInt8 := l ++ four (sumS l)
theorem fixS_length (l : List UInt8) : (fixS l).length = l.length + 4 := by simp [fixS, four]

def zeros4 : List UInt8 := [0, 0, 0, 0]

theorem own_copied4 {w : World} {B g : Nat} {l : List UInt8} (hB : B ≤ g) (hm : l.length ≤ 1000000)
    (h : w.heap[g]? = some (.cells (splice (List.replicate (l.length + 4) (Value.int .u8 0)) 0 (u8v l)).toArray 5 (0, 0))) :
    w.ownsRow B 5 1 (.slice (some ⟨g, 0, none⟩) (l.length + 4) (l.length + 4)) (l.length + 4) (u8v (l ++ zeros4)) := by
  have e : splice (List.replicate (l.length + 4) (Value.int .u8 0)) 0 (u8v l) = u8v (l ++ zeros4) := by
    unfold splice
    rw [u8v_append, u8v_length]
    simp [u8v, zeros4]
  rw [e] at h
  refine ⟨by rw [u8v_length]; simp [zeros4], .inr ⟨g, _, _, rfl, hB, h, Nat.le_refl _, by unfold maxLen; omega, ?_, ?_⟩⟩
  · simp [u8v_length, zeros4]
  · simp only []
    rw [List.take_of_length_le (by simp [u8v_length, zeros4])]

set_option maxHeartbeats 1600000 in
theorem fix_c {w : World} {a : Option Addr} {n cap : Nat} {l : List UInt8} (hb : Bys w a n cap l) (hn : n ≤ 1000000) : Calls Tryd.prog 34 #[.slice a n cap] w (BytesPost (fixS l) w) := by
  obtain ⟨i0, hi, hz0, hz1, hz2⟩ := info_parts Tryd.info5
  obtain rfl : l.length = n := hb.len
  go_enter Tryd.func34, Tryd.ntmps34
  go_wp2_with (at_make; refine wpList_make_full _ rfl _ _ 22 rfl w.heap.size 5 i0 (.int .u8 0) 1 Tryd.underlying22 hi hz0 hz1 .i64 .i64 _ _ (l.length + 4) rfl rfl ?c1 ?c2 ?c3 ?c4 ?c5 ?_)
  case c1 => simp
  case c2 => simp
  case c3 => rw [hz2]; omega
  case c4 => unfold maxLen; omega
  case c5 => exact Nat.le_refl _
  intro w1 hown hgr
  have hbel : Below w.heap.size w w1.drew := ((Below.refl _ _).grown hgr (Nat.le_refl _) (fun k hk => by cases hk)).drew
  have hheap : w1.drew.heap[w.heap.size]? = some (.cells (List.replicate (l.length + 4) (Value.int .u8 0)).toArray 5 (0, 0)) := heap_of_made hown
  have hsz : (Tryd.prog.info? 5).map (·.size) = some 1 := by rw [hi]; simp [hz1]
  have hcl : (u8v l).length = l.length := u8v_length l
  have hpos : 0 < (u8v l).length → ∃ ad, a = some ad ∧ ∀ j v, (u8v l)[j]? = some v → w1.drew.cell? (ad.add j) = some v := by
    intro hp
    rw [hcl] at hp
    exact (hb.below hbel).cells hp
  have hmin : (u8v l).length = Nat.min l.length (l.length + 4) := by rw [hcl]; exact (Nat.min_eq_left (by omega)).symm
  have hfit : 0 + (u8v l).length ≤ (List.replicate (l.length + 4) (Value.int .u8 0)).length := by rw [hcl]; simp
  have HP := Lib.hid hpos
  have HH := Lib.hid hheap
  have HC := Lib.hid hcl
  have HM := Lib.hid hmin
  clear hown hgr hheap hmin hpos
  have hle : (l.length : Int) ≤ (l.length : Int) + 4 := by omega
  go_wp2
  go_region_law (first
    | (refine step_copy_splice rfl (.tmp 9) (.tmp 10) 22 22 rfl 5 Tryd.underlying22 hsz (some ⟨w.heap.size, 0, none⟩) a (l.length + 4) (l.length + 4) l.length cap (by simp [Act.eval, Act.put]) (by simp [Act.eval, Act.put]) w.heap.size 0 (List.replicate (l.length + 4) (Value.int .u8 0)) 5 HH.out (u8v l) HM.out (fun hp => ⟨rfl, HP.out hp⟩) hfit (u8v_one l) w.heap.size w hbel (Nat.le_refl _) ?_; intro w4 hg4 hb4)
    | (go_simp; go_at_call 51; refine (sum_c (hb.below (by assumption))).mono ?_; rintro e w' ⟨rfl, rfl⟩)
    | (go_simp; go_at_call 50; refine (lay_c (sumS l) rfl rfl (by assumption : Below w.heap.size w _).size (own_copied4 (Nat.le_refl _) hn (by assumption : Hid _).out)).mono ?_; rintro e w' ⟨rfl, ho5, hb5, hg5⟩))
  go_wp2
  go_ret
  exact ⟨_, rfl, by unfold OwnB; rw [fixS_length]; exact ho5, hb4.trans hb5⟩

theorem four_bys (w : World) (e : TypeId) (x : W32) :
    Bys (w.alloc (.cells #[.int .u8 (I x / 16777216), .int .u8 (I x / 65536 % 256), .int .u8 (I x / 256 % 256), .int .u8 (I x % 256)] e)) (some ⟨w.heap.size, 0, none⟩) 4 4 (four x) := by
  have hx := I_bd x
  refine ⟨rfl, Nat.le_refl _, by omega, .inr ⟨w.heap.size, 0, rfl, fun i hi => ?_⟩⟩
  have hv := four_val x i hi
  unfold World.cell?
  rw [heap_alloc_new]
  rcases (by omega : i = 0 ∨ i = 1 ∨ i = 2 ∨ i = 3) with rfl | rfl | rfl | rfl
  · rw [show by8 (four x) 0 = I x / 16777216 by rw [hv]; omega]; rfl
  · rw [show by8 (four x) 1 = I x / 65536 % 256 by rw [hv]; omega]; rfl
  · rw [show by8 (four x) 2 = I x / 256 % 256 by rw [hv]; omega]; rfl
  · rw [show by8 (four x) 3 = I x % 256 by rw [hv]; omega]; rfl

set_option maxHeartbeats 1600000 in
theorem rfix_c {w : World} {a : Option Addr} {n cap : Nat} {l : List UInt8} (hb : Bys w a n cap l) (hn : n ≤ 1000000) : Calls Tryd.prog 36 #[.slice a n cap] w (BytesPost (fixS l) w) := by
  obtain ⟨i0, hi, hz0, hz1, hz2⟩ := info_parts Tryd.info5
  have hx := I_bd (sumS l)
  go_enter Tryd.func36, Tryd.ntmps36
  have hba := hb.below ((Below.refl w.heap.size w).alloc (Nat.le_refl _) (.cells #[] 5))
  have hoe := OwnB.empty w w.heap.size 5 (Nat.le_refl _)
  have hln : l.length = n := hb.len
  have HL := Lib.hid hln
  clear hln
  go_wp2_with (first
    | (go_at_call 54; refine (rsum_c hb).mono ?_; rintro e w' ⟨rfl, rfl⟩)
    | (at_builtin; refine wpList_append_bys rfl (.tmp 6) (.tmp 7) 22 rfl Tryd.underlying22 hi hz0 hz1 hz2 rfl rfl hoe rfl hba (by simp; omega) (by simp) ?_; intro v1 w1 ho1 hg1)
    | (at_builtin; refine wpList_append_bys rfl (.tmp 8) (.tmp 20) 22 rfl Tryd.underlying22 hi hz0 hz1 hz2 rfl rfl (World.ownsRow.alloc ho1 _) rfl (four_bys w1 5 (sumS l)) (by have := HL.out; simp; omega) (by have := hg1.size; simp at this ⊢; omega) ?_; intro v2 w2 ho2 hg2))
  go_ret
  have b1 : Below w.heap.size w w1 := ((Below.refl w.heap.size w).alloc (Nat.le_refl _) (.cells #[] 5)).grown hg1 (by simp) (fun k hk => (hoe.lt k hk).1)
  have b2 : Below w.heap.size w w2 := (b1.alloc b1.size _).grown hg2 (by have := b1.size; simp; omega) (fun k hk => (ho1.lt k hk).1)
  exact ⟨v2, rfl, ho2, b2⟩

/-- The word of the first k bytes. -/
def wordK (l : List UInt8) (k : Nat) : W32 := (l.take k).foldl (fun r c => (r <<< 8) ||| wd c) 0#32
theorem wordK_succ (l : List UInt8) (k : Nat) (h : k < l.length) : wordK l (k + 1) = (wordK l k <<< 8) ||| wd (byt l k) := by
  unfold wordK; rw [take_snoc8 l k h, List.foldl_append]; rfl
theorem word_val (r : W32) (c : UInt8) (cv : Int) (h : cv = (c.toNat : Int)) : bits .or .u32 (I r * 256 % 4294967296) cv = I ((r <<< 8) ||| wd c) := by
  have h1 : I r * (256 : Int) % (4294967296 : Int) = I (r <<< 8) := by
    unfold I; rw [BitVec.toNat_shiftLeft]; simp [Nat.shiftLeft_eq]
  have h2 : cv = I (wd c) := by
    subst h; unfold I wd; rw [BitVec.toNat_ofNat]; have := c.toNat_lt; omega
  rw [h1, h2, I_or]

/-- Do bytes end with the sum of those ahead of it? -/
def rightS (l : List UInt8) : Bool := if l.length < 4 then false else wordK (l.drop (l.length - 4)) 4 == sumS (l.take (l.length - 4))

def RetBool (x : Bool) (w : World) (e : Ending) (w' : World) : Prop := e = .returned (.bool x) ∧ w = w'
theorem RetBool.mk {a x : Bool} {w : World} (h : a = x) : RetBool x w (.returned (.bool a)) w := by subst h; exact ⟨rfl, rfl⟩

set_option maxHeartbeats 800000 in
theorem right_c {w : World} {a : Option Addr} {n cap : Nat} {l : List UInt8} (hb : Bys w a n cap l) : Calls Tryd.prog 57 #[.slice a n cap] w (RetBool (rightS l) w) := by
  have hlim : (n : Int) ≤ 9223372036854775807 := by have := hb.le; have := hb.max; omega
  by_cases h4 : n < 4
  · have hr : rightS l = false := by unfold rightS; rw [hb.len, if_pos h4]
    rw [hr]
    have hd : (n : Int) < 4 := by omega
    go_enter Tryd.func57, Tryd.ntmps57
    go_wp2
    go_ret
    exact RetBool.mk rfl
  · have h5 : (4 : Int) ≤ (n : Int) := by omega
    have hle := hb.le
    have hmax := hb.max
    have hcq : ¬ cap = n - 4 := by omega
    have hn4 : n - (n - 4) = 4 := by omega
    have ht := hb.take (show n - 4 ≤ n by omega)
    have HLE := Lib.hid (show (l.drop (n - 4)).length = 4 by rw [List.length_drop, hb.len]; omega)
    have HR := Lib.hid (show rightS l = (wordK (l.drop (n - 4)) 4 == sumS (l.take (n - 4))) by unfold rightS; rw [hb.len, if_neg (by omega)])
    obtain ⟨b, off, rfl, hc⟩ : ∃ b off, a = some ⟨b, off, none⟩ ∧ ∀ i, i < 4 → w.cell? ⟨b, off + (n - 4) + i, none⟩ = some (.int .u8 (by8 (l.drop (n - 4)) i)) := by
      rcases hb.adr with h0 | ⟨b, off, rfl, hc⟩
      · omega
      · exact ⟨b, off, rfl, fun i hi => by rw [by8_drop, Nat.add_assoc]; exact hc (n - 4 + i) (by omega)⟩
    obtain ⟨l4, e4⟩ : ∃ l4, l.drop (n - 4) = l4 := ⟨_, rfl⟩
    rw [e4] at HR HLE hc
    have HC := Lib.hid hc
    clear hc e4 hb h4
    go_enter Tryd.func57, Tryd.ntmps57
    go_wp2
    go_loop [4, 16] (fun v i => ∃ k : Nat, k ≤ 4 ∧ i = .int .i64 k ∧ v = .int .u32 (I (wordK l4 k))) (fun _ i => 4 - (intOf i).toNat)
    case atStart => exact ⟨0, by omega, rfl, by rw [show wordK l4 0 = 0#32 by rfl]; rfl⟩
    case round =>
      obtain ⟨k, hk, rfl, rfl⟩ := hrel
      by_cases hlt : k < 4
      · have hcell := HC.out k hlt
        have h8 := by8_bd l4 k
        have HS := Lib.hid (wordK_succ l4 k (by have := HLE.out; omega))
        have HV := Lib.hid (word_val (wordK l4 k) (byt l4 k) _ (by8_byt l4 k))
        have hI := I_bd (wordK l4 k)
        clear HC
        go_wp2
        go_round
        case rel => exact ⟨k + 1, by omega, by go_num, by rw [HS.out, HV.out]⟩
        case measure => simp [intOf]; omega
      · obtain rfl : k = 4 := by omega
        clear HC
        go_wp2_with (go_at_call 51; refine (sum_c ht).mono ?_; rintro e w' ⟨rfl, rfl⟩)
        go_ret
        exact RetBool.mk (by rw [HR.out, Bool.eq_iff_iff]; simp; exact ⟨I_inj, fun h => by rw [h]⟩)

theorem step_nat (r : W32) (c : UInt8) (h : r.toNat < 16777216) : ((r <<< 8) ||| wd c).toNat = r.toNat * 256 + c.toNat := by
  have hc := c.toNat_lt
  rw [BitVec.toNat_or, BitVec.toNat_shiftLeft]
  unfold wd
  rw [BitVec.toNat_ofNat, Nat.mod_eq_of_lt (show c.toNat < 2 ^ 32 by omega), Nat.shiftLeft_eq, Nat.mod_eq_of_lt (by omega)]
  have := Nat.shiftLeft_add_eq_or_of_lt (i := 8) (b := c.toNat) (by omega) r.toNat
  rw [Nat.shiftLeft_eq] at this
  exact this.symm
theorem word4_nat (a b c d : UInt8) : (wordK [a, b, c, d] 4).toNat = a.toNat * 16777216 + b.toNat * 65536 + c.toNat * 256 + d.toNat := by
  have ha := a.toNat_lt
  have hb := b.toNat_lt
  have hc := c.toNat_lt
  show (((((0#32 <<< 8 ||| wd a) <<< 8 ||| wd b) <<< 8 ||| wd c) <<< 8) ||| wd d).toNat = _
  have e1 := step_nat 0#32 a (by decide)
  rw [show (0#32).toNat = 0 by rfl] at e1
  generalize (0#32 <<< 8 ||| wd a) = r1 at *
  have e2 := step_nat r1 b (by omega)
  generalize (r1 <<< 8 ||| wd b) = r2 at *
  have e3 := step_nat r2 c (by omega)
  generalize (r2 <<< 8 ||| wd c) = r3 at *
  have e4 := step_nat r3 d (by omega)
  rw [e4]; omega
theorem word_four (x : W32) : wordK (four x) 4 = x := by
  apply BitVec.eq_of_toNat_eq
  have hx := x.isLt
  unfold four
  rw [word4_nat]
  simp
  omega
theorem four_word4 (l : List UInt8) (h : l.length = 4) : four (wordK l 4) = l := by
  match l, h with
  | [a, b, c, d], _ =>
    have hn := word4_nat a b c d
    have ha := a.toNat_lt
    have hb := b.toNat_lt
    have hc := c.toNat_lt
    have hd := d.toNat_lt
    unfold four
    rw [hn]
    have e : ∀ (u : UInt8) (n : Nat), n = u.toNat → UInt8.ofNat n = u := by
      intro u n h; subst h; simp
    rw [e a _ (by omega), e b _ (by omega), e c _ (by omega), e d _ (by omega)]

theorem rightS_iff (l : List UInt8) (h : ¬ l.length < 4) : rightS l = decide (fixS (l.take (l.length - 4)) = l) := by
  unfold rightS
  rw [if_neg h, Bool.eq_iff_iff]
  simp only [beq_iff_eq, decide_eq_true_eq]
  have hd : (l.drop (l.length - 4)).length = 4 := by rw [List.length_drop]; omega
  have hs : l.take (l.length - 4) ++ l.drop (l.length - 4) = l := List.take_append_drop _ _
  constructor
  · intro he
    unfold fixS
    rw [← he, four_word4 _ hd, hs]
  · intro he
    unfold fixS at he
    have h2 : l.take (l.length - 4) ++ four (sumS (l.take (l.length - 4))) = l.take (l.length - 4) ++ l.drop (l.length - 4) := by rw [hs]; exact he
    have h3 := List.append_cancel_left h2
    rw [← h3, word_four]
theorem rightS_fix (l : List UInt8) : rightS (fixS l) = true := by
  have hl : ¬ (fixS l).length < 4 := by rw [fixS_length]; omega
  rw [rightS_iff _ hl, fixS_length, Nat.add_sub_cancel]
  have : (fixS l).take l.length = l := by unfold fixS; exact List.take_left
  rw [this]; simp
end Go.Proofs.YticcmhgahbnboaaDoor
