/-
  sha.words: the words of a block.
-/
import Derived.Test.YticcmhgahbnboaaDoorSA
import Derived.Test.YticcmhgahbnboaaDoorCF
import Derived.Deep.QuietTactic
import Derived.BigQuiet
import Derived.Outline
import Derived.BigRegion
namespace Go.Proofs.YticcmhgahbnboaaDoor
open Go.RowKit Go
set_option linter.unusedVariables false

/-- The row of words behind i bytes. -/
def fillS (b : List UInt8) : Nat → List W32
  | 0 => List.replicate 64 0#32
  | i + 1 => (fillS b i).set (i / 4) (wAt (fillS b i) (i / 4) <<< 8 ||| wd (byt b i))
theorem fillS_length (b : List UInt8) (i : Nat) : (fillS b i).length = 64 := by
  induction i with
  | zero => simp [fillS]
  | succ i ih => simp [fillS, ih]
/-- The row of words of which i are told. -/
def growS (b : List UInt8) (i : Nat) : List W32 := wordsS b i ++ List.replicate (64 - i) 0#32
theorem growS_length (b : List UInt8) (i : Nat) (h : i ≤ 64) : (growS b i).length = 64 := by simp [growS, wordsS_length]; omega
theorem set_mid (l : List W32) (x y : W32) (r : List W32) (i : Nat) (h : i = l.length) : (l ++ x :: r).set i y = l ++ y :: r := by
  subst h; simp
theorem wAt_mid (l : List W32) (x : W32) (r : List W32) (i : Nat) (h : i = l.length) : wAt (l ++ x :: r) i = x := by
  subst h; simp [wAt]
theorem word4_fold (a b c d : UInt8) : ((((0#32 <<< 8 ||| wd a) <<< 8 ||| wd b) <<< 8 ||| wd c) <<< 8 ||| wd d) = wd a <<< 24 ||| wd b <<< 16 ||| wd c <<< 8 ||| wd d := by
  simp only [BitVec.shiftLeft_or_distrib, ← BitVec.shiftLeft_add]
  simp
theorem fillS_grow (b : List UInt8) (j : Nat) (h : j ≤ 16) : fillS b (4 * j) = growS b j := by
  induction j with
  | zero => rfl
  | succ j ih =>
    have hr : List.replicate (64 - j) 0#32 = 0#32 :: List.replicate (64 - (j + 1)) 0#32 := by
      rw [show 64 - j = (64 - (j + 1)) + 1 by omega, List.replicate_succ]
    have ih := ih (by omega)
    have hl : j = (wordsS b j).length := (wordsS_length b j).symm
    unfold growS at ih ⊢
    rw [hr] at ih
    rw [show 4 * (j + 1) = 4 * j + 3 + 1 by omega]
    simp only [fillS, ih, show (4 * j + 1 + 1 + 1) / 4 = j by omega, show (4 * j + 1 + 1) / 4 = j by omega, show (4 * j + 1) / 4 = j by omega, show (4 * j) / 4 = j by omega, set_mid _ _ _ _ j hl, wAt_mid _ _ _ j hl]
    rw [word4_fold, wordsS, List.append_assoc]
    have : nextW b (wordsS b j) j = word4 b j := by unfold nextW; rw [if_pos (by omega)]
    rw [this]
    rfl
theorem growS_set (b : List UInt8) (i : Nat) (h : i < 64) : (growS b i).set i (nextW b (wordsS b i) i) = growS b (i + 1) := by
  unfold growS
  rw [show 64 - i = (64 - (i + 1)) + 1 by omega, List.replicate_succ, set_mid _ _ _ _ i (wordsS_length b i).symm, wordsS, List.append_assoc]
  rfl
theorem growS_at (b : List UInt8) (i j : Nat) (h : j < i) : wAt (growS b i) j = wAt (wordsS b i) j := by
  unfold growS wAt
  rw [List.getD_eq_getElem?_getD, List.getElem?_append_left (by rw [wordsS_length]; exact h), ← List.getD_eq_getElem?_getD]
theorem growS_next (b : List UInt8) (i : Nat) (h : 16 ≤ i) (h2 : i < 64) :
    nextW b (wordsS b i) i = wAt (growS b i) (i - 16) + s0S (wAt (growS b i) (i - 15)) + wAt (growS b i) (i - 7) + s1S (wAt (growS b i) (i - 2)) := by
  unfold nextW
  rw [if_neg (by omega), growS_at _ _ _ (by omega), growS_at _ _ _ (by omega), growS_at _ _ _ (by omega), growS_at _ _ _ (by omega)]
theorem growS_all (b : List UInt8) : growS b 64 = wordsS b 64 := by simp [growS]

theorem I_shl8 (x : W32) : I x * (256 : Int) % (4294967296 : Int) = I (x <<< 8) := by have := I_shl x 8; simpa using this
theorem I_shr3 (x : W32) : I x / (8 : Int) = I (x >>> 3) := by have := I_shr x 3; simpa using this
theorem I_shr10 (x : W32) : I x / (1024 : Int) = I (x >>> 10) := by have := I_shr x 10; simpa using this

theorem I_add4 (a b c d : W32) : (I a + I b + I c + I d) % (4294967296 : Int) = I (a + b + c + d) := by
  rw [← I_add, ← I_add, ← I_add]; omega

attribute [local go_sem] I_xor I_and I_or I_not' I_add

set_option maxRecDepth 100000 in
set_option maxHeartbeats 3200000 in
theorem words_c (b : List UInt8) (hl : b.length = 64) {w : World} : Calls Tryd.prog 46 #[.agg (u8v b).toArray] w (AggPost (wordsS b 64) w) := by
  have hB : ((((w.alloc (.cells (u8v b).toArray 62)).alloc (.cells (u32v (fillS b 0)).toArray 78)).alloc (.cells (u32v (fillS b 0)).toArray 78))).heap[w.heap.size]? = some (.cells (u8v b).toArray 62 (0, 0)) :=
    (Below.heap_alloc _ _ _ (by simp; omega)).trans ((Below.heap_alloc _ _ _ (by simp)).trans (heap_alloc_new w _))
  have hO : RowW (((w.alloc (.cells (u8v b).toArray 62)).alloc (.cells (u32v (fillS b 0)).toArray 78)).alloc (.cells (u32v (fillS b 0)).toArray 78)) (w.heap.size + 1) 78 (fillS b 0) := by
    refine RowW.alloc ?_ _
    have := heap_alloc_new (w.alloc (.cells (u8v b).toArray 62)) (.cells (u32v (fillS b 0)).toArray 78)
    rw [World.size_alloc] at this
    exact this
  have hW : RowW (((w.alloc (.cells (u8v b).toArray 62)).alloc (.cells (u32v (fillS b 0)).toArray 78)).alloc (.cells (u32v (fillS b 0)).toArray 78)) (w.heap.size + 1 + 1) 78 (fillS b 0) := by
    have := heap_alloc_new ((w.alloc (.cells (u8v b).toArray 62)).alloc (.cells (u32v (fillS b 0)).toArray 78)) (.cells (u32v (fillS b 0)).toArray 78)
    rw [World.size_alloc, World.size_alloc] at this
    exact this
  have hb0 : Below w.heap.size w (((w.alloc (.cells (u8v b).toArray 62)).alloc (.cells (u32v (fillS b 0)).toArray 78)).alloc (.cells (u32v (fillS b 0)).toArray 78)) :=
    (((Below.refl _ w).alloc (Nat.le_refl _) _).alloc (by simp) _).alloc (by simp; omega) _
  have hib : ∀ k : Nat, k < 64 → ∀ W, (Instr.index 62 (.agg (u8v b).toArray) (.int .i64 (k : Int))).run Tryd.prog W = .ok (.int .u8 (by8 b k)) W := by
    intro k hk W
    exact run_index_agg Tryd.underlying62 Tryd.underlying5 (i := (Tryd.prog.info? 5).getD default) (by kernel_rfl) (by kernel_rfl) _ k hk (by rw [List.getElem?_toArray]; exact u8v_get b k (by omega))
  have hm64 : (Tryd.prog.info? 62).map (·.size) = some (u8v b).toArray.size := by
    rw [show (u8v b).toArray.size = 64 by simp [u8v, hl]]; kernel_rfl
  have HIB := Lib.hid hib
  clear hib
  have hz : (u32v (fillS b 0)).toArray = #[.int .u32 0, .int .u32 0, .int .u32 0, .int .u32 0, .int .u32 0, .int .u32 0, .int .u32 0, .int .u32 0, .int .u32 0, .int .u32 0, .int .u32 0, .int .u32 0, .int .u32 0, .int .u32 0, .int .u32 0, .int .u32 0, .int .u32 0, .int .u32 0, .int .u32 0, .int .u32 0, .int .u32 0, .int .u32 0, .int .u32 0, .int .u32 0, .int .u32 0, .int .u32 0, .int .u32 0, .int .u32 0, .int .u32 0, .int .u32 0, .int .u32 0, .int .u32 0, .int .u32 0, .int .u32 0, .int .u32 0, .int .u32 0, .int .u32 0, .int .u32 0, .int .u32 0, .int .u32 0, .int .u32 0, .int .u32 0, .int .u32 0, .int .u32 0, .int .u32 0, .int .u32 0, .int .u32 0, .int .u32 0, .int .u32 0, .int .u32 0, .int .u32 0, .int .u32 0, .int .u32 0, .int .u32 0, .int .u32 0, .int .u32 0, .int .u32 0, .int .u32 0, .int .u32 0, .int .u32 0, .int .u32 0, .int .u32 0, .int .u32 0, .int .u32 0] := by
    rw [show fillS b 0 = List.replicate 64 0#32 from rfl]; rfl
  rw [hz] at hB hO hW hb0
  clear hz
  go_enter Tryd.func46, Tryd.ntmps46
  go_wp2_with (first
    | (refine wpList_load_row rfl 62 (.tmp 1) rfl w.heap.size rfl 62 (u8v b).toArray (0, 0) (.array 64 5) hB Tryd.underlying62 rfl hm64 ?_))
  clear hB hm64
  generalize ((w.alloc (.cells (u8v b).toArray 62)).alloc (.cells #[.int .u32 0, .int .u32 0, .int .u32 0, .int .u32 0, .int .u32 0, .int .u32 0, .int .u32 0, .int .u32 0, .int .u32 0, .int .u32 0, .int .u32 0, .int .u32 0, .int .u32 0, .int .u32 0, .int .u32 0, .int .u32 0, .int .u32 0, .int .u32 0, .int .u32 0, .int .u32 0, .int .u32 0, .int .u32 0, .int .u32 0, .int .u32 0, .int .u32 0, .int .u32 0, .int .u32 0, .int .u32 0, .int .u32 0, .int .u32 0, .int .u32 0, .int .u32 0, .int .u32 0, .int .u32 0, .int .u32 0, .int .u32 0, .int .u32 0, .int .u32 0, .int .u32 0, .int .u32 0, .int .u32 0, .int .u32 0, .int .u32 0, .int .u32 0, .int .u32 0, .int .u32 0, .int .u32 0, .int .u32 0, .int .u32 0, .int .u32 0, .int .u32 0, .int .u32 0, .int .u32 0, .int .u32 0, .int .u32 0, .int .u32 0, .int .u32 0, .int .u32 0, .int .u32 0, .int .u32 0, .int .u32 0, .int .u32 0, .int .u32 0, .int .u32 0] 78)).alloc (.cells #[.int .u32 0, .int .u32 0, .int .u32 0, .int .u32 0, .int .u32 0, .int .u32 0, .int .u32 0, .int .u32 0, .int .u32 0, .int .u32 0, .int .u32 0, .int .u32 0, .int .u32 0, .int .u32 0, .int .u32 0, .int .u32 0, .int .u32 0, .int .u32 0, .int .u32 0, .int .u32 0, .int .u32 0, .int .u32 0, .int .u32 0, .int .u32 0, .int .u32 0, .int .u32 0, .int .u32 0, .int .u32 0, .int .u32 0, .int .u32 0, .int .u32 0, .int .u32 0, .int .u32 0, .int .u32 0, .int .u32 0, .int .u32 0, .int .u32 0, .int .u32 0, .int .u32 0, .int .u32 0, .int .u32 0, .int .u32 0, .int .u32 0, .int .u32 0, .int .u32 0, .int .u32 0, .int .u32 0, .int .u32 0, .int .u32 0, .int .u32 0, .int .u32 0, .int .u32 0, .int .u32 0, .int .u32 0, .int .u32 0, .int .u32 0, .int .u32 0, .int .u32 0, .int .u32 0, .int .u32 0, .int .u32 0, .int .u32 0, .int .u32 0, .int .u32 0] 78) = W0 at *
  go_loopw [12] (fun i wr => ∃ k : Nat, k ≤ 64 ∧ i = .int .i64 k ∧ RowW wr (w.heap.size + 1 + 1) 78 (fillS b k) ∧ RowW wr (w.heap.size + 1) 78 (fillS b 0) ∧ Below w.heap.size w wr) (fun i _ => 64 - (intOf i).toNat)
  case atStart => exact ⟨0, by omega, rfl, hW, hO, hb0⟩
  case round =>
    clear hW hO hb0
    obtain ⟨k, hk, rfl, hR, hOr, hbr⟩ := hrel
    by_cases hlt : k < 64
    · have hki : (k : Int) < 64 := by omega
      have hix := HIB.out k hlt
      obtain ⟨q, hq⟩ : ∃ q, k / 4 = q := ⟨_, rfl⟩
      have hqi : Int.tdiv (k : Int) 4 = (q : Int) := by rw [Int.tdiv_eq_ediv_of_nonneg (by omega)]; omega
      have hq16 : q < 16 := by omega
      have hc := hR.cell q (by rw [fillS_length]; omega)
      have hz := hR.frozen q
      have HS := Lib.hid (show RowW _ (w.heap.size + 1 + 1) 78 (fillS b (k + 1)) by
        have h1 := hR.set q (wAt (fillS b k) q <<< 8 ||| wd (byt b k))
        have h2 : (fillS b k).set q (wAt (fillS b k) q <<< 8 ||| wd (byt b k)) = fillS b (k + 1) := by rw [← hq]; rfl
        rw [h2] at h1
        exact h1)
      have hval : bits .or .u32 (I (wAt (fillS b k) q) * 256 % 4294967296) (by8 b k % 4294967296) = I (wAt (fillS b k) q <<< 8 ||| wd (byt b k)) :=
        word_val _ _ _ (by unfold by8 byt; have := (b.getD k 0).toNat_lt; omega)
      have HOR := Lib.hid hOr
      have HBR := Lib.hid hbr
      clear hR hOr hbr
      go_wp2
      go_roundw
      case rel => exact ⟨k + 1, by omega, rfl, HS.out, HOR.out.other _ _ (by simp), HBR.out.setCell (by simp; omega) _⟩
      case measure => simp [intOf]; omega
    · obtain rfl : k = 64 := by omega
      rw [show fillS b 64 = growS b 16 from fillS_grow b 16 (by omega)] at hR
      clear HIB
      rw [show ((64 : Nat) : Int) = 64 from rfl]
      go_wp2
      go_loopw [6] (fun i wx => ∃ k : Nat, 16 ≤ k ∧ k ≤ 64 ∧ i = .int .i64 k ∧ RowW wx (w.heap.size + 1 + 1) 78 (growS b k) ∧ RowW wx (w.heap.size + 1) 78 (fillS b 0) ∧ Below w.heap.size w wx) (fun i _ => 64 - (intOf i).toNat)
      case atStart => exact ⟨16, by omega, by omega, rfl, hR, hOr, hbr⟩
      case round =>
        clear hR hOr hbr
        obtain ⟨k, hk16, hk, rfl, hR, hOr, hbr⟩ := hrel
        by_cases hlt : k < 64
        · have hki : (k : Int) < 64 := by omega
          obtain ⟨x15, h15⟩ : ∃ x, wAt (growS b k) (k - 15) = x := ⟨_, rfl⟩
          obtain ⟨x2, h2⟩ : ∃ x, wAt (growS b k) (k - 2) = x := ⟨_, rfl⟩
          obtain ⟨x16, h16⟩ : ∃ x, wAt (growS b k) (k - 16) = x := ⟨_, rfl⟩
          obtain ⟨x7, h7⟩ : ∃ x, wAt (growS b k) (k - 7) = x := ⟨_, rfl⟩
          have HNX := Lib.hid (growS_next b k hk16 hlt)
          have c15 := hR.cell (k - 15) (by rw [growS_length _ _ hk]; omega)
          have c2 := hR.cell (k - 2) (by rw [growS_length _ _ hk]; omega)
          have c16 := hR.cell (k - 16) (by rw [growS_length _ _ hk]; omega)
          have c7 := hR.cell (k - 7) (by rw [growS_length _ _ hk]; omega)
          rw [h15] at c15
          rw [h2] at c2
          rw [h16] at c16
          rw [h7] at c7
          rw [h15, h2, h16, h7] at HNX
          have e15 : (k : Int) - 15 = ((k - 15 : Nat) : Int) := by omega
          have e2 : (k : Int) - 2 = ((k - 2 : Nat) : Int) := by omega
          have e16 : (k : Int) - 16 = ((k - 16 : Nat) : Int) := by omega
          have e7 : (k : Int) - 7 = ((k - 7 : Nat) : Int) := by omega
          obtain ⟨i15, j15⟩ : ∃ i, k - 15 = i := ⟨_, rfl⟩
          obtain ⟨i2, j2⟩ : ∃ i, k - 2 = i := ⟨_, rfl⟩
          obtain ⟨i16, j16⟩ : ∃ i, k - 16 = i := ⟨_, rfl⟩
          obtain ⟨i7, j7⟩ : ∃ i, k - 7 = i := ⟨_, rfl⟩
          rw [j15] at e15 c15
          rw [j2] at e2 c2
          rw [j16] at e16 c16
          rw [j7] at e7 c7
          have HC16 := Lib.hid c16
          have HC7 := Lib.hid c7
          have l15 : i15 < 64 := by omega
          have l2 : i2 < 64 := by omega
          have l16 : i16 < 64 := by omega
          have l7 : i7 < 64 := by omega
          have HR := Lib.hid hR
          have HOR := Lib.hid hOr
          have HBR := Lib.hid hbr
          clear hR hOr hbr h15 h2 h16 h7 j15 j2 j16 j7
          go_wp2
          go_quiet (fail)
          clear c15 c2 c16 c7
          have hR1 : RowW (wr.drewN nq) (w.heap.size + 1 + 1) 78 (growS b k) := HR.out
          have HO1 : Hid (RowW (wr.drewN nq) (w.heap.size + 1) 78 (fillS b 0)) := HOR
          have HB1 := Lib.hid (below_drewN HBR.out nq)
          have HS := Lib.hid (show RowW _ (w.heap.size + 1 + 1) 78 (growS b (k + 1)) by
            have := hR1.set k (nextW b (wordsS b k) k)
            rw [growS_set b k hlt] at this
            exact this)
          have hz := hR1.frozen k
          have hck := hR1.cell k (by rw [growS_length _ _ hk]; omega)
          have c16 : (wr.drewN nq).cell? ⟨w.heap.size + 1 + 1, i16, none⟩ = some (.int .u32 (I x16)) := HC16.out
          have c7 : (wr.drewN nq).cell? ⟨w.heap.size + 1 + 1, i7, none⟩ = some (.int .u32 (I x7)) := HC7.out
          clear HR HOR HBR hR1
          generalize wr.drewN nq = W1 at *
          go_wp2_with (first
            | (go_at_call 62; (with_reducible refine (turn_c7 _ _).mono ?_); rintro e w' ⟨rfl, rfl⟩)
            | (go_at_call 62; (with_reducible refine (turn_c18 _ _).mono ?_); rintro e w' ⟨rfl, rfl⟩)
            | (go_at_call 62; (with_reducible refine (turn_c17 _ _).mono ?_); rintro e w' ⟨rfl, rfl⟩)
            | (go_at_call 62; (with_reducible refine (turn_c19 _ _).mono ?_); rintro e w' ⟨rfl, rfl⟩))
          have hval : (I x16 + bits .xor .u32 (I (rotS x15 7 ^^^ rotS x15 18)) (I x15 / 8) + I x7 + bits .xor .u32 (I (rotS x2 17 ^^^ rotS x2 19)) (I x2 / 1024)) % 4294967296 = I (nextW b (wordsS b k) k) := by
            rw [HNX.out, I_shr3, I_shr10, I_xor, I_xor, I_add4]; rfl
          have HVL := Lib.hid hval
          clear hval
          go_region
          rw [HVL.out]
          go_wp2
          go_roundw
          case rel => exact ⟨k + 1, by omega, by omega, rfl, HS.out, HO1.out.other _ _ (by simp), below_drewN (HB1.out.setCell (by simp; omega) _) 1⟩
          case measure => simp [intOf]; omega
        · obtain rfl : k = 64 := by omega
          have hlen := growS_length b 64 (by omega)
          have HALL := Lib.hid (growS_all b)
          obtain ⟨L, hL⟩ : ∃ L, growS b 64 = L := ⟨_, rfl⟩
          rw [hL] at hR hlen HALL
          clear hL
          have hm : (Tryd.prog.info? 78).map (·.size) = some (u32v L).toArray.size := by
            rw [size_u32 _ 64 hlen]; exact Tryd.size64w
          have hsz : (u32v L).length = 64 := by rw [u32v_length]; exact hlen
          have hst := hOr.store L (by rw [hlen, fillS_length])
          have hcell : RowW _ (w.heap.size + 1) 78 L := hOr.setRow _
          have HCL := Lib.hid hcell
          have hbn : Below w.heap.size w (wr.setRow (w.heap.size + 1) (u32v L).toArray) := below_setRow hbr (by omega) _
          have HBN := Lib.hid hbn
          have HA := Lib.hid hR
          clear hR hOr hcell hbn hbr
          go_wp2_with (first
            | (refine wpList_load_row rfl 78 (.tmp 3) rfl (w.heap.size + 1 + 1) rfl 78 (u32v L).toArray (0, 0) (.array 64 43) HA.out Tryd.underlying78 rfl hm ?_))
          refine bodyPost_ret (results_cell_row rfl _ _ (w.heap.size + 1) 78 (u32v L).toArray (0, 0) (.array 64 43) rfl HCL.out Tryd.underlying78 rfl hm) rfl ⟨?_, HBN.out⟩
          rw [HALL.out]; rfl
end Go.Proofs.YticcmhgahbnboaaDoor
