/-
  Net: acts in memory; light.
-/
import Derived.Test.YtngfohedddcboaaNTD
namespace Go.Proofs.Ytngfohedddcboaa
open Go.RowKit Go Go.Sort Go.Lib Go.Maps
set_option linter.unusedVariables false
set_option maxRecDepth 20000

/-- A sum that is asked about up to 12000. -/
def satN (n k : Nat) : Nat := if n + k ≤ 12000 then n + k else 12001
theorem satN_le (n k : Nat) : satN n k ≤ 12001 := by unfold satN; split <;> omega
theorem satN_full {n : Nat} (h : 12000 < n) (k : Nat) : satN n k = 12001 := by unfold satN; rw [if_neg (by omega)]
theorem satN_fits {n k : Nat} (h : satN n k ≤ 12000) : satN n k = n + k ∧ n + k ≤ 12000 := by unfold satN at h ⊢; split <;> rename_i hh
                                                                                           <;> first
                                                                                             | exact ⟨rfl, hh⟩
                                                                                             | (rw [if_neg hh] at h; omega)
set_option maxHeartbeats 11200000 in
theorem radd12_c (n k : Nat) (hn : n ≤ 12001) (hk : k ≤ 9223372036854775807) (w : World) : Calls Try.prog 22 #[.int .i64 (n : Int), .int .i64 (k : Int), .int .i64 12000] w (fun e w' => e = .returned (.int .i64 ((satN n k : Nat) : Int)) ∧ w = w') := by
  obtain ⟨R, hR⟩ : ∃ R, satN n k = R := ⟨_, rfl⟩
  rw [hR]
  unfold satN at hR
  by_cases h1 : 12000 < n
  · have h1i : (12000 : Int) < (n : Int) := by omega
    obtain rfl : 12001 = R := by rw [← hR, if_neg (by omega)]
    clear hR
    go_enter Try.func22, Try.ntmps22
    go_wp2
    go_ret
    exact ⟨rfl, rfl⟩
  · have h1i : ¬ (12000 : Int) < (n : Int) := by omega
    by_cases h2 : 12000 < k
    · have h2i : (12000 : Int) < (k : Int) := by omega
      obtain rfl : 12001 = R := by rw [← hR, if_neg (by omega)]
      clear hR
      go_enter Try.func22, Try.ntmps22
      go_wp2
      go_ret
      exact ⟨rfl, rfl⟩
    · have h2i : ¬ (12000 : Int) < (k : Int) := by omega
      have hs1 : 12000 - (k : Int) ≤ 9223372036854775807 := by omega
      have hs2 : -9223372036854775808 ≤ 12000 - (k : Int) := by omega
      by_cases h3 : n + k ≤ 12000
      · have h3i : ¬ 12000 - (k : Int) < (n : Int) := by omega
        have HR := Lib.hid (show (n : Int) + (k : Int) = (R : Int) by rw [← hR, if_pos h3]; omega)
        have ha1 : (n : Int) + (k : Int) ≤ 9223372036854775807 := by omega
        clear hR
        go_enter Try.func22, Try.ntmps22
        go_wp2
        go_ret
        exact ⟨by rw [← HR.out]; go_num, rfl⟩
      · have h3i : 12000 - (k : Int) < (n : Int) := by omega
        obtain rfl : 12001 = R := by rw [← hR, if_neg (by omega)]
        clear hR
        go_enter Try.func22, Try.ntmps22
        go_wp2
        go_ret
        exact ⟨rfl, rfl⟩
theorem radd12_t (n k : Nat) (hn : n ≤ 12001) (hk : k ≤ 9223372036854775807) (w : World) : Calls Try.prog 22 #[.int .i64 (n : Int), .int .i64 (k : Int), .int .i64 12000] w (Tells (.int .i64 ((satN n k : Nat) : Int)) w) :=
  (radd12_c n k hn hk w).mono fun e w' ⟨h1, h2⟩ => ⟨h1, by subst h2; exact Below.refl _ _⟩
theorem na_size (a : Na) : a.arr.size = 6 := rfl
/-- Acts that lie in memory, each with its bytes. -/
structure Nas (w : World) (a : Option Addr) (n cap : Nat) (L : List Na) : Prop where
  len : L.length = n
  le : n ≤ cap
  max : cap ≤ 9223372036854775807
  adr : cap = 0 ∨ ∃ b off, a = some ⟨b, off, none⟩ ∧ ∀ i, i < n → ∀ j u, (L.getD i Na.zero).arr[j]? = some u → w.cell? ⟨b, off + i * 6 + j, none⟩ = some u
  dat : ∀ i, i < n → ∃ x c, (L.getD i Na.zero).v = .slice x (L.getD i Na.zero).l.length c ∧ Bys w x (L.getD i Na.zero).l.length c (L.getD i Na.zero).l ∧ 0 ≤ (L.getD i Na.zero).z ∧ (L.getD i Na.zero).z ≤ 255
theorem Nas.below {w w' : World} {a : Option Addr} {n cap : Nat} {L : List Na} (h : Nas w a n cap L) (hb : Below w.heap.size w w') : Nas w' a n cap L := by
  refine ⟨h.len, h.le, h.max, ?_, fun i hi => by obtain ⟨x, c, e, hy, hr⟩ := h.dat i hi; exact ⟨x, c, e, hy.below hb, hr⟩⟩
  rcases h.adr with h4 | ⟨b, off, rfl, hc⟩
  · exact .inl h4
  · exact .inr ⟨b, off, rfl, fun i hi j u hj => (hb.cell (World.block_lt_of_cell? w _ (hc i hi j u hj))).trans (hc i hi j u hj)⟩
theorem Nas.place {w : World} {a : Option Addr} {n cap : Nat} {L : List Na} (h : Nas w a n cap L) {k : Nat} (hk : k < n) :
    ∃ b off x c, a = some ⟨b, off, none⟩ ∧ Bys w x (L.getD k Na.zero).l.length c (L.getD k Na.zero).l ∧ 0 ≤ (L.getD k Na.zero).z ∧ (L.getD k Na.zero).z ≤ 255 ∧
      ∀ W', Below w.heap.size w W' → W'.cell? ⟨b, off + k * 6, none⟩ = some (.int .i64 (L.getD k Na.zero).kd) ∧ W'.cell? ⟨b, off + k * 6 + 1, none⟩ = some (.int .i64 (L.getD k Na.zero).frm) ∧ W'.cell? ⟨b, off + k * 6 + 2, none⟩ = some (.slice x (L.getD k Na.zero).l.length c) ∧ W'.cell? ⟨b, off + k * 6 + 3, none⟩ = some (.int .i64 (L.getD k Na.zero).i) ∧ W'.cell? ⟨b, off + k * 6 + 4, none⟩ = some (.int .i64 (L.getD k Na.zero).at9) ∧ W'.cell? ⟨b, off + k * 6 + 5, none⟩ = some (.int .u8 (L.getD k Na.zero).z) := by
  obtain ⟨x, c, ev, hy, hz0, hz1⟩ := h.dat k hk
  have hle := h.le
  rcases h.adr with h4 | ⟨b, off, rfl, hc⟩
  · omega
  · refine ⟨b, off, x, c, rfl, hy, hz0, hz1, fun W' hb => ?_⟩
    have H := fun j u (hj : (L.getD k Na.zero).arr[j]? = some u) => (hb.cell (World.block_lt_of_cell? w _ (hc k hk j u hj))).trans (hc k hk j u hj)
    exact ⟨H 0 _ rfl, H 1 _ rfl, (H 2 (L.getD k Na.zero).v rfl).trans (by rw [ev]), H 3 _ rfl, H 4 _ rfl, H 5 _ rfl⟩
theorem takeNa_snoc {l : List Na} {i : Nat} (hi : i < l.length) : l.take (i + 1) = l.take i ++ [l.getD i Na.zero] := by
  rw [List.take_add_one, List.getElem?_eq_getElem hi, List.getD_eq_getElem?_getD, List.getElem?_eq_getElem hi]
  rfl
set_option maxRecDepth 100000 in
set_option maxHeartbeats 6400000 in
theorem nlight_c {w : World} {a : Option Addr} {n cap : Nat} {L : List Na} (hl : Nas w a n cap L) :
    Calls Try.prog 10 #[.slice a n cap] w (fun e w' => ∃ b : Bool, e = .returned (.bool b) ∧ (b = true → n ≤ 1200 ∧ ∀ x ∈ L, x.l.length ≤ 12000) ∧ Below w.heap.size w w') := by
  have hle := hl.le
  have hmax := hl.max
  have HLL := Lib.hid hl.len
  have HL := Lib.hid hl
  clear hl
  go_enter Try.func10, Try.ntmps10
  go_wp2
  go_loopw [3, 4] (fun v i9 wr => ∃ (i q : Nat), i ≤ n ∧ i9 = .int .i64 (i : Int) ∧ v = .int .i64 (q : Int) ∧ q ≤ 12001 ∧ (q ≤ 12000 → 10 * i ≤ q ∧ ∀ x ∈ L.take i, x.l.length ≤ 12000) ∧ Below w.heap.size w wr) (fun _ i9 _ => n - (RowKit.intOf i9).toNat)
  case atStart => exact ⟨0, 0, by omega, rfl, rfl, by omega, fun _ => ⟨by omega, fun a ha => by simp at ha⟩, Below.refl _ _⟩
  case round =>
    obtain ⟨i, q, hi, rfl, rfl, hq, hlo, hB⟩ := hrel
    have HB := Lib.hid hB
    have HLO := Lib.hid hlo
    clear hB hlo
    by_cases hlt : i < n
    · have hii : (i : Int) < (n : Int) := by omega
      have hic : (i : Int) < (cap : Int) := by omega
      by_cases hf : 12000 < q
      · have hfi : ¬ (q : Int) ≤ 12000 := by omega
        go_wp2
        go_ret
        exact .inl ⟨rfl, HB.out⟩
      · have hfi : (q : Int) ≤ 12000 := by omega
        obtain ⟨b, off, xa, ca, rfl, hy, -, -, hat⟩ := HL.out.place hlt
        obtain ⟨-, -, c2, -, -, -⟩ := hat _ HB.out
        have htk := takeNa_snoc (l := L) (i := i) (by have := HLL.out; omega)
        obtain ⟨A, hA⟩ : ∃ z, L.getD i Na.zero = z := ⟨_, rfl⟩
        rw [hA] at c2 htk hy
        have hym := hy.max
        have hyl := hy.le
        have hml : A.l.length ≤ 9223372036854775807 := by omega
        obtain ⟨m, hm⟩ : ∃ z, A.l.length = z := ⟨_, rfl⟩
        rw [hm] at c2 hyl hml
        have HT := Lib.hid (show satN (satN q 10) m ≤ 12000 → 10 * (i + 1) ≤ satN (satN q 10) m ∧ ∀ x ∈ L.take (i + 1), x.l.length ≤ 12000 from fun h => by
          obtain ⟨e2, h2⟩ := satN_fits h
          obtain ⟨e1, h1⟩ := satN_fits (n := q) (k := 10) (by omega)
          obtain ⟨h3, h4⟩ := HLO.out (by omega)
          refine ⟨by omega, fun x hx => ?_⟩
          rw [htk, List.mem_append] at hx
          rcases hx with hx | hx
          · exact h4 x hx
          · rw [List.mem_singleton] at hx; subst hx; omega)
        have HA0 := Lib.hid (fun (d : Nat) (os : Array Obj) => (show Calls Try.prog 22 #[.int .i64 (q : Int), .int .i64 10, .int .i64 12000] (grow (redrawn wr d) os) _ from radd12_t q 10 hq (by omega) _).regrown_of)
        have HA2 := Lib.hid (fun (d : Nat) (os : Array Obj) => (radd12_t (satN q 10) m (satN_le _ _) hml (grow (redrawn wr d) os)).regrown_of)
        have k2 := cell_regrown c2
        clear c2 hA hm hy htk hat
        go_upto_region 5 with (fail)
        refine wp_region_quiet_below (by kernel_rfl) (by kernel_rfl) ?_
        repeat (go_big_quiet_step (first
          | with_reducible exact HA0.out _ _
          | with_reducible exact HA2.out _ _))
        refine wpQuiet_nil ?_
        intro _ hw'
        obtain ⟨⟨dq5, osq5⟩, hw''⟩ := hw'
        subst hw''
        have HBQ := Lib.hid (below_regrown wr dq5 osq5)
        clear k2
        go_wp2
        go_roundw
        case rel => exact ⟨i + 1, satN (satN q 10) m, by omega, by go_num, rfl, satN_le _ _, HT.out, HB.out.trans (HBQ.out.mono HB.out.size)⟩
        case measure => simp [RowKit.intOf]; omega
    · obtain rfl : i = n := by omega
      go_wp2
      go_ret
      refine ⟨_, rfl, fun h => ?_, HB.out⟩
      have h9 : (q : Int) ≤ 12000 := by simpa using h
      have := HLO.out (by omega)
      rw [List.take_of_length_le (by have := HLL.out; omega)] at this
      exact ⟨by omega, this.2⟩
end Go.Proofs.Ytngfohedddcboaa
