/-
  Disk: the program's laws: Light.
-/
import Derived.Test.YtplanmiggeghfaaDP
import Derived.Shelf.Abstract
namespace Go.Proofs.Ytplanmiggeghfaa
open Go.RowKit Go Go.Sort Go.Maps Go.WideMaps
set_option linter.unusedVariables false
set_option maxRecDepth 20000

theorem Dcs.place {w : World} {a : Option Addr} {n cap : Nat} {L : List Dc} (h : Dcs w a n cap L) {k : Nat} (hk : k < n) :
    ∃ b off x c, a = some ⟨b, off, none⟩ ∧ Bys w x (L.getD k Dc.zero).l.length c (L.getD k Dc.zero).l ∧ (L.getD k Dc.zero).nm.length ≤ 9223372036854775807 ∧ (-9223372036854775808 ≤ (L.getD k Dc.zero).n ∧ (L.getD k Dc.zero).n ≤ 9223372036854775807) ∧
      ∀ W', Below w.heap.size w W' → W'.cell? ⟨b, off + k * 5, none⟩ = some (.int .i64 (L.getD k Dc.zero).kd) ∧ W'.cell? ⟨b, off + k * 5 + 1, none⟩ = some (.string (text (L.getD k Dc.zero).nm)) ∧ W'.cell? ⟨b, off + k * 5 + 2, none⟩ = some (.slice x (L.getD k Dc.zero).l.length c) ∧ W'.cell? ⟨b, off + k * 5 + 3, none⟩ = some (.int .i64 (L.getD k Dc.zero).n) ∧ W'.cell? ⟨b, off + k * 5 + 4, none⟩ = some (.int .i64 (L.getD k Dc.zero).kp) := by
  obtain ⟨x, c, ev, hy, hnm, hnn⟩ := h.dat k hk
  have hle := h.le
  rcases h.adr with h4 | ⟨b, off, rfl, hc⟩
  · omega
  · refine ⟨b, off, x, c, rfl, hy, hnm, hnn, fun W' hb => ?_⟩
    have H := fun j u (hj : (L.getD k Dc.zero).arr[j]? = some u) => (hb.cell (World.block_lt_of_cell? w _ (hc k hk j u hj))).trans (hc k hk j u hj)
    exact ⟨H 0 _ rfl, H 1 _ rfl, (H 2 (L.getD k Dc.zero).v rfl).trans (by rw [ev]), H 3 _ rfl, H 4 _ rfl⟩
theorem text_sizeD (s : List UInt8) : (text s).size = s.length := by simp [text, ByteArray.size]
theorem radd20_t (n k : Nat) (hn : n ≤ 20001) (hk : k ≤ 9223372036854775807) (w : World) : Calls Try.prog 46 #[.int .i64 (n : Int), .int .i64 (k : Int), .int .i64 20000] w (Tells (.int .i64 ((satA n k : Nat) : Int)) w) :=
  (radd20_c n k hn hk w).mono fun e w' ⟨h1, h2⟩ => ⟨h1, by subst h2; exact Below.refl _ _⟩
theorem takeDc_snoc {l : List Dc} {i : Nat} (hi : i < l.length) : l.take (i + 1) = l.take i ++ [l.getD i Dc.zero] := by
  rw [List.take_add_one, List.getElem?_eq_getElem hi, List.getD_eq_getElem?_getD, List.getElem?_eq_getElem hi]
  rfl
set_option maxRecDepth 100000 in
set_option maxHeartbeats 6400000 in
theorem dlight_c {w : World} {a : Option Addr} {n cap : Nat} {L : List Dc} (hl : Dcs w a n cap L) :
    Calls Try.prog 15 #[.slice a n cap] w (fun e w' => ∃ b : Bool, e = .returned (.bool b) ∧ (b = true → ∀ x ∈ L, x.l.length ≤ 20000) ∧ Below w.heap.size w w') := by
  have hle := hl.le
  have hmax := hl.max
  have HLL := Lib.hid hl.len
  have HL := Lib.hid hl
  clear hl
  go_enter Try.func15, Try.ntmps15
  go_wp2
  go_loopw [3, 4] (fun v i9 wr => ∃ (i q : Nat), i ≤ n ∧ i9 = .int .i64 (i : Int) ∧ v = .int .i64 (q : Int) ∧ q ≤ 20001 ∧ (q ≤ 20000 → ∀ x ∈ L.take i, x.l.length ≤ 20000) ∧ Below w.heap.size w wr) (fun _ i9 _ => n - (intOf i9).toNat)
  case atStart => exact ⟨0, 0, by omega, rfl, rfl, by omega, fun _ a ha => by simp at ha, Below.refl _ _⟩
  case round =>
    obtain ⟨i, q, hi, rfl, rfl, hq, hlo, hB⟩ := hrel
    have HB := Lib.hid hB
    have HLO := Lib.hid hlo
    clear hB hlo
    by_cases hlt : i < n
    · have hii : (i : Int) < (n : Int) := by omega
      have hic : (i : Int) < (cap : Int) := by omega
      by_cases hf : 20000 < q
      · have hfi : ¬ (q : Int) ≤ 20000 := by omega
        go_wp2
        go_ret
        exact .inl ⟨rfl, HB.out⟩
      · have hfi : (q : Int) ≤ 20000 := by omega
        obtain ⟨b, off, xa, ca, rfl, hy, hk1, hnn, hat⟩ := HL.out.place hlt
        obtain ⟨-, c1, c2, -, -⟩ := hat _ HB.out
        have htk := takeDc_snoc (l := L) (i := i) (by have := HLL.out; omega)
        obtain ⟨A, hA⟩ : ∃ z, L.getD i Dc.zero = z := ⟨_, rfl⟩
        rw [hA] at c1 c2 hk1 htk hy
        have hym := hy.max
        have hyl := hy.le
        have hml : A.l.length ≤ 9223372036854775807 := by omega
        obtain ⟨k, hk⟩ : ∃ z, A.nm.length = z := ⟨_, rfl⟩
        obtain ⟨m, hm⟩ : ∃ z, A.l.length = z := ⟨_, rfl⟩
        rw [hk] at hk1
        rw [hm] at c2 hyl hml
        have HT := Lib.hid (show satA (satA (satA q 20) k) m ≤ 20000 → ∀ x ∈ L.take (i + 1), x.l.length ≤ 20000 from fun h => by
          obtain ⟨e3, h3⟩ := satA_fits h
          obtain ⟨e2, h2⟩ := satA_fits (n := satA q 20) (k := k) (by omega)
          obtain ⟨e1, h1⟩ := satA_fits (n := q) (k := 20) (by omega)
          intro x hx
          rw [htk, List.mem_append] at hx
          rcases hx with hx | hx
          · exact HLO.out (by omega) x hx
          · rw [List.mem_singleton] at hx; subst hx; omega)
        have hsz : ((text A.nm).size : Int) = (k : Int) := by rw [text_sizeD, hk]
        obtain ⟨tx, htx⟩ : ∃ s, text A.nm = s := ⟨_, rfl⟩
        rw [htx] at c1 hsz
        have HA0 := Lib.hid (fun (d : Nat) (os : Array Obj) => (show Calls Try.prog 46 #[.int .i64 (q : Int), .int .i64 20, .int .i64 20000] (grow (redrawn wr d) os) _ from radd20_t q 20 hq (by omega) _).regrown_of)
        have HA1 := Lib.hid (fun (d : Nat) (os : Array Obj) => (radd20_t (satA q 20) k (satA_le _ _) hk1 (grow (redrawn wr d) os)).regrown_of)
        have HA2 := Lib.hid (fun (d : Nat) (os : Array Obj) => (radd20_t (satA (satA q 20) k) m (satA_le _ _) hml (grow (redrawn wr d) os)).regrown_of)
        have k1 := cell_regrown c1
        have k2 := cell_regrown c2
        clear c1 c2 hA hk hm hy htx htk hat hnn
        go_upto_region 6 with (fail)
        refine wp_region_quiet_below (by kernel_rfl) (by kernel_rfl) ?_
        repeat (go_big_quiet_step (first
          | with_reducible exact HA0.out _ _
          | with_reducible exact HA1.out _ _
          | with_reducible exact HA2.out _ _))
        refine wpQuiet_nil ?_
        intro _ hw'
        obtain ⟨⟨dq5, osq5⟩, hw''⟩ := hw'
        subst hw''
        have HBQ := Lib.hid (below_regrown wr dq5 osq5)
        clear k1 k2
        go_wp2
        go_roundw
        case rel => exact ⟨i + 1, satA (satA (satA q 20) k) m, by omega, by go_num, rfl, satA_le _ _, HT.out, HB.out.trans (HBQ.out.mono HB.out.size)⟩
        case measure => simp [intOf]; omega
    · obtain rfl : i = n := by omega
      go_wp2
      go_ret
      refine ⟨_, rfl, fun h => ?_, HB.out⟩
      have := HLO.out (by have h9 : (q : Int) ≤ 20000 := by simpa using h
                          omega)
      rwa [List.take_of_length_le (by have := HLL.out; omega)] at this
end Go.Proofs.Ytplanmiggeghfaa
