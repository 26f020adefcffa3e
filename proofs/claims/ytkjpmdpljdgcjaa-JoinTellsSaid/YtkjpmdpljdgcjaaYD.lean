/-
  Join: the program's Join.
-/
import Derived.Test.YtkjpmdpljdgcjaaYC
namespace Go.Proofs.Ytkjpmdpljdgcjaa
open Go.RowKit Go Go.Sort
set_option linter.unusedVariables false
set_option maxRecDepth 20000

theorem nil_text : text ([] : List UInt8) = ⟨#[]⟩ := rfl
theorem zeros (W : World) : CelC (W.alloc (.cells #[.int .i64 0, .int .i64 0, .int .i64 0, .int .i64 0, .bool false, .string ⟨#[]⟩, .int .i64 0, .int .i64 0] 27)) W.heap.size Cl.zero := Cel.new W 0 0 0 0 false [] 0 0
theorem CelC.cs {W : World} {q : Nat} {n s a b : Int} {g : Bool} {t : List UInt8} {d e : Int} (h : CelC W q ⟨n, s, a, b, g, t, d, e⟩) : CelAt W q 0 ⟨n, s, a, b, g, t, d, e⟩ := by
  have := Cel.cs h
  simpa [CelAt] using this

set_option maxHeartbeats 6400000 in
theorem join_c {w : World} {x : Option Addr} {m cap : Nat} {l : List Cl} (hl : Cls w x m cap l) : Calls Try.prog 13 #[.slice x m cap] w (Tells (.agg (joinC l).arr) w) := by
  have hln := hl.len
  have hnle := hl.le
  have hnm := hl.max
  have ho := (zeros w).alloc (.cells #[.int .i64 0, .int .i64 0, .int .i64 0, .int .i64 0, .bool false, .string ⟨#[]⟩, .int .i64 0, .int .i64 0] 27)
  have hq := zeros (w.alloc (.cells #[.int .i64 0, .int .i64 0, .int .i64 0, .int .i64 0, .bool false, .string ⟨#[]⟩, .int .i64 0, .int .i64 0] 27))
  simp only [World.size_alloc] at hq
  have hb := (alloc_below w (.cells #[.int .i64 0, .int .i64 0, .int .i64 0, .int .i64 0, .bool false, .string ⟨#[]⟩, .int .i64 0, .int .i64 0] 27)).alloc (by simp) (.cells #[.int .i64 0, .int .i64 0, .int .i64 0, .int .i64 0, .bool false, .string ⟨#[]⟩, .int .i64 0, .int .i64 0] 27)
  have hmf := mkf
  have HL := Lib.hid hl
  clear hl
  go_enter Try.func13, Try.ntmps13
  go_upto_region 2 with (fail)
  have HB := Lib.hid hb
  obtain ⟨B, hB⟩ : ∃ q, w.heap.size = q := ⟨_, rfl⟩
  have HBe := Lib.hid hB
  rw [hB] at ho hq ⊢
  clear hB hb
  generalize (w.alloc (.cells #[.int .i64 0, .int .i64 0, .int .i64 0, .int .i64 0, .bool false, .string ⟨#[]⟩, .int .i64 0, .int .i64 0] 27)).alloc (.cells #[.int .i64 0, .int .i64 0, .int .i64 0, .int .i64 0, .bool false, .string ⟨#[]⟩, .int .i64 0, .int .i64 0] 27) = W1 at *
  have HQ := Lib.hid hq
  have HO := Lib.hid ho
  clear hq ho
  go_wp2
  go_loopw [10] (fun i wr => ∃ k : Nat, k ≤ m ∧ i = .int .i64 k ∧ CelC wr (B + 1) (joinC (l.take k)) ∧ CelC wr B Cl.zero ∧ Below w.heap.size w wr) (fun i _ => m - (intOf i).toNat)
  case atStart => exact ⟨0, by omega, rfl, HQ.out, HO.out, HB.out⟩
  case round =>
    clear HQ HO HB
    obtain ⟨i, hk, rfl, hq, ho, hB⟩ := hrel
    by_cases hlt : i < m
    · have hki : (i : Int) < (m : Int) := by omega
      have hki2 : (i : Int) < (cap : Int) := by omega
      obtain ⟨bk, off, rfl, hat⟩ := HL.out.at hlt
      have HJ := Lib.hid (join_take l i (by omega))
      obtain ⟨y, hy⟩ : ∃ y, l.getD i Cl.zero = y := ⟨_, rfl⟩
      obtain ⟨j, hj⟩ : ∃ j, joinC (l.take i) = j := ⟨_, rfl⟩
      rw [hy] at HJ hat
      rw [hj] at hq HJ
      obtain ⟨n, s, a, b, g, t, d, e⟩ := j
      obtain ⟨n', s', a', b', g', t', d', e'⟩ := y
      obtain ⟨p0, p1, p2, p3, p4, p5, p6, p7⟩ := hat wr hB
      simp only at p0 p1 p2 p3 p4 p5 p6 p7
      have HQ := Lib.hid hq
      have HO := Lib.hid ho
      have HB := Lib.hid hB
      have HC := Lib.hid (fun W h => join1_c n s a b g t d e n' s' a' b' g' t' d' e' (B + 1) (w := W) h)
      clear hat hy hj hq ho hB
      go_upto_region 6 with (fail)
      have hq2 := HQ.out.alloc (.cells #[.int .i64 n', .int .i64 s', .int .i64 a', .int .i64 b', .bool g', .string (text t'), .int .i64 d', .int .i64 e'] 27)
      have hx2 := Cel.new wr n' s' a' b' g' t' d' e'
      have hlo := hq2.lt
      have hgr := HQ.out.lt
      have HO2 := Lib.hid (HO.out.alloc (.cells #[.int .i64 n', .int .i64 s', .int .i64 a', .int .i64 b', .bool g', .string (text t'), .int .i64 d', .int .i64 e'] 27))
      have HB2 := Lib.hid (HB.out.alloc HB.out.size (.cells #[.int .i64 n', .int .i64 s', .int .i64 a', .int .i64 b', .bool g', .string (text t'), .int .i64 d', .int .i64 e'] 27))
      have HS := Lib.hid (show B + 1 < (wr.alloc (.cells #[.int .i64 n', .int .i64 s', .int .i64 a', .int .i64 b', .bool g', .string (text t'), .int .i64 d', .int .i64 e'] 27)).heap.size by simp; omega)
      obtain ⟨gx, hgx⟩ : ∃ g, wr.heap.size = g := ⟨_, rfl⟩
      rw [hgx] at hx2 ⊢
      generalize wr.alloc (.cells #[.int .i64 n', .int .i64 s', .int .i64 a', .int .i64 b', .bool g', .string (text t'), .int .i64 d', .int .i64 e'] 27) = W2 at *
      have HF := Lib.hid (show Cel W2 (B + 1) n s a b g t d e from hq2)
      obtain ⟨c0, c1, c2, c3, c4, c5, c6, c7⟩ := HF.out.cs
      obtain ⟨k0, k1, k2, k3, k4, k5, k6, k7⟩ := hx2.cs
      clear hq2 hx2 p0 p1 p2 p3 p4 p5 p6 p7 HQ HO HB hgx hlo hgr
      go_wp2_with (go_at_call 25; (with_reducible refine (HC.out _ HF.out).mono ?_); rintro e9 w3 ⟨rfl, hw3⟩)
      have HV := Lib.hid (show CelC w3 (B + 1) (twoS ⟨n, s, a, b, g, t, d, e⟩ ⟨n', s', a', b', g', t', d', e'⟩) from hw3.cell)
      have HO3 := Lib.hid (show CelC w3 B Cl.zero from hw3.cel HO2.out (by omega))
      have HB3 := Lib.hid (HB2.out.trans (hw3.below (by have := HBe.out; omega) (Nat.le_of_lt HS.out)))
      clear hw3 c0 c1 c2 c3 c4 c5 c6 c7 k0 k1 k2 k3 k4 k5 k6 k7
      go_wp2
      go_roundw
      case rel => exact ⟨i + 1, by omega, rfl, by rw [HJ.out]; exact HV.out, HO3.out, HB3.out⟩
      case measure => simp [intOf]; omega
    · obtain rfl : i = m := by omega
      rw [List.take_of_length_le (by omega)] at hq
      obtain ⟨J, hJ⟩ : ∃ j, joinC l = j := ⟨_, rfl⟩
      rw [hJ] at hq
      obtain ⟨n, s, a, b, g, t, d, e⟩ := J
      have hq' : Cel wr (B + 1) n s a b g t d e := hq
      have ho' : Cel wr B 0 0 0 0 false [] 0 0 := ho
      obtain ⟨c0, c1, c2, c3, c4, c5, c6, c7⟩ := hq'.cs
      obtain ⟨o0, o1, o2, o3, o4, o5, o6, o7⟩ := ho'.cs
      have ofz := ho'.fz
      have HO := Lib.hid ho'
      have HB := Lib.hid hB
      have HJ2 := Lib.hid hJ
      clear hq ho hB hq' ho' hJ
      go_wp2
      refine bodyPost_ret (results_cell_row rfl _ _ B 27 _ (0, 0) _ rfl (HO.out.put n s a b g t d e) Try.underlying27 rfl (sizeC n s a b g t d e)) rfl ⟨by rw [HJ2.out]; rfl, put_below HB.out (by have := HBe.out; omega) n s a b g t d e⟩
end Go.Proofs.Ytkjpmdpljdgcjaa
