/-
  Join: the walk of JoinLess.
-/
import Derived.Test.YtkjpmdpljdgcjaaYW
import Derived.Test.YtkjpmdpljdgcjaaYN
namespace Go.Proofs.Ytkjpmdpljdgcjaa
open Go.RowKit Go Go.Sort
set_option linter.unusedVariables false
set_option maxRecDepth 20000

theorem mem_getD {l : List Cl} {k : Nat} (h : k < l.length) : l.getD k Cl.zero ∈ l := by
  rw [List.getD_eq_getElem?_getD, List.getElem?_eq_getElem h]; exact List.getElem_mem _
theorem all_of_getD {l : List Cl} {q : Cl → Prop} (h : ∀ j, j < l.length → q (l.getD j Cl.zero)) : ∀ c ∈ l, q c := by
  intro c hc
  obtain ⟨j, hj, rfl⟩ := List.mem_iff_getElem.1 hc
  have := h j hj
  rwa [List.getD_eq_getElem?_getD, List.getElem?_eq_getElem hj] at this

set_option maxRecDepth 100000 in
set_option maxHeartbeats 6400000 in
theorem jless_walk (p : Int) {w : World} {x : Option Addr} {m cap : Nat} {l : List Cl} (hl : Cls w x m cap l) (hs : ∀ c ∈ l, c.t.length ≤ 9223372036854775807) :
    Calls Try.prog 9 #[.int .i64 p, .slice x m cap] w (Tells (.bool true) w) := by
  have HLv := Lib.hid jlives_c
  have HL := Lib.hid hl
  have hln := hl.len
  have hle := hl.le
  have hmax := hl.max
  clear hl
  by_cases hm : 60 < m
  · have hmi : (60 : Int) < (m : Int) := by omega
    go_enter Try.func9, Try.ntmps9
    go_wp2_with (go_at_call 10; (with_reducible refine (HLv.out _).mono ?_); rintro e9 w9 ⟨rfl, hb9⟩)
    go_ret
    exact ⟨rfl, hb9⟩
  · have hmi : ¬ (60 : Int) < (m : Int) := by omega
    go_enter Try.func9, Try.ntmps9
    go_wp2
    go_loopw [17] (fun i wr => ∃ k : Nat, k ≤ m ∧ i = .int .i64 k ∧ (∀ j, j < k → (l.getD j Cl.zero).good p = true) ∧ Below w.heap.size w wr) (fun i _ => m - (intOf i).toNat)
    case atStart => exact ⟨0, by omega, rfl, fun j hj => by omega, Below.refl _ _⟩
    case round =>
      obtain ⟨k, hk, rfl, hg, hB⟩ := hrel
      by_cases hlt : k < m
      · have hki : (k : Int) < (m : Int) := by omega
        have hki2 : (k : Int) < (cap : Int) := by omega
        obtain ⟨bk, off, rfl, hat⟩ := HL.out.at hlt
        have hyl := hs _ (mem_getD (l := l) (k := k) (by omega))
        have HG := Lib.hid hg
        have hn := fun (b : Bool) (h : (l.getD k Cl.zero).good p = true) => (fun j (hj : j < k + 1) => if e : j = k then (by rw [e]; exact h : (l.getD j Cl.zero).good p = true) else hg j (by omega))
        obtain ⟨y, hy⟩ : ∃ y, l.getD k Cl.zero = y := ⟨_, rfl⟩
        rw [hy] at hat hyl hn
        obtain ⟨n', s', a', b', g', t', d', e'⟩ := y
        obtain ⟨p0, p1, p2, p3, p4, p5, p6, p7⟩ := hat wr hB
        simp only at p0 p1 p2 p3 p4 p5 p6 p7 hyl
        have HN := Lib.hid hn
        have hC := fun W => cgood_c p n' s' a' b' g' t' d' e' hyl W
        have HB := Lib.hid hB
        clear hat hy hg hn hB
        go_upto_region 6 with (fail)
        have hx2 := Cel.new wr n' s' a' b' g' t' d' e'
        have HB2 := Lib.hid (HB.out.alloc HB.out.size (.cells #[.int .i64 n', .int .i64 s', .int .i64 a', .int .i64 b', .bool g', .string (text t'), .int .i64 d', .int .i64 e'] 27))
        obtain ⟨gx, hgx⟩ : ∃ g, wr.heap.size = g := ⟨_, rfl⟩
        rw [hgx] at hx2 ⊢
        generalize wr.alloc (.cells #[.int .i64 n', .int .i64 s', .int .i64 a', .int .i64 b', .bool g', .string (text t'), .int .i64 d', .int .i64 e'] 27) = W2 at *
        obtain ⟨k0, k1, k2, k3, k4, k5, k6, k7⟩ := hx2.cs
        clear hx2 p0 p1 p2 p3 p4 p5 p6 p7 HB hgx
        cases hb : cgoodS p n' s' a' b' g' t' d' e' with
        | false =>
          rw [hb] at hC
          have HC := Lib.hid hC
          clear hC hb
          go_wp2_with (first
            | (go_at_call 20; (with_reducible refine (HC.out _).mono ?_); rintro e9 w3 ⟨rfl, hb3⟩)
            | (go_at_call 10; (with_reducible refine (HLv.out _).mono ?_); rintro e9 w4 ⟨rfl, hb4⟩))
          go_ret
          exact ⟨rfl, (HB2.out.trans (hb3.mono HB2.out.size)).trans (hb4.mono (Nat.le_trans HB2.out.size hb3.size))⟩
        | true =>
          rw [hb] at hC
          have HC := Lib.hid hC
          have HNX := Lib.hid (HN.out true hb)
          clear hC hb HN
          go_wp2_with (go_at_call 20; (with_reducible refine (HC.out _).mono ?_); rintro e9 w3 ⟨rfl, hb3⟩)
          go_roundw
          case rel => exact ⟨k + 1, by omega, rfl, HNX.out, HB2.out.trans (hb3.mono HB2.out.size)⟩
          case measure => simp [intOf]; omega
      · obtain rfl : k = m := by omega
        have hup : ∀ c ∈ l, c.Up := all_of_getD fun j hj => good_up (hg j (by omega))
        obtain ⟨hj1, hj2⟩ := need_less hup
        obtain ⟨-, -, hz3, hz4⟩ := need_inv hup l.length (Nat.le_refl _)
        have hzl := needN_le l l.length
        have hN := fun W (h : Below w.heap.size w W) => needed_c (HL.out.below h) (by omega)
        have hJ := fun W (h : Below w.heap.size w W) => join_c (HL.out.below h)
        unfold NeedPost at hN
        obtain ⟨Z, hZ⟩ : ∃ z, needN l l.length = z := ⟨_, rfl⟩
        rw [hZ] at hN hj1 hj2 hz3 hz4 hzl
        obtain ⟨J, hJJ⟩ : ∃ z, joinC l = z := ⟨_, rfl⟩
        rw [hJJ] at hJ hj1
        obtain ⟨n, s, a, b, g, t, d, e⟩ := J
        obtain ⟨zn, hzn⟩ : ∃ z, Z.length = z := ⟨_, rfl⟩
        have hceq := cell_eqb n s a b g t d e n s a b g t d e true (cellEq_self _ _ _ _ _ _ _ _)
        have hceg := cell_eqg
        have HN := Lib.hid hN
        have HJ := Lib.hid hJ
        have HJ1 := Lib.hid hj1
        have HJ2 := Lib.hid hj2
        have HZ3 := Lib.hid hz3
        have HZ4 := Lib.hid hz4
        have HZN := Lib.hid hzn
        have hzb : zn ≤ 60 := by omega
        have HB := Lib.hid hB
        have HLN := Lib.hid hln
        clear hN hJ hj1 hj2 hz3 hz4 hzn hZ hJJ hup hg hB hzl hs hln
        go_upto_region 12 with (go_at_call 18; (with_reducible refine (HN.out _ HB.out).mono ?_); rintro e9 w1 ⟨v1, rfl, ho1, hb1⟩; obtain ⟨a1, k1, rfl, hn1⟩ := ho1.ns; rw [HZN.out] at hn1 ⊢)
        have HN1 := Lib.hid hn1
        have HBW := Lib.hid (HB.out.trans (hb1.mono HB.out.size))
        clear ho1 hn1 hb1 HB
        go_loopw [7, 8, 30] (fun v la i wx => ∃ q : Nat, q ≤ zn ∧ i = .int .i64 q ∧ (∃ u : Int, la = .int .i64 u ∧ -1 ≤ u ∧ ∀ h : q < zn, u < Z.getD q 0) ∧ OwnC wx w1.heap.size v (picks l (Z.take q)) ∧ Below w1.heap.size w1 wx) (fun _ _ i _ => zn - (intOf i).toNat)
        case atStart =>
          refine ⟨0, by omega, rfl, ⟨-1, rfl, by omega, fun h => ?_⟩, OwnC.nil _ _, Below.refl _ _⟩
          have := (HZ3.out 0 (by rw [HZN.out]; exact h)).1
          omega
        case round =>
          obtain ⟨q, hq, rfl, ⟨u, rfl, hu1, hu2⟩, ho, hB1⟩ := hrel
          by_cases hqt : q < zn
          · have hz := HZ3.out q (by rw [HZN.out]; exact hqt)
            have hul := hu2 hqt
            have hnext : ∀ h : q + 1 < zn, Z.getD q 0 < Z.getD (q + 1) 0 := fun h => HZ4.out q (by rw [HZN.out]; exact h)
            have hpt := picks_take l Z q (by rw [HZN.out]; exact hqt)
            obtain ⟨b1, off1, rfl, hnat⟩ := HN1.out.at hqt
            have n0 := hnat wr hB1
            have hqi : (q : Int) < (zn : Int) := by omega
            obtain ⟨z, hz0⟩ : ∃ z, Z.getD q 0 = z := ⟨_, rfl⟩
            rw [hz0] at hz hul hnext hpt n0
            obtain ⟨zk, rfl⟩ : ∃ zk : Nat, z = (zk : Int) := ⟨z.toNat, by omega⟩
            rw [Int.toNat_natCast] at hpt
            have hzm : zk < k := by have := HLN.out; omega
            have hzi : (zk : Int) < (k : Int) ∧ (zk : Int) < (cap : Int) := by omega
            obtain ⟨bk, off, rfl, hat⟩ := HL.out.at hzm
            obtain ⟨y, hy⟩ : ∃ y, l.getD zk Cl.zero = y := ⟨_, rfl⟩
            rw [hy] at hat hpt
            obtain ⟨n', s', a', b', g', t', d', e'⟩ := y
            obtain ⟨p0, p1, p2, p3, p4, p5, p6, p7⟩ := hat wr (HBW.out.trans (hB1.mono HBW.out.size))
            simp only at p0 p1 p2 p3 p4 p5 p6 p7
            have hmx : (picks l (Z.take q)).length ≤ 1000000000 := by rw [picks_length, List.length_take]; omega
            have HO := Lib.hid ho
            have HB1 := Lib.hid hB1
            have HMX := Lib.hid hmx
            have HPT := Lib.hid hpt
            have HNX := Lib.hid hnext
            have hle2 : ¬ (zk : Int) ≤ u := by omega
            clear hnat hat hy ho hB1 hz hu2 hmx hpt hz0 hnext
            go_wp2_with (at_builtin; go_loud (refine wpList_append_cell rfl (.tmp 44) (.tmp 49) rfl rfl HO.out n' s' a' b' g' t' d' e' rfl HMX.out HB1.out.size ?_); intro v9 w9 ho9 hg9)
            have HB9 := Lib.hid ((HB1.out.alloc HB1.out.size (.cells #[.int .i64 n', .int .i64 s', .int .i64 a', .int .i64 b', .bool g', .string (text t'), .int .i64 d', .int .i64 e'] 27)).grown hg9 (by have := HB1.out.size; simp; omega) (fun j e => (HO.out.lt j e).1))
            go_roundw
            case rel => exact ⟨q + 1, by omega, by go_num, ⟨(zk : Int), rfl, by omega, fun h => HNX.out h⟩, by rw [HPT.out]; exact ho9, HB9.out⟩
            case measure => simp [intOf]; omega
          · obtain rfl : q = zn := by omega
            rw [List.take_of_length_le (by rw [HZN.out]; exact Nat.le_refl _)] at ho
            obtain ⟨a2, k2, rfl, hc2⟩ := ho.cls
            have hpl : (picks l Z).length = q := by rw [picks_length, HZN.out]
            have hJS := fun W (h : Below wr.heap.size wr W) => join_c (hc2.below h)
            have hNS := fun W (h : Below wr.heap.size wr W) => needed_c (hc2.below h) (by omega)
            have hj2 := HJ2.out
            unfold NeedPost at hNS
            rw [HJ1.out] at hJS
            rw [hpl] at hJS hNS ⊢
            rw [HZN.out] at hj2
            obtain ⟨Y, hY⟩ : ∃ z, needN (picks l Z) q = z := ⟨_, rfl⟩
            rw [hY] at hNS hj2
            simp only [Cl.arr] at hJS
            have HJS := Lib.hid hJS
            have HNS := Lib.hid hNS
            have HY := Lib.hid hj2
            have HJB := Lib.hid (fun W (h : Below wr.heap.size wr W) => HJ.out W (HBW.out.trans ((hB1.trans (h.mono hB1.size)).mono HBW.out.size)))
            have HBX := Lib.hid (HBW.out.trans (hB1.mono HBW.out.size))
            clear hJS hNS hj2 hY ho hc2 hB1 hu2 hpl HN1 HJ
            simp only [Cl.arr] at HJB
            have hcur := Below.refl wr.heap.size wr
            have hqq : ((q : Int) == (q : Int)) = true := by simp
            go_wp2_with (first
              | (go_at_call 13; (with_reducible refine (HJS.out _ hcur).mono ?_); rintro e9 w9 ⟨rfl, hb9⟩; (replace hcur := hcur.trans (hb9.mono hcur.size)); clear hb9)
              | (go_at_call 13; (with_reducible refine (HJB.out _ hcur).mono ?_); rintro e9 w9 ⟨rfl, hb9⟩; (replace hcur := hcur.trans (hb9.mono hcur.size)); clear hb9)
              | (go_at_call 18; (with_reducible refine (HNS.out _ hcur).mono ?_); rintro e9 w9 ⟨v9, rfl, ho9, hb9⟩; (replace hcur := hcur.trans (hb9.mono hcur.size)); obtain ⟨a9, k9, rfl, hn9⟩ := ho9.ns; clear ho9 hb9 hn9; rw [HY.out])
              | (go_at_call 10; (with_reducible refine (HLv.out _).mono ?_); rintro e9 w9 ⟨rfl, hb9⟩; (replace hcur := hcur.trans (hb9.mono hcur.size)); clear hb9))
            go_ret
            exact ⟨rfl, HBX.out.trans (hcur.mono HBX.out.size)⟩
end Go.Proofs.Ytkjpmdpljdgcjaa
