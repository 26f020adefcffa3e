/-
  Merged: ME MF MG MH MI.
-/
import Derived.Test.YtkjpmdpljdgcjaaDoorR1
import Derived.Test.YtkjpmdpljdgcjaaDoorR0
import Derived.Lib.MinMax

section
/-
  Row: the reference's Key and Good.
-/
namespace Go.Proofs.YtkjpmdpljdgcjaaDoor
open Go.RowKit Go Go.Sort
set_option linter.unusedVariables false
set_option maxRecDepth 20000

set_option maxHeartbeats 1600000 in
theorem rkey_c (key : List UInt8) (hk : key.length ≤ 9223372036854775807) (w : World) : Calls Tryd.prog 36 #[.string (text key)] w (fun e w' => e = .returned (.int .i64 (keyS key)) ∧ w' = w) := by
  have hts := text_nilb key
  have hsz : ((text key).size : Int) = (key.length : Int) := by rw [text_size]
  have HK2 := Lib.hid (@key_nil key)
  have HK3 := Lib.hid (@key_long key)
  have HK0 := Lib.hid (@key_ok key)
  obtain ⟨K0, hK⟩ : ∃ z, keyS key = z := ⟨_, rfl⟩
  obtain ⟨kb, hkb⟩ : ∃ z, (key == []) = z := ⟨_, rfl⟩
  obtain ⟨kl, hkl⟩ : ∃ z, key.length = z := ⟨_, rfl⟩
  obtain ⟨tk, htk⟩ : ∃ z, text key = z := ⟨_, rfl⟩
  rw [hK, htk]
  simp only [hkb, hkl, hK] at HK2 HK3 HK0
  rw [hkb, htk] at hts
  rw [hkl, htk] at hsz
  clear hK hkb hkl htk hk
  cases kb with
  | true =>
    have HR := Lib.hid (HK2.out rfl)
    go_enter Tryd.func36, Tryd.ntmps36
    go_wp2
    go_ret
    exact ⟨by rw [HR.out]; rfl, rfl⟩
  | false =>
    by_cases h2 : 32 < kl
    · have h2i : (32 : Int) < (kl : Int) := by omega
      have HR := Lib.hid (HK3.out rfl h2)
      go_enter Tryd.func36, Tryd.ntmps36
      go_wp2
      go_ret
      exact ⟨by rw [HR.out]; rfl, rfl⟩
    · have h2i : ¬ (32 : Int) < (kl : Int) := by omega
      have HR := Lib.hid (HK0.out rfl h2)
      go_enter Tryd.func36, Tryd.ntmps36
      go_wp2
      go_ret
      exact ⟨by rw [HR.out]; rfl, rfl⟩

set_option maxRecDepth 100000 in
set_option maxHeartbeats 6400000 in
theorem rrowgood_c {w : World} {x x2 : Option Addr} {n1 cap m cap2 : Nat} {gs : List Grp} {cs : List Cl} (hg : Grs w x n1 cap gs) (hs : ∀ g ∈ gs, g.1.length ≤ 9223372036854775807)
    (hl : Cls w x2 m cap2 cs) (hx : ∀ c ∈ cs, c.t.length ≤ 9223372036854775807) (key : List UInt8) (hk : key.length ≤ 9223372036854775807) :
    Calls Tryd.prog 15 #[.slice x n1 cap, .agg #[.string (text key), .slice x2 m cap2]] w (Tells (.int .i64 (rgoodS gs key cs)) w) := by
  have hgl := hg.len
  have hll := hl.len
  have hle1 := hg.le
  have hmax1 := hg.max
  have hle2 := hl.le
  have hmax2 := hl.max
  have hPG := fun W (h : Below w.heap.size w W) => rpgood_c (hg.below h) hs
  have hKY := fun W => rkey_c key hk W
  have H0 := Lib.hid (@rgood_pol gs key cs)
  have H1 := Lib.hid (@rgood_key gs key cs)
  have H2 := Lib.hid (@rgood_len gs key cs)
  have H3 := Lib.hid (@rgood_bad gs key cs)
  have H4 := Lib.hid (@rgood_yes gs key cs)
  have HG := Lib.hid hg
  have HL := Lib.hid hl
  obtain ⟨R, hR⟩ : ∃ z, rgoodS gs key cs = z := ⟨_, rfl⟩
  obtain ⟨P0, hP⟩ : ∃ z, pgoodS gs = z := ⟨_, rfl⟩
  obtain ⟨K0, hK⟩ : ∃ z, keyS key = z := ⟨_, rfl⟩
  obtain ⟨tk, htk⟩ : ∃ z, text key = z := ⟨_, rfl⟩
  simp only [hR, hP, hK, hgl, hll] at H0 H1 H2 H3 H4
  simp only [hP] at hPG
  simp only [hK, htk] at hKY
  rw [hR, htk]
  have HPG := Lib.hid hPG
  have HKY := Lib.hid hKY
  have hb := alloc_below w (.cells #[.string tk, .slice x2 m cap2] 25)
  have hr := heap_alloc_new w (.cells #[.string tk, .slice x2 m cap2] 25)
  clear hR hP hK htk hk hPG hKY hg hl
  go_enter Tryd.func15, Tryd.ntmps15
  go_upto_region 1 with (fail)
  obtain ⟨B, hB⟩ : ∃ q, w.heap.size = q := ⟨_, rfl⟩
  have HBe := Lib.hid hB
  rw [hB] at hr ⊢
  clear hB
  generalize w.alloc (.cells #[.string tk, .slice x2 m cap2] 25) = W1 at *
  have HR1 := Lib.hid hr
  have HB1 := Lib.hid hb
  clear hr hb
  go_upto_region 2 with (go_at_call 35; (with_reducible refine (HPG.out _ HB1.out).mono ?_); rintro e9 w2 ⟨rfl, hb2⟩)
  have HR2 := Lib.hid ((hb2.block _ (Array.getElem?_eq_some_iff.1 HR1.out).1).trans HR1.out)
  have HB2 := Lib.hid (HB1.out.trans (hb2.mono HB1.out.size))
  have r0 : w2.cell? ⟨B, 0, none⟩ = some (.string tk) := by rw [cell_of_row _ B 0 _ _ (0, 0) HR2.out]; rfl
  have r1 : w2.cell? ⟨B, 1, none⟩ = some (.slice x2 m cap2) := by rw [cell_of_row _ B 1 _ _ (0, 0) HR2.out]; rfl
  clear hb2 HR1 HB1 HPG
  by_cases h0 : P0 = 0
  · subst h0
    by_cases h1 : K0 = 0
    · subst h1
      by_cases hmn : m = n1
      · subst hmn
        have HKZ := Lib.hid (show (0 : Int) = 0 from rfl)
        have hmi : ((m : Int) != (m : Int)) = false := by simp
        go_wp2_with (go_at_call 36; (with_reducible refine (HKY.out _).mono ?_); rintro e9 w9 ⟨rfl, rfl⟩)
        clear r0 r1
        go_loopw [6] (fun i wr => ∃ k : Nat, k ≤ m ∧ i = .int .i64 k ∧ (∀ j, j < k → cgAt gs cs j = true) ∧ Below w.heap.size w wr ∧ wr.heap[B]? = some (.cells #[.string tk, .slice x2 m cap2] 25 (0, 0))) (fun i _ => m - (intOf i).toNat)
        case atStart => exact ⟨0, by omega, rfl, fun j hj => by omega, HB2.out, HR2.out⟩
        case round =>
          clear HB2 HR2
          obtain ⟨i, hk, rfl, hgd, hB, hr⟩ := hrel
          by_cases hlt : i < m
          · have hki : (i : Int) < (m : Int) := by omega
            have hki1 : (i : Int) < (cap : Int) := by omega
            have hki2 : (i : Int) < (cap2 : Int) := by omega
            obtain ⟨bg, offg, rfl, hatg⟩ := HG.out.at hlt
            obtain ⟨bk, off, rfl, hat⟩ := HL.out.at hlt
            have hcx := hx (cs.getD i Cl.zero) (mem_getDd (by omega))
            have hcg : cgAt gs cs i = (cs.getD i Cl.zero).good (gs.getD i ([], 0)).2 := rfl
            obtain ⟨⟨nm, pk⟩, hgk⟩ : ∃ y, gs.getD i ([], 0) = y := ⟨_, rfl⟩
            obtain ⟨y, hck⟩ : ∃ y, cs.getD i Cl.zero = y := ⟨_, rfl⟩
            rw [hck] at hat hcx hcg
            rw [hgk] at hatg hcg
            obtain ⟨n, s, a, b, g, t, d, e⟩ := y
            simp only at hcx
            have hC := fun W => rcgood_c pk n s a b g t d e hcx W
            obtain ⟨C, hCC⟩ : ∃ z, cgAt gs cs i = z := ⟨_, rfl⟩
            rw [show cgoodS pk n s a b g t d e = C from by rw [← hCC, hcg]; rfl] at hC
            have HCC := Lib.hid hCC
            have HC := Lib.hid hC
            have HGD := Lib.hid hgd
            have HB := Lib.hid hB
            have HR := Lib.hid hr
            have HGW := Lib.hid (fun W (h : Below wr.heap.size wr W) => hatg W (hB.trans (h.mono hB.size)))
            have HPW := Lib.hid (fun W (h : Below wr.heap.size wr W) => hat W (hB.trans (h.mono hB.size)))
            have HRB := Lib.hid (fun W (h : Below wr.heap.size wr W) => (show W.cell? ⟨B, 1, none⟩ = some (.slice (some ⟨bk, off, none⟩) m cap2) by rw [cell_of_row _ B 1 _ _ (0, 0) ((h.block _ (Array.getElem?_eq_some_iff.1 hr).1).trans hr)]; rfl))
            clear hgd hB hr hat hatg hcx hcg hC hCC hgk hck
            go_upto_region 12 with (fail)
            refine wp_region_flow [none, none, none, none, none, none, none, none, none, none, none, none, none, none, none, none, none, none, none, none, none, none, none, none, none, none, none, none, none, none, some 0, some 1, some 2, some 3, some 4, some 5, some 6, some 7, some 8, some 9, some 10, some 11] (fun i => [u30, u31, u32, u33, u34, u35, u36, u37, u38, u39, u40, u41].getD i undef) [(fun v _ => v = .slice (some ⟨bg, offg, none⟩) m cap), (fun v _ => v = .int .i64 (i : Int)), (fun v _ => v = .pointer (some ⟨bg, offg + i * 2, none⟩)), (fun v _ => v = .pointer (some ⟨bg, offg + i * 2 + 1, none⟩)), (fun v _ => v = .int .i64 pk), (fun v _ => v = .pointer (some ⟨B, 1, none⟩)), (fun v _ => v = .slice (some ⟨bk, off, none⟩) m cap2), (fun v _ => v = .int .i64 (i : Int)), (fun v _ => v = .pointer (some ⟨bk, off + i * 8, none⟩)), (fun v _ => v = .agg #[.int .i64 n, .int .i64 s, .int .i64 a, .int .i64 b, .bool g, .string (text t), .int .i64 d, .int .i64 e]), (fun v _ => v = .bool C), (fun v _ => v = .bool (!C))] (by kernel_rfl) (by kernel_rfl) rfl rfl rfl ?_ ?_ ?_
            · intro g hg v X Y hX hY hv
              simp only [List.mem_cons, List.not_mem_nil, or_false] at hg
              rcases hg with rfl | rfl | rfl | rfl | rfl | rfl | rfl | rfl | rfl | rfl | rfl | rfl
              all_goals first
                | exact hv
                | exact hv.kept hY
            · simp only [flowOps, and_true]
              refine ⟨?_, ?_, ?_, ?_, ?_, ?_, ?_, ?_, ?_, ?_, ?_, ?_⟩
              · intro xs W hW hn
                simp only [flowAct, List.zipWith_cons_cons, List.zipWith_nil_left]
                go_wp2_with (fail)
                exact ⟨rfl, _, rfl, Below.refl _ _, rfl⟩
              · intro xs W hW hn
                simp only [flowAct, List.zipWith_cons_cons, List.zipWith_nil_left]
                go_wp2_with (fail)
                exact ⟨rfl, _, rfl, Below.refl _ _, rfl⟩
              · intro xs W hW hn
                simp [flowNeeds, Region.binds] at hn
                simp only [flowAct, List.zipWith_cons_cons, List.zipWith_nil_left]
                try simp only [hn]
                go_wp2_with (fail)
                exact ⟨rfl, _, rfl, Below.refl _ _, rfl⟩
              · intro xs W hW hn
                simp [flowNeeds, Region.binds] at hn
                simp only [flowAct, List.zipWith_cons_cons, List.zipWith_nil_left]
                try simp only [hn]
                go_wp2_with (fail)
                exact ⟨rfl, _, rfl, Below.refl _ _, rfl⟩
              · intro xs W hW hn
                obtain ⟨g0, g1⟩ := HGW.out W hW
                simp only at g0 g1
                simp [flowNeeds, Region.binds] at hn
                simp only [flowAct, List.zipWith_cons_cons, List.zipWith_nil_left]
                try simp only [hn]
                go_wp2_with (fail)
                exact ⟨rfl, _, rfl, Below.refl _ _, rfl⟩
              · intro xs W hW hn
                simp only [flowAct, List.zipWith_cons_cons, List.zipWith_nil_left]
                go_wp2_with (fail)
                exact ⟨rfl, _, rfl, Below.refl _ _, rfl⟩
              · intro xs W hW hn
                have rb1 := HRB.out W hW
                simp [flowNeeds, Region.binds] at hn
                simp only [flowAct, List.zipWith_cons_cons, List.zipWith_nil_left]
                try simp only [hn]
                go_wp2_with (fail)
                exact ⟨rfl, _, rfl, Below.refl _ _, rfl⟩
              · intro xs W hW hn
                simp only [flowAct, List.zipWith_cons_cons, List.zipWith_nil_left]
                go_wp2_with (fail)
                exact ⟨rfl, _, rfl, Below.refl _ _, rfl⟩
              · intro xs W hW hn
                simp [flowNeeds, Region.binds] at hn
                simp only [flowAct, List.zipWith_cons_cons, List.zipWith_nil_left]
                try simp only [hn]
                go_wp2_with (fail)
                exact ⟨rfl, _, rfl, Below.refl _ _, rfl⟩
              · intro xs W hW hn
                obtain ⟨p0, p1, p2, p3, p4, p5, p6, p7⟩ := HPW.out W hW
                simp only at p0 p1 p2 p3 p4 p5 p6 p7
                simp [flowNeeds, Region.binds] at hn
                simp only [flowAct, List.zipWith_cons_cons, List.zipWith_nil_left]
                try simp only [hn]
                go_wp2_with (fail)
                exact ⟨rfl, _, rfl, Below.refl _ _, rfl⟩
              · intro xs W hW hn
                simp [flowNeeds, Region.binds] at hn
                simp only [flowAct, List.zipWith_cons_cons, List.zipWith_nil_left]
                simp only [hn]
                go_wp2_with (go_at_call 43; (with_reducible refine (HC.out _).mono ?_); rintro e9 w9 ⟨rfl, hb9⟩)
                exact ⟨rfl, _, rfl, hb9, rfl⟩
              · intro xs W hW hn
                simp [flowNeeds, Region.binds] at hn
                simp only [flowAct, List.zipWith_cons_cons, List.zipWith_nil_left]
                try simp only [hn]
                go_wp2_with (fail)
                exact ⟨rfl, _, rfl, Below.refl _ _, rfl⟩
            · intro xs W hW hall
              simp only [flowAll, and_true, Nat.zero_add, Nat.reduceAdd] at hall
              obtain ⟨-, -, -, -, -, -, -, -, -, -, -, e11⟩ := hall
              simp only [flowAct, List.zipWith_cons_cons, List.zipWith_nil_left]
              simp only [e11]
              cases C with
              | true =>
                have HNX := Lib.hid (fun j (hj : j < i + 1) => if e : j = i then (by rw [e]; exact HCC.out : cgAt gs cs j = true) else HGD.out j (by omega))
                go_wp2
                go_roundw
                case rel => exact ⟨i + 1, by omega, by go_num, HNX.out, HB.out.trans (hW.mono HB.out.size), (hW.block _ (Array.getElem?_eq_some_iff.1 HR.out).1).trans HR.out⟩
                case measure => simp [intOf]; omega
              | false =>
                have HRR := Lib.hid (show R = 80 from H3.out (by first | rfl | trivial) HKZ.out (by first | rfl | trivial) hlt HCC.out)
                go_wp2
                go_ret
                exact ⟨by rw [HRR.out]; rfl, HB.out.trans (hW.mono HB.out.size)⟩
          · obtain rfl : i = m := by omega
            have HRR := Lib.hid (show R = 0 from H4.out (by first | rfl | trivial) HKZ.out (by first | rfl | trivial) hgd)
            have HB := Lib.hid hB
            clear hgd hB hr
            go_wp2
            go_ret
            exact ⟨by rw [HRR.out]; rfl, HB.out⟩
      · have hmi : ((m : Int) != (n1 : Int)) = true := by rw [bne_iff_ne]; omega
        have HRR := Lib.hid (show R = 100 from H2.out (by first | rfl | trivial) rfl hmn)
        go_wp2_with (go_at_call 36; (with_reducible refine (HKY.out _).mono ?_); rintro e9 w9 ⟨rfl, rfl⟩)
        go_ret
        exact ⟨by rw [HRR.out]; rfl, HB2.out⟩
    · have h1n : (K0 != 0) = true := by simpa using h1
      have HRR := Lib.hid (show R = K0 from H1.out (by first | rfl | trivial) h1)
      clear h1
      go_wp2_with (go_at_call 36; (with_reducible refine (HKY.out _).mono ?_); rintro e9 w9 ⟨rfl, rfl⟩)
      go_ret
      exact ⟨by rw [HRR.out]; rfl, HB2.out⟩
  · have h0n : (P0 != 0) = true := by simpa using h0
    have HRR := Lib.hid (show R = P0 from H0.out h0)
    clear h0
    go_wp2
    go_ret
    exact ⟨by rw [HRR.out]; rfl, HB2.out⟩
end Go.Proofs.YtkjpmdpljdgcjaaDoor
end

section
/-
  Row: Bare of both.
-/
namespace Go.Proofs.YtkjpmdpljdgcjaaDoor
open Go.RowKit Go Go.Sort
set_option linter.unusedVariables false
set_option maxRecDepth 20000

set_option maxRecDepth 100000 in
set_option maxHeartbeats 3200000 in
theorem bare_c {w : World} {x2 : Option Addr} {m cap2 : Nat} {cs : List Cl} (hl : Cls w x2 m cap2 cs) (key : ByteArray) :
    Calls Tryd.prog 18 #[.agg #[.string key, .slice x2 m cap2]] w (Tells (.bool (bareS cs)) w) := by
  have hll := hl.len
  have hle2 := hl.le
  have hmax2 := hl.max
  have HL := Lib.hid hl
  have HBT := Lib.hid (@bare_take cs)
  have HBN := Lib.hid (fun (k : Nat) => @bare_not cs k)
  have hnil : text ([] : List UInt8) = ⟨#[]⟩ := rfl
  obtain ⟨R, hR⟩ : ∃ z, bareS cs = z := ⟨_, rfl⟩
  rw [hR]
  have HRV := Lib.hid hR
  have hb := alloc_below w (.cells #[.string key, .slice x2 m cap2] 25)
  have hr := heap_alloc_new w (.cells #[.string key, .slice x2 m cap2] 25)
  clear hR hl
  go_enter Tryd.func18, Tryd.ntmps18
  go_upto_region 1 with (fail)
  obtain ⟨B, hB⟩ : ∃ q, w.heap.size = q := ⟨_, rfl⟩
  have HBe := Lib.hid hB
  rw [hB] at hr ⊢
  clear hB
  generalize w.alloc (.cells #[.string key, .slice x2 m cap2] 25) = W1 at *
  have HR1 := Lib.hid hr
  have HB1 := Lib.hid hb
  have r1 : W1.cell? ⟨B, 1, none⟩ = some (.slice x2 m cap2) := by rw [cell_of_row _ B 1 _ _ (0, 0) hr]; rfl
  clear hr hb
  go_wp2
  clear r1
  go_loopw [8] (fun i wr => ∃ k : Nat, k ≤ m ∧ i = .int .i64 k ∧ bareS (cs.take k) = true ∧ Below w.heap.size w wr ∧ wr.heap[B]? = some (.cells #[.string key, .slice x2 m cap2] 25 (0, 0))) (fun i _ => m - (intOf i).toNat)
  case atStart => exact ⟨0, by omega, rfl, rfl, HB1.out, HR1.out⟩
  case round =>
    clear HB1 HR1
    obtain ⟨i, hk, rfl, hbt, hB, hr⟩ := hrel
    have r1 : wr.cell? ⟨B, 1, none⟩ = some (.slice x2 m cap2) := by rw [cell_of_row _ B 1 _ _ (0, 0) hr]; rfl
    by_cases hlt : i < m
    · have hki : (i : Int) < (m : Int) := by omega
      have hki2 : (i : Int) < (cap2 : Int) := by omega
      obtain ⟨bk, off, rfl, hat⟩ := HL.out.at hlt
      have hst := HBT.out i (by omega)
      have hno := HBN.out i (by omega)
      obtain ⟨y, hck⟩ : ∃ y, cs.getD i Cl.zero = y := ⟨_, rfl⟩
      rw [hck] at hat hst hno
      obtain ⟨n, s, a, b, g, t, d, e⟩ := y
      obtain ⟨p0, p1, p2, p3, p4, p5, p6, p7⟩ := hat wr hB
      simp only at p0 p1 p2 p3 p4 p5 p6 p7
      obtain ⟨C, hC⟩ : ∃ z, sameC ⟨n, s, a, b, g, t, d, e⟩ Cl.zero = z := ⟨_, rfl⟩
      rw [hC] at hst hno
      rw [hbt] at hst
      have HST := Lib.hid hst
      have HNO := Lib.hid hno
      have HB := Lib.hid hB
      have HR := Lib.hid hr
      have hcn := cell_neb n s a b g t d e 0 0 0 0 false [] 0 0 C hC
      rw [hnil] at hcn
      have hceg := cell_eqg
      clear hck hC hst hno hB hr hat hbt
      go_upto_region 4 with (fail)
      have hx2 := Cel.new wr n s a b g t d e
      have HB2 := Lib.hid (HB.out.alloc HB.out.size (.cells #[.int .i64 n, .int .i64 s, .int .i64 a, .int .i64 b, .bool g, .string (text t), .int .i64 d, .int .i64 e] 50))
      have HR2 := Lib.hid ((Below.heap_alloc wr (.cells #[.int .i64 n, .int .i64 s, .int .i64 a, .int .i64 b, .bool g, .string (text t), .int .i64 d, .int .i64 e] 50) B (Array.getElem?_eq_some_iff.1 HR.out).1).trans HR.out)
      obtain ⟨gx, hgx⟩ : ∃ g, wr.heap.size = g := ⟨_, rfl⟩
      rw [hgx] at hx2 ⊢
      generalize wr.alloc (.cells #[.int .i64 n, .int .i64 s, .int .i64 a, .int .i64 b, .bool g, .string (text t), .int .i64 d, .int .i64 e] 50) = W2 at *
      obtain ⟨k0, k1, k2, k3, k4, k5, k6, k7⟩ := hx2.cs
      clear hx2 p0 p1 p2 p3 p4 p5 p6 p7 HB HR hgx r1
      cases C with
      | true =>
        go_wp2
        go_roundw
        case rel => exact ⟨i + 1, by omega, by go_num, HST.out, HB2.out, HR2.out⟩
        case measure => simp [intOf]; omega
      | false =>
        have HRR := Lib.hid (show R = false by rw [← HRV.out]; exact HNO.out rfl)
        go_wp2
        go_ret
        exact ⟨by rw [HRR.out]; rfl, HB2.out⟩
    · obtain rfl : i = m := by omega
      rw [List.take_of_length_le (by omega)] at hbt
      have HRR := Lib.hid (show R = true by rw [← HRV.out]; exact hbt)
      have HB := Lib.hid hB
      clear hbt hB hr
      go_wp2
      go_ret
      exact ⟨by rw [HRR.out]; rfl, HB.out⟩

set_option maxRecDepth 100000 in
set_option maxHeartbeats 3200000 in
theorem rbare_c {w : World} {x2 : Option Addr} {m cap2 : Nat} {cs : List Cl} (hl : Cls w x2 m cap2 cs) (key : ByteArray) :
    Calls Tryd.prog 19 #[.agg #[.string key, .slice x2 m cap2]] w (Tells (.bool (bareS cs)) w) := by
  have hll := hl.len
  have hle2 := hl.le
  have hmax2 := hl.max
  have HL := Lib.hid hl
  have HBT := Lib.hid (@bare_take cs)
  have HBN := Lib.hid (fun (k : Nat) => @bare_not cs k)
  have hnil : text ([] : List UInt8) = ⟨#[]⟩ := rfl
  obtain ⟨R, hR⟩ : ∃ z, bareS cs = z := ⟨_, rfl⟩
  rw [hR]
  have HRV := Lib.hid hR
  have hb := alloc_below w (.cells #[.string key, .slice x2 m cap2] 25)
  have hr := heap_alloc_new w (.cells #[.string key, .slice x2 m cap2] 25)
  clear hR hl
  go_enter Tryd.func19, Tryd.ntmps19
  go_upto_region 1 with (fail)
  obtain ⟨B, hB⟩ : ∃ q, w.heap.size = q := ⟨_, rfl⟩
  have HBe := Lib.hid hB
  rw [hB] at hr ⊢
  clear hB
  generalize w.alloc (.cells #[.string key, .slice x2 m cap2] 25) = W1 at *
  have HR1 := Lib.hid hr
  have HB1 := Lib.hid hb
  have r1 : W1.cell? ⟨B, 1, none⟩ = some (.slice x2 m cap2) := by rw [cell_of_row _ B 1 _ _ (0, 0) hr]; rfl
  clear hr hb
  go_wp2
  clear r1
  go_loopw [3] (fun i wr => ∃ k : Nat, k ≤ m ∧ i = .int .i64 k ∧ bareS (cs.take k) = true ∧ Below w.heap.size w wr ∧ wr.heap[B]? = some (.cells #[.string key, .slice x2 m cap2] 25 (0, 0))) (fun i _ => m - (intOf i).toNat)
  case atStart => exact ⟨0, by omega, rfl, rfl, HB1.out, HR1.out⟩
  case round =>
    clear HB1 HR1
    obtain ⟨i, hk, rfl, hbt, hB, hr⟩ := hrel
    have r1 : wr.cell? ⟨B, 1, none⟩ = some (.slice x2 m cap2) := by rw [cell_of_row _ B 1 _ _ (0, 0) hr]; rfl
    by_cases hlt : i < m
    · have hki : (i : Int) < (m : Int) := by omega
      have hki2 : (i : Int) < (cap2 : Int) := by omega
      obtain ⟨bk, off, rfl, hat⟩ := HL.out.at hlt
      have hst := HBT.out i (by omega)
      have hno := HBN.out i (by omega)
      obtain ⟨y, hck⟩ : ∃ y, cs.getD i Cl.zero = y := ⟨_, rfl⟩
      rw [hck] at hat hst hno
      obtain ⟨n, s, a, b, g, t, d, e⟩ := y
      obtain ⟨p0, p1, p2, p3, p4, p5, p6, p7⟩ := hat wr hB
      simp only at p0 p1 p2 p3 p4 p5 p6 p7
      obtain ⟨C, hC⟩ : ∃ z, sameC ⟨n, s, a, b, g, t, d, e⟩ Cl.zero = z := ⟨_, rfl⟩
      rw [hC] at hst hno
      rw [hbt] at hst
      have HST := Lib.hid hst
      have HNO := Lib.hid hno
      have HB := Lib.hid hB
      have HR := Lib.hid hr
      have hs := fun W => rsame_c n s a b g t d e 0 0 0 0 false [] 0 0 W
      rw [show sameC ⟨n, s, a, b, g, t, d, e⟩ ⟨0, 0, 0, 0, false, [], 0, 0⟩ = C from hC, hnil] at hs
      have HS := Lib.hid hs
      clear hck hC hst hno hB hr hat hbt hs
      cases C with
      | true =>
        go_wp2_with (go_at_call 32; (with_reducible refine (HS.out _).mono ?_); rintro e9 w9 ⟨rfl, hb9⟩)
        go_roundw
        case rel => exact ⟨i + 1, by omega, by go_num, HST.out, HB.out.trans (hb9.mono HB.out.size), (hb9.block _ (Array.getElem?_eq_some_iff.1 HR.out).1).trans HR.out⟩
        case measure => simp [intOf]; omega
      | false =>
        have HRR := Lib.hid (show R = false by rw [← HRV.out]; exact HNO.out rfl)
        go_wp2_with (go_at_call 32; (with_reducible refine (HS.out _).mono ?_); rintro e9 w9 ⟨rfl, hb9⟩)
        go_ret
        exact ⟨by rw [HRR.out]; rfl, HB.out.trans (hb9.mono HB.out.size)⟩
    · obtain rfl : i = m := by omega
      rw [List.take_of_length_le (by omega)] at hbt
      have HRR := Lib.hid (show R = true by rw [← HRV.out]; exact hbt)
      have HB := Lib.hid hB
      clear hbt hB hr
      go_wp2
      go_ret
      exact ⟨by rw [HRR.out]; rfl, HB.out⟩
end Go.Proofs.YtkjpmdpljdgcjaaDoor
end

section
/-
  Row: Known of both.
-/
namespace Go.Proofs.YtkjpmdpljdgcjaaDoor
open Go.RowKit Go Go.Sort
set_option linter.unusedVariables false
set_option maxRecDepth 20000

def PrsV (l : List (Int × Int)) (v : Value) (W : World) : Prop := ∃ a n c, v = .slice a n c ∧ Prs W a n c l
theorem PrsV.kept {l : List (Int × Int)} {v : Value} {X Y : World} (h : PrsV l v X) (hb : Below X.heap.size X Y) : PrsV l v Y := by
  obtain ⟨a, n, c, rfl, h⟩ := h
  exact ⟨a, n, c, rfl, h.below hb⟩
set_option maxRecDepth 100000 in
set_option maxHeartbeats 6400000 in
theorem known_c {w : World} {x2 : Option Addr} {m cap2 : Nat} {cs : List Cl} (hl : Cls w x2 m cap2 cs) (key : ByteArray) :
    Calls Tryd.prog 20 #[.agg #[.string key, .slice x2 m cap2]] w (Tells (.agg #[.int .i64 (knownS cs).1, .int .i64 (knownS cs).2]) w) := by
  have hll := hl.len
  have hle2 := hl.le
  have hmax2 := hl.max
  have HL := Lib.hid hl
  have HKT := Lib.hid (fun k (h : k < cs.length) => known_take cs k h)
  have hb := ((alloc_below w (.cells #[.string key, .slice x2 m cap2] 25)).alloc (by simp) (.cells #[.int .i64 0, .int .i64 0] 44)).alloc (by simp; omega) (.cells #[.int .i64 0, .int .i64 0] 44)
  have hr := (Below.heap_alloc ((w.alloc (.cells #[.string key, .slice x2 m cap2] 25)).alloc (.cells #[.int .i64 0, .int .i64 0] 44)) (.cells #[.int .i64 0, .int .i64 0] 44) w.heap.size (by simp; omega)).trans ((Below.heap_alloc (w.alloc (.cells #[.string key, .slice x2 m cap2] 25)) (.cells #[.int .i64 0, .int .i64 0] 44) w.heap.size (by simp)).trans (heap_alloc_new w (.cells #[.string key, .slice x2 m cap2] 25)))
  have ho := (Pair.second w (.cells #[.string key, .slice x2 m cap2] 25) 44 0 0).alloc (.cells #[.int .i64 0, .int .i64 0] 44)
  have ha := Pair.third w (.cells #[.string key, .slice x2 m cap2] 25) (.cells #[.int .i64 0, .int .i64 0] 44) 44 0 0
  clear hl
  go_enter Tryd.func20, Tryd.ntmps20
  go_upto_region 2 with (fail)
  obtain ⟨B, hB⟩ : ∃ q, w.heap.size = q := ⟨_, rfl⟩
  have HBe := Lib.hid hB
  rw [hB] at hr ho ha ⊢
  clear hB
  generalize ((w.alloc (.cells #[.string key, .slice x2 m cap2] 25)).alloc (.cells #[.int .i64 0, .int .i64 0] 44)).alloc (.cells #[.int .i64 0, .int .i64 0] 44) = W1 at *
  have HR1 := Lib.hid hr
  have HB1 := Lib.hid hb
  have HO1 := Lib.hid ho
  have HA1 := Lib.hid ha
  have r1 : W1.cell? ⟨B, 1, none⟩ = some (.slice x2 m cap2) := by rw [cell_of_row _ B 1 _ _ (0, 0) hr]; rfl
  clear hr hb ho ha
  go_wp2
  clear r1
  go_loopw [9] (fun i wr => ∃ k : Nat, k ≤ m ∧ i = .int .i64 k ∧ Pair wr (B + 1 + 1) 44 (knownS (cs.take k)).1 (knownS (cs.take k)).2 ∧ Pair wr (B + 1) 44 0 0 ∧ Below w.heap.size w wr ∧ wr.heap[B]? = some (.cells #[.string key, .slice x2 m cap2] 25 (0, 0))) (fun i _ => m - (intOf i).toNat)
  case atStart => exact ⟨0, by omega, rfl, HA1.out, HO1.out, HB1.out, HR1.out⟩
  case round =>
    clear HB1 HR1 HA1 HO1
    obtain ⟨i, hk, rfl, hA, hO, hB, hr⟩ := hrel
    have r1 : wr.cell? ⟨B, 1, none⟩ = some (.slice x2 m cap2) := by rw [cell_of_row _ B 1 _ _ (0, 0) hr]; rfl
    by_cases hlt : i < m
    · have hki : (i : Int) < (m : Int) := by omega
      have hki2 : (i : Int) < (cap2 : Int) := by omega
      obtain ⟨bk, off, rfl, hat⟩ := HL.out.at hlt
      have hst := HKT.out i (by omega)
      obtain ⟨y, hck⟩ : ∃ y, cs.getD i Cl.zero = y := ⟨_, rfl⟩
      rw [hck] at hat hst
      obtain ⟨n, s, a, b, g, t, d, e⟩ := y
      obtain ⟨⟨j0, j1⟩, hj⟩ : ∃ z, knownS (cs.take i) = z := ⟨_, rfl⟩
      obtain ⟨⟨k0, k1⟩, hkk⟩ : ∃ z, cknown ⟨n, s, a, b, g, t, d, e⟩ = z := ⟨_, rfl⟩
      obtain ⟨⟨u0, u1⟩, hu⟩ : ∃ z, joinS [(j0, j1), (k0, k1)] = z := ⟨_, rfl⟩
      rw [hj, hkk, hu] at hst
      rw [hj] at hA
      have hKN := fun W => cknown_c n s a b g t d e W
      rw [show joinS [(a, b), (d, e)] = (k0, k1) from hkk] at hKN
      simp only at hKN hA
      have HKN := Lib.hid hKN
      have HJ := Lib.hid hst
      have HU := Lib.hid hu
      have HA := Lib.hid hA
      have HO := Lib.hid hO
      have HB := Lib.hid hB
      have HR := Lib.hid hr
      obtain ⟨p0, p1, p2, p3, p4, p5, p6, p7⟩ := hat wr hB
      simp only at p0 p1 p2 p3 p4 p5 p6 p7
      clear hck hst hB hr hat hj hkk hu hKN hA hO
      go_upto_region 5 with (fail)
      have hx2 := Cel.new wr n s a b g t d e
      replace HB := Lib.hid (HB.out.alloc HB.out.size (.cells #[.int .i64 n, .int .i64 s, .int .i64 a, .int .i64 b, .bool g, .string (text t), .int .i64 d, .int .i64 e] 50))
      replace HR := Lib.hid ((Below.heap_alloc wr (.cells #[.int .i64 n, .int .i64 s, .int .i64 a, .int .i64 b, .bool g, .string (text t), .int .i64 d, .int .i64 e] 50) B (Array.getElem?_eq_some_iff.1 HR.out).1).trans HR.out)
      replace HA := Lib.hid (HA.out.alloc (.cells #[.int .i64 n, .int .i64 s, .int .i64 a, .int .i64 b, .bool g, .string (text t), .int .i64 d, .int .i64 e] 50))
      replace HO := Lib.hid (HO.out.alloc (.cells #[.int .i64 n, .int .i64 s, .int .i64 a, .int .i64 b, .bool g, .string (text t), .int .i64 d, .int .i64 e] 50))
      obtain ⟨gx, hgx⟩ : ∃ g, wr.heap.size = g := ⟨_, rfl⟩
      rw [hgx] at hx2 ⊢
      clear hgx p0 p1 p2 p3 p4 p5 p6 p7 r1
      obtain ⟨W2, hW2⟩ : ∃ X, wr.alloc (.cells #[.int .i64 n, .int .i64 s, .int .i64 a, .int .i64 b, .bool g, .string (text t), .int .i64 d, .int .i64 e] 50) = X := ⟨_, rfl⟩
      rw [hW2] at hx2 HB HR HA HO ⊢
      clear hW2
      have HVW := Lib.hid (fun W (h : Below W2.heap.size W2 W) => And.intro (HA.out.kept h).c0 (HA.out.kept h).c1)
      have HCW := Lib.hid (fun W (h : Below W2.heap.size W2 W) => (hx2.kept h).cs)
      clear hx2
      refine wp_region_flow_tail 5 [none, none, none, none, none, none, none, none, none, none, none, none, none, some 0, some 1, some 2, some 3, some 4, none, none] (fun i => [u13, u14, u15, u16, u17].getD i undef) [(fun v _ => v = .agg #[.int .i64 j0, .int .i64 j1]), (fun v _ => v = .agg #[.int .i64 n, .int .i64 s, .int .i64 a, .int .i64 b, .bool g, .string (text t), .int .i64 d, .int .i64 e]), (fun v _ => v = .agg #[.int .i64 k0, .int .i64 k1]), (PrsV [(j0, j1), (k0, k1)]), (fun v _ => v = .agg #[.int .i64 u0, .int .i64 u1])] (fun _ => False) (by kernel_rfl) (by kernel_rfl) (by kernel_rfl) rfl rfl rfl ?_ ?_ ?_
      · intro g hg v X Y hX hY hv
        simp only [List.mem_cons, List.not_mem_nil, or_false] at hg
        rcases hg with rfl | rfl | rfl | rfl | rfl
        all_goals first
          | exact hv
          | exact hv.kept hY
      · simp only [flowOpsF, List.take_succ_cons, List.take_zero, and_true]
        refine ⟨?_, ?_, ?_, ?_, ?_⟩
        · intro xs W hW hn
          obtain ⟨v0, v1⟩ := HVW.out W hW
          simp only [flowAct, List.zipWith_cons_cons, List.zipWith_nil_left]
          go_wp2_with (fail)
          exact ⟨rfl, _, rfl, Below.refl _ _, rfl, fun h => h.elim⟩
        · intro xs W hW hn
          obtain ⟨c0, c1, c2, c3, c4, c5, c6, c7⟩ := HCW.out W hW
          simp only [flowAct, List.zipWith_cons_cons, List.zipWith_nil_left]
          go_wp2_with (fail)
          exact ⟨rfl, _, rfl, Below.refl _ _, rfl, fun h => h.elim⟩
        · intro xs W hW hn
          simp [flowNeeds, Region.binds] at hn
          simp only [flowAct, List.zipWith_cons_cons, List.zipWith_nil_left]
          simp only [hn]
          go_wp2_with (go_at_call 45; (with_reducible refine (HKN.out _).mono ?_); rintro e9 w9 ⟨rfl, hb9⟩)
          exact ⟨rfl, _, rfl, hb9, rfl, fun h => h.elim⟩
        · intro xs W hW hn
          simp [flowNeeds, Region.binds] at hn
          simp only [flowAct, List.zipWith_cons_cons, List.zipWith_nil_left]
          simp only [hn]
          go_wp2_with (fail)
          exact ⟨rfl, _, rfl, alloc_below _ _, ⟨_, _, _, rfl, prs2 _ _ _ _ _⟩, fun h => h.elim⟩
        · intro xs W hW hn
          simp [flowNeeds, Region.binds] at hn
          obtain ⟨⟨a9, n9, k9, hv9, hc9⟩, -⟩ := hn
          have HJJ := Lib.hid (vjoin_c hc9)
          rw [HU.out] at HJJ
          clear hc9
          simp only [flowAct, List.zipWith_cons_cons, List.zipWith_nil_left]
          simp only [hv9]
          go_wp2_with (go_at_call 44; (with_reducible refine HJJ.out.mono ?_); rintro e9 w9 ⟨rfl, hb9⟩)
          exact ⟨rfl, _, rfl, hb9, rfl, fun h => h.elim⟩
      · intro xs W hW hall hfr
        clear hfr
        simp only [flowAll, and_true, Nat.zero_add, Nat.reduceAdd] at hall
        obtain ⟨-, -, -, -, y4⟩ := hall
        simp only [flowAct, List.zipWith_cons_cons, List.zipWith_nil_left, List.drop_succ_cons, List.drop_zero]
        simp only [y4]
        have hA2 : Pair W (B + 1 + 1) 44 j0 j1 := HA.out.kept hW
        have a0 := hA2.c0
        have a1 := hA2.c1
        have z0 := hA2.fz 0
        have z1 := hA2.fz 1
        have HA2 := Lib.hid hA2
        have HO2 := Lib.hid (HO.out.kept hW)
        have HB2 := Lib.hid (HB.out.trans (hW.mono HB.out.size))
        have HR2 := Lib.hid ((hW.block _ (Array.getElem?_eq_some_iff.1 HR.out).1).trans HR.out)
        clear hA2
        go_wp2
        go_roundw
        case rel => exact ⟨i + 1, by omega, by go_num, by rw [HJ.out]; exact (HA2.out.set0 u0).set1 u1, (HO2.out.other _ _ (by simp)).other _ _ (by simp), (HB2.out.setCell (p := ⟨B + 1 + 1, 0, none⟩) (by have := HBe.out; simp; omega) _).setCell (p := ⟨B + 1 + 1, 1, none⟩) (by have := HBe.out; simp; omega) _, (heap_setCell_other _ _ _ _ (by simp; omega)).trans ((heap_setCell_other _ _ _ _ (by simp; omega)).trans HR2.out)⟩
        case measure => simp [intOf]; omega
    · obtain rfl : i = m := by omega
      rw [List.take_of_length_le (by omega)] at hA
      obtain ⟨⟨j0, j1⟩, hj⟩ : ∃ z, knownS cs = z := ⟨_, rfl⟩
      rw [hj] at hA
      simp only at hA
      have a0 := hA.c0
      have a1 := hA.c1
      have o0 := hO.c0
      have o1 := hO.c1
      have z0 := hO.fz 0
      have z1 := hO.fz 1
      have HJ := Lib.hid hj
      have HO := Lib.hid hO
      have HB := Lib.hid hB
      clear hA hO hB hr hj
      go_wp2
      refine bodyPost_ret (results_cell_row rfl _ _ (B + 1) 44 _ (0, 0) _ rfl ((HO.out.set0 j0).set1 j1) Tryd.underlying44 rfl (size2 _ _)) rfl ⟨by rw [HJ.out], (HB.out.setCell (p := ⟨B + 1, 0, none⟩) (by have := HBe.out; simp; omega) _).setCell (p := ⟨B + 1, 1, none⟩) (by have := HBe.out; simp; omega) _⟩

set_option maxRecDepth 100000 in
set_option maxHeartbeats 6400000 in
theorem rknown_c {w : World} {x2 : Option Addr} {m cap2 : Nat} {cs : List Cl} (hl : Cls w x2 m cap2 cs) (key : ByteArray) :
    Calls Tryd.prog 21 #[.agg #[.string key, .slice x2 m cap2]] w (Tells (.agg #[.int .i64 (knownS cs).1, .int .i64 (knownS cs).2]) w) := by
  have hll := hl.len
  have hle2 := hl.le
  have hmax2 := hl.max
  have HL := Lib.hid hl
  have HKT := Lib.hid (fun k (h : k < cs.length) => known_take cs k h)
  have hb := ((alloc_below w (.cells #[.string key, .slice x2 m cap2] 25)).alloc (by simp) (.cells #[.int .i64 0, .int .i64 0] 44)).alloc (by simp; omega) (.cells #[.int .i64 0, .int .i64 0] 44)
  have hr := (Below.heap_alloc ((w.alloc (.cells #[.string key, .slice x2 m cap2] 25)).alloc (.cells #[.int .i64 0, .int .i64 0] 44)) (.cells #[.int .i64 0, .int .i64 0] 44) w.heap.size (by simp; omega)).trans ((Below.heap_alloc (w.alloc (.cells #[.string key, .slice x2 m cap2] 25)) (.cells #[.int .i64 0, .int .i64 0] 44) w.heap.size (by simp)).trans (heap_alloc_new w (.cells #[.string key, .slice x2 m cap2] 25)))
  have ho := (Pair.second w (.cells #[.string key, .slice x2 m cap2] 25) 44 0 0).alloc (.cells #[.int .i64 0, .int .i64 0] 44)
  have ha := Pair.third w (.cells #[.string key, .slice x2 m cap2] 25) (.cells #[.int .i64 0, .int .i64 0] 44) 44 0 0
  clear hl
  go_enter Tryd.func21, Tryd.ntmps21
  go_upto_region 2 with (fail)
  obtain ⟨B, hB⟩ : ∃ q, w.heap.size = q := ⟨_, rfl⟩
  have HBe := Lib.hid hB
  rw [hB] at hr ho ha ⊢
  clear hB
  generalize ((w.alloc (.cells #[.string key, .slice x2 m cap2] 25)).alloc (.cells #[.int .i64 0, .int .i64 0] 44)).alloc (.cells #[.int .i64 0, .int .i64 0] 44) = W1 at *
  have HR1 := Lib.hid hr
  have HB1 := Lib.hid hb
  have HO1 := Lib.hid ho
  have HA1 := Lib.hid ha
  have r1 : W1.cell? ⟨B, 1, none⟩ = some (.slice x2 m cap2) := by rw [cell_of_row _ B 1 _ _ (0, 0) hr]; rfl
  clear hr hb ho ha
  go_wp2
  clear r1
  go_loopw [4] (fun i wr => ∃ k : Nat, k ≤ m ∧ i = .int .i64 k ∧ Pair wr (B + 1 + 1) 44 (knownS (cs.take k)).1 (knownS (cs.take k)).2 ∧ Pair wr (B + 1) 44 0 0 ∧ Below w.heap.size w wr ∧ wr.heap[B]? = some (.cells #[.string key, .slice x2 m cap2] 25 (0, 0))) (fun i _ => m - (intOf i).toNat)
  case atStart => exact ⟨0, by omega, rfl, HA1.out, HO1.out, HB1.out, HR1.out⟩
  case round =>
    clear HB1 HR1 HA1 HO1
    obtain ⟨i, hk, rfl, hA, hO, hB, hr⟩ := hrel
    have r1 : wr.cell? ⟨B, 1, none⟩ = some (.slice x2 m cap2) := by rw [cell_of_row _ B 1 _ _ (0, 0) hr]; rfl
    by_cases hlt : i < m
    · have hki : (i : Int) < (m : Int) := by omega
      have hki2 : (i : Int) < (cap2 : Int) := by omega
      obtain ⟨bk, off, rfl, hat⟩ := HL.out.at hlt
      have hst := HKT.out i (by omega)
      obtain ⟨y, hck⟩ : ∃ y, cs.getD i Cl.zero = y := ⟨_, rfl⟩
      rw [hck] at hat hst
      obtain ⟨n, s, a, b, g, t, d, e⟩ := y
      obtain ⟨⟨j0, j1⟩, hj⟩ : ∃ z, knownS (cs.take i) = z := ⟨_, rfl⟩
      obtain ⟨⟨k0, k1⟩, hkk⟩ : ∃ z, cknown ⟨n, s, a, b, g, t, d, e⟩ = z := ⟨_, rfl⟩
      obtain ⟨⟨u0, u1⟩, hu⟩ : ∃ z, joinS [(j0, j1), (k0, k1)] = z := ⟨_, rfl⟩
      rw [hj, hkk, hu] at hst
      rw [hj] at hA
      have hKN := fun W => rcknown_c n s a b g t d e W
      rw [show joinS [(a, b), (d, e)] = (k0, k1) from hkk] at hKN
      simp only at hKN hA
      have HKN := Lib.hid hKN
      have HJ := Lib.hid hst
      have HU := Lib.hid hu
      have HA := Lib.hid hA
      have HO := Lib.hid hO
      have HB := Lib.hid hB
      have HR := Lib.hid hr
      have hTW := fun W => rvtwo_c j0 j1 k0 k1 W
      rw [hu] at hTW
      have HTW := Lib.hid hTW
      have HPW := Lib.hid (fun W (h : Below wr.heap.size wr W) => hat W (hB.trans (h.mono hB.size)))
      have HRB := Lib.hid (fun W (h : Below wr.heap.size wr W) => (show W.cell? ⟨B, 1, none⟩ = some (.slice (some ⟨bk, off, none⟩) m cap2) by rw [cell_of_row _ B 1 _ _ (0, 0) ((h.block _ (Array.getElem?_eq_some_iff.1 hr).1).trans hr)]; rfl))
      have HVW := Lib.hid (fun W (h : Below wr.heap.size wr W) => And.intro (hA.kept h).c0 (hA.kept h).c1)
      clear hck hst hB hr hat hj hkk hu hKN hA hO hTW
      go_upto_region 5 with (fail)
      clear r1
      refine wp_region_flow_tail 8 [none, none, none, none, none, none, none, none, none, none, none, none, some 0, some 1, some 2, some 3, some 4, some 5, some 6, some 7, none] (fun i => [u12, u13, u14, u15, u16, u17, u18, u19].getD i undef) [(fun v _ => v = .agg #[.int .i64 j0, .int .i64 j1]), (fun v _ => v = .pointer (some ⟨B, 1, none⟩)), (fun v _ => v = .slice (some ⟨bk, off, none⟩) m cap2), (fun v _ => v = .int .i64 (i : Int)), (fun v _ => v = .pointer (some ⟨bk, off + i * 8, none⟩)), (fun v _ => v = .agg #[.int .i64 n, .int .i64 s, .int .i64 a, .int .i64 b, .bool g, .string (text t), .int .i64 d, .int .i64 e]), (fun v _ => v = .agg #[.int .i64 k0, .int .i64 k1]), (fun v _ => v = .agg #[.int .i64 u0, .int .i64 u1])] (fun _ => False) (by kernel_rfl) (by kernel_rfl) (by kernel_rfl) rfl rfl rfl ?_ ?_ ?_
      · intro g hg v X Y hX hY hv
        simp only [List.mem_cons, List.not_mem_nil, or_false] at hg
        rcases hg with rfl | rfl | rfl | rfl | rfl | rfl | rfl | rfl
        all_goals first
          | exact hv
          | exact hv.kept hY
      · simp only [flowOpsF, List.take_succ_cons, List.take_zero, and_true]
        refine ⟨?_, ?_, ?_, ?_, ?_, ?_, ?_, ?_⟩
        · intro xs W hW hn
          obtain ⟨v0, v1⟩ := HVW.out W hW
          simp only [flowAct, List.zipWith_cons_cons, List.zipWith_nil_left]
          go_wp2_with (fail)
          exact ⟨rfl, _, rfl, Below.refl _ _, rfl, fun h => h.elim⟩
        · intro xs W hW hn
          simp only [flowAct, List.zipWith_cons_cons, List.zipWith_nil_left]
          go_wp2_with (fail)
          exact ⟨rfl, _, rfl, Below.refl _ _, rfl, fun h => h.elim⟩
        · intro xs W hW hn
          have rb1 := HRB.out W hW
          simp [flowNeeds, Region.binds] at hn
          simp only [flowAct, List.zipWith_cons_cons, List.zipWith_nil_left]
          try simp only [hn]
          go_wp2_with (fail)
          exact ⟨rfl, _, rfl, Below.refl _ _, rfl, fun h => h.elim⟩
        · intro xs W hW hn
          simp only [flowAct, List.zipWith_cons_cons, List.zipWith_nil_left]
          go_wp2_with (fail)
          exact ⟨rfl, _, rfl, Below.refl _ _, rfl, fun h => h.elim⟩
        · intro xs W hW hn
          simp [flowNeeds, Region.binds] at hn
          simp only [flowAct, List.zipWith_cons_cons, List.zipWith_nil_left]
          try simp only [hn]
          go_wp2_with (fail)
          exact ⟨rfl, _, rfl, Below.refl _ _, rfl, fun h => h.elim⟩
        · intro xs W hW hn
          obtain ⟨p0, p1, p2, p3, p4, p5, p6, p7⟩ := HPW.out W hW
          simp only at p0 p1 p2 p3 p4 p5 p6 p7
          simp [flowNeeds, Region.binds] at hn
          simp only [flowAct, List.zipWith_cons_cons, List.zipWith_nil_left]
          try simp only [hn]
          go_wp2_with (fail)
          exact ⟨rfl, _, rfl, Below.refl _ _, rfl, fun h => h.elim⟩
        · intro xs W hW hn
          simp [flowNeeds, Region.binds] at hn
          simp only [flowAct, List.zipWith_cons_cons, List.zipWith_nil_left]
          simp only [hn]
          go_wp2_with (go_at_call 47; (with_reducible refine (HKN.out _).mono ?_); rintro e9 w9 ⟨rfl, hb9⟩)
          exact ⟨rfl, _, rfl, hb9, rfl, fun h => h.elim⟩
        · intro xs W hW hn
          simp [flowNeeds, Region.binds] at hn
          simp only [flowAct, List.zipWith_cons_cons, List.zipWith_nil_left]
          simp only [hn]
          go_wp2_with (go_at_call 46; (with_reducible refine (HTW.out _).mono ?_); rintro e9 w9 ⟨rfl, hb9⟩)
          exact ⟨rfl, _, rfl, hb9, rfl, fun h => h.elim⟩
      · intro xs W hW hall hfr
        clear hfr
        simp only [flowAll, and_true, Nat.zero_add, Nat.reduceAdd] at hall
        obtain ⟨-, -, -, -, -, -, -, y4⟩ := hall
        simp only [flowAct, List.zipWith_cons_cons, List.zipWith_nil_left, List.drop_succ_cons, List.drop_zero]
        simp only [y4]
        have hA2 : Pair W (B + 1 + 1) 44 j0 j1 := HA.out.kept hW
        have a0 := hA2.c0
        have a1 := hA2.c1
        have z0 := hA2.fz 0
        have z1 := hA2.fz 1
        have HA2 := Lib.hid hA2
        have HO2 := Lib.hid (HO.out.kept hW)
        have HB2 := Lib.hid (HB.out.trans (hW.mono HB.out.size))
        have HR2 := Lib.hid ((hW.block _ (Array.getElem?_eq_some_iff.1 HR.out).1).trans HR.out)
        clear hA2
        go_wp2
        go_roundw
        case rel => exact ⟨i + 1, by omega, by go_num, by rw [HJ.out]; exact (HA2.out.set0 u0).set1 u1, (HO2.out.other _ _ (by simp)).other _ _ (by simp), (HB2.out.setCell (p := ⟨B + 1 + 1, 0, none⟩) (by have := HBe.out; simp; omega) _).setCell (p := ⟨B + 1 + 1, 1, none⟩) (by have := HBe.out; simp; omega) _, (heap_setCell_other _ _ _ _ (by simp; omega)).trans ((heap_setCell_other _ _ _ _ (by simp; omega)).trans HR2.out)⟩
        case measure => simp [intOf]; omega
    · obtain rfl : i = m := by omega
      rw [List.take_of_length_le (by omega)] at hA
      obtain ⟨⟨j0, j1⟩, hj⟩ : ∃ z, knownS cs = z := ⟨_, rfl⟩
      rw [hj] at hA
      simp only at hA
      have a0 := hA.c0
      have a1 := hA.c1
      have o0 := hO.c0
      have o1 := hO.c1
      have z0 := hO.fz 0
      have z1 := hO.fz 1
      have HJ := Lib.hid hj
      have HO := Lib.hid hO
      have HB := Lib.hid hB
      clear hA hO hB hr hj
      go_wp2
      refine bodyPost_ret (results_cell_row rfl _ _ (B + 1) 44 _ (0, 0) _ rfl ((HO.out.set0 j0).set1 j1) Tryd.underlying44 rfl (size2 _ _)) rfl ⟨by rw [HJ.out], (HB.out.setCell (p := ⟨B + 1, 0, none⟩) (by have := HBe.out; simp; omega) _).setCell (p := ⟨B + 1, 1, none⟩) (by have := HBe.out; simp; omega) _⟩
end Go.Proofs.YtkjpmdpljdgcjaaDoor
end

section
/-
  Row: fields, and what a view holds.
-/
namespace Go.Proofs.YtkjpmdpljdgcjaaDoor
open Go.RowKit Go Go.Sort
set_option linter.unusedVariables false
set_option maxRecDepth 20000

abbrev Fld := Int × List UInt8
/-- What is to be seen of a group. -/
def seenAt (gs : List Grp) (cs : List Cl) (i : Nat) : List UInt8 × Bool := cseenS (gs.getD i ([], 0)).2 (cs.getD i Cl.zero).n (cs.getD i Cl.zero).s (cs.getD i Cl.zero).a (cs.getD i Cl.zero).b (cs.getD i Cl.zero).g (cs.getD i Cl.zero).t (cs.getD i Cl.zero).d (cs.getD i Cl.zero).e
def fieldsN (gs : List Grp) (cs : List Cl) : Nat → List Fld
  | 0 => []
  | k + 1 => if (seenAt gs cs k).2 = true then fieldsN gs cs k ++ [((k : Int), (seenAt gs cs k).1)] else fieldsN gs cs k
theorem fieldsN_le (gs : List Grp) (cs : List Cl) : ∀ k, (fieldsN gs cs k).length ≤ k
  | 0 => Nat.le_refl _
  | k + 1 => by
    have := fieldsN_le gs cs k
    unfold fieldsN
    split
    · rw [List.length_append, List.length_singleton]; omega
    · omega
theorem fieldsN_yes {gs : List Grp} {cs : List Cl} {k : Nat} (h : (seenAt gs cs k).2 = true) : fieldsN gs cs (k + 1) = fieldsN gs cs k ++ [((k : Int), (seenAt gs cs k).1)] := by
  show (if _ then _ else _) = _; rw [if_pos h]
theorem fieldsN_no {gs : List Grp} {cs : List Cl} {k : Nat} (h : (seenAt gs cs k).2 = false) : fieldsN gs cs (k + 1) = fieldsN gs cs k := by
  show (if _ then _ else _) = _; rw [if_neg (by rw [h]; decide)]
def viewS (gs : List Grp) (key : List UInt8) (cs : List Cl) : List UInt8 × List Fld × Bool :=
  if rgoodS gs key cs = 0 ∧ (fieldsN gs cs gs.length).length ≠ 0 then (key, fieldsN gs cs gs.length, true) else ([], [], false)
theorem view_bad {gs : List Grp} {key : List UInt8} {cs : List Cl} (h : ¬ rgoodS gs key cs = 0) : viewS gs key cs = ([], [], false) := by unfold viewS; rw [if_neg (fun hh => h hh.1)]
theorem view_none {gs : List Grp} {key : List UInt8} {cs : List Cl} (h : (fieldsN gs cs gs.length).length = 0) : viewS gs key cs = ([], [], false) := by unfold viewS; rw [if_neg (fun hh => hh.2 h)]
theorem view_some {gs : List Grp} {key : List UInt8} {cs : List Cl} (h : rgoodS gs key cs = 0) (h2 : (fieldsN gs cs gs.length).length ≠ 0) : viewS gs key cs = (key, fieldsN gs cs gs.length, true) := by unfold viewS; rw [if_pos ⟨h, h2⟩]
def fCells (l : List Fld) : List Value := l.flatMap (fun g => [.int .i64 g.1, .string (text g.2)])
theorem fCells_append (l m : List Fld) : fCells (l ++ m) = fCells l ++ fCells m := by simp [fCells]
theorem fCells_get : ∀ (l : List Fld) (i : Nat), i < l.length → (fCells l)[i * 2]? = some (.int .i64 (l.getD i (0, [])).1) ∧ (fCells l)[i * 2 + 1]? = some (.string (text (l.getD i (0, [])).2))
  | [], i, h => by simp at h
  | g :: r, 0, _ => ⟨rfl, rfl⟩
  | g :: r, i + 1, h => by
    have := fCells_get r i (by simpa using h)
    have e1 : (i + 1) * 2 = i * 2 + 1 + 1 := by omega
    have e2 : (i + 1) * 2 + 1 = i * 2 + 1 + 1 + 1 := by omega
    rw [e2, e1]
    exact this
/-- A list of fields that lies in memory. -/
structure Flds (w : World) (a : Option Addr) (n cap : Nat) (l : List Fld) : Prop where
  len : l.length = n
  le : n ≤ cap
  max : cap ≤ 9223372036854775807
  adr : cap = 0 ∨ ∃ b off, a = some ⟨b, off, none⟩ ∧ ∀ i, i < n → w.cell? ⟨b, off + i * 2, none⟩ = some (.int .i64 (l.getD i (0, [])).1) ∧ w.cell? ⟨b, off + i * 2 + 1, none⟩ = some (.string (text (l.getD i (0, [])).2))
theorem Flds.below {w w' : World} {a : Option Addr} {n cap : Nat} {l : List Fld} (h : Flds w a n cap l) (hb : Below w.heap.size w w') : Flds w' a n cap l := by
  refine ⟨h.len, h.le, h.max, ?_⟩
  rcases h.adr with h4 | ⟨b, off, rfl, hc⟩
  · exact .inl h4
  · refine .inr ⟨b, off, rfl, fun i hi => ?_⟩
    obtain ⟨h1, h2⟩ := hc i hi
    exact ⟨by rw [hb.cell (World.block_lt_of_cell? w _ h1)]; exact h1, by rw [hb.cell (World.block_lt_of_cell? w _ h2)]; exact h2⟩
theorem Flds.at {w : World} {a : Option Addr} {n cap : Nat} {l : List Fld} (h : Flds w a n cap l) {k : Nat} (hk : k < n) :
    ∃ b off, a = some ⟨b, off, none⟩ ∧ ∀ W, Below w.heap.size w W → W.cell? ⟨b, off + k * 2, none⟩ = some (.int .i64 (l.getD k (0, [])).1) ∧ W.cell? ⟨b, off + k * 2 + 1, none⟩ = some (.string (text (l.getD k (0, [])).2)) := by
  have := h.le
  rcases h.adr with h4 | ⟨b, off, rfl, hc⟩
  · omega
  · exact ⟨b, off, rfl, fun W hb => ⟨by rw [hb.cell (World.block_lt_of_cell? w _ (hc k hk).1)]; exact (hc k hk).1, by rw [hb.cell (World.block_lt_of_cell? w _ (hc k hk).2)]; exact (hc k hk).2⟩⟩
/-- A slice of the call's own that reads as the fields l. -/
def OwnF (w : World) (B : Nat) (v : Value) (l : List Fld) : Prop := w.ownsRow B 85 2 v l.length (fCells l)
theorem OwnF.nil (w : World) (B : Nat) : OwnF w B (.slice none 0 0) [] := World.ownsRow_nil _ _ _ _
theorem OwnF.flds {w : World} {B : Nat} {v : Value} {l : List Fld} (h : OwnF w B v l) : ∃ a cap, v = .slice a l.length cap ∧ Flds w a l.length cap l := by
  obtain ⟨h1, h2⟩ := h
  rcases h2 with ⟨rfl, hn⟩ | ⟨g, cap, cur, rfl, hb, hg, hnc, hcm, hcs, htake⟩
  · exact ⟨none, 0, by rw [hn], rfl, by omega, by omega, .inl rfl⟩
  · refine ⟨_, cap, rfl, rfl, hnc, by unfold maxLen at hcm; omega, .inr ⟨g, 0, rfl, fun i hi => ?_⟩⟩
    obtain ⟨c1, c2⟩ := fCells_get l i hi
    rw [← htake, List.getElem?_take, if_pos (by omega)] at c1
    rw [← htake, List.getElem?_take, if_pos (by omega)] at c2
    rw [Nat.zero_add, cell_of_row w g _ cur _ (0, 0) hg, cell_of_row w g _ cur _ (0, 0) hg]
    exact ⟨by rw [← c1]; simp, by rw [← c2]; simp⟩
theorem OwnF.kept {w w' : World} {B : Nat} {v : Value} {l : List Fld} (h : OwnF w B v l) (hb : Below w.heap.size w w') : OwnF w' B v l := own_kept h hb
theorem OwnF.mono {w : World} {B B' : Nat} {v : Value} {l : List Fld} (h : OwnF w B v l) (hB : B' ≤ B) : OwnF w B' v l := own_mono h hB
theorem Tryd.infoF : (Tryd.prog.info? 85).map (fun i => (i.zero, i.size, i.bytes)) = some (some (.agg #[.int .i64 0, .string ⟨#[]⟩]), 2, 24) := by kernel_rfl
/-- What a view tells. -/
def ViewPost (r : List UInt8 × List Fld × Bool) (w : World) (e : Ending) (w' : World) : Prop :=
  ∃ fv, e = .returned (.tuple #[.agg #[.string (text r.1), fv], .bool r.2.2]) ∧ OwnF w' w.heap.size fv r.2.1 ∧ Below w.heap.size w w'
end Go.Proofs.YtkjpmdpljdgcjaaDoor
end

section
/-
  Row: the program's View.
-/
namespace Go.Proofs.YtkjpmdpljdgcjaaDoor
open Go.RowKit Go Go.Sort
set_option linter.unusedVariables false
set_option maxRecDepth 20000

theorem view_set {W : World} {q : Nat} {k0 : ByteArray} {v0 : Value} (h : W.heap[q]? = some (.cells #[.string k0, v0] 35 (0, 0))) (k : ByteArray) (v : Value) :
    ((W.setCell ⟨q, 0, none⟩ (.string k)).setCell ⟨q, 1, none⟩ v).heap[q]? = some (.cells #[.string k, v] 35 (0, 0)) := by
  have h0 : (W.setCell ⟨q, 0, none⟩ (.string k)).heap[q]? = some (.cells #[.string k, v0] 35 (0, 0)) := (heap_setCell_same _ q 0 _ _ _ h).trans rfl
  exact (heap_setCell_same _ q 1 _ _ _ h0).trans rfl
theorem own_set {W : World} {q i B s k : Nat} {e t : TypeId} {cs : Array Value} {fr : Nat × Nat} {v u : Value} {xs : List Value} (h : W.heap[q]? = some (.cells cs t fr)) (ht : t ≠ e) (ho : W.ownsRow B e s v k xs) : (W.setCell ⟨q, i, none⟩ u).ownsRow B e s v k xs := by
  refine ⟨ho.1, ?_⟩
  rcases ho.2 with hn | ⟨g, cap, cur, rfl, hB, hg, rest⟩
  · exact .inl hn
  · exact .inr ⟨g, cap, cur, rfl, hB, (Below.heap_setCell W ⟨q, i, none⟩ u g (fun e' => by subst e'; rw [h] at hg; cases hg; exact ht rfl)).trans hg, rest⟩
/-- append(v, f), v of the call's own, fenced. -/
theorem wpListIn_append_fld {F : Fence} {n' : Nat} {w : World} {ops : Array Oper} {rest : List Oper} {o : Oper} {a : Act} {Q : Exit → Act → World → Prop} (hgd : o.guard = none) (s x : Operand)
    (ho : o.op = .call { callee := .builtin .append, args := #[s, x], argTypes := #[33, 33] })
    {base : Nat} {v : Value} {l : List Fld} (hs : a.eval s = v) (hown : OwnF w base v l) {t : ByteArray} (g : List UInt8) {p : Int} (ht : t = text g) {e : TypeId}
    (hx : a.eval x = .slice (some ⟨w.heap.size, 0, none⟩) 1 1) (h63 : l.length ≤ 1000000000) (hbase : base ≤ w.heap.size)
    (h : ∀ g' cap' w', OwnF w' base (.slice (some ⟨g', 0, none⟩) (l.length + 1) cap') (l ++ [(p, g)]) → (w.alloc (.cells #[.int .i64 p, .string t] e)).grownBy w' v.ownBlock → wpListIn F n' Tryd.prog ops Q rest (a.put o.dst (.slice (some ⟨g', 0, none⟩) (l.length + 1) cap')) w') :
    wpListIn F n' Tryd.prog ops Q (o :: rest) a (w.alloc (.cells #[.int .i64 p, .string t] e)) := by
  subst ht
  obtain ⟨i0, hi, hz0, hz1, hz2⟩ := info_parts Tryd.infoF
  refine wpListIn_append_own (P := Tryd.prog) (w.alloc (.cells #[.int .i64 p, .string (text g)] e)) hgd s x 33 ho base 85 i0 _ 2 24 Tryd.underlying33 hi hz0 hz1 hz2 rfl (by decide) v l.length (fCells l) hs (World.ownsRow.alloc hown _)
    ⟨w.heap.size, 0, none⟩ 1 1 [.int .i64 p, .string (text g)] hx rfl ?_ ?_ (by unfold maxLen; omega) (by omega) (by simp; omega) ?_
  · intro j u hj
    rw [addr_add, Nat.zero_add, cell_of_row _ _ j #[.int .i64 p, .string (text g)] e (0, 0) (by rw [heap_alloc_new])]
    rw [← hj]; simp
  · intro u hu
    simp only [List.mem_cons, List.not_mem_nil, or_false] at hu
    rcases hu with rfl | rfl <;> rfl
  · intro v' w' h2 h3 _
    obtain ⟨g', cap', rfl⟩ := ownsRow_succ h2
    refine h g' cap' w' ?_ h3
    unfold OwnF
    rw [List.length_append, fCells_append]
    exact h2
attribute [local go_sem] Oper.semAt_some
/-- Between two rounds. -/
def ViewI (gs : List Grp) (cs : List Cl) (ro : Obj) (n₀ B G0 base : Nat) (w : World) (xs : List Nat) (W : World) : Prop :=
  ∃ vb, Boxed W G0 33 vb ∧ W.ownsRow base 85 2 vb (fieldsN gs cs xs.length).length (fCells (fieldsN gs cs xs.length)) ∧ W.heap[B]? = some ro ∧ W.heap[B + 1]? = some (.cells #[.string ⟨#[]⟩, .slice none 0 0] 35 (0, 0)) ∧ Below n₀ w W ∧ base ≤ W.heap.size
theorem ViewI.own {gs : List Grp} {cs : List Cl} {rc : Array Value} {n₀ B G0 base B9 : Nat} {w : World} (h1 : n₀ ≤ B9) (h2 : n₀ ≤ base) : OwnT B9 87 (ViewI gs cs (.cells rc 25 (0, 0)) n₀ B G0 base w) := by
  rintro xs X Y row ⟨vb, hb, ho, hr1, hv, hw, hs⟩ hg hr
  exact ⟨vb, turn_keep hg hr hb (by decide), turn_row hg hr ho (by decide), turn_keep hg hr hr1 (by decide), turn_keep hg hr hv (by decide), turn_below hg hr h1 (Nat.le_trans h2 hs) hw, Nat.le_trans hs hg.size⟩

set_option maxRecDepth 100000 in
set_option maxHeartbeats 6400000 in
theorem view_c {w : World} {x x2 : Option Addr} {n1 cap m cap2 : Nat} {gs : List Grp} {cs : List Cl} (hg : Grs w x n1 cap gs) (hs : ∀ g ∈ gs, g.1.length ≤ 9223372036854775807)
    (hl : Cls w x2 m cap2 cs) (hx : ∀ c ∈ cs, c.t.length ≤ 9223372036854775807) (key : List UInt8) (hk : key.length ≤ 9223372036854775807) :
    Calls Tryd.prog 12 #[.slice x n1 cap, .agg #[.string (text key), .slice x2 m cap2]] w (ViewPost (viewS gs key cs) w) := by
  have hgl := hg.len
  have hll := hl.len
  have hle1 := hg.le
  have hmax1 := hg.max
  have hle2 := hl.le
  have hmax2 := hl.max
  have hGD := fun W (h : Below w.heap.size w W) => rowgood_c (hg.below h) hs (hl.below h) hx key hk
  have H0 := Lib.hid (@view_bad gs key cs)
  have H1 := Lib.hid (@view_none gs key cs)
  have H2 := Lib.hid (@view_some gs key cs)
  have HIN := Lib.hid (@rgood_inv gs key cs)
  obtain ⟨RV, hRV⟩ : ∃ z, viewS gs key cs = z := ⟨_, rfl⟩
  obtain ⟨R, hR⟩ : ∃ z, rgoodS gs key cs = z := ⟨_, rfl⟩
  rw [hR] at H0 H2 HIN
  simp only [hR] at hGD
  rw [hRV] at H0 H1 H2 ⊢
  have hT0 : text ([] : List UInt8) = ⟨#[]⟩ := rfl
  obtain ⟨tk, htk⟩ : ∃ z, text key = z := ⟨_, rfl⟩
  rw [htk] at hGD ⊢
  have HTK := Lib.hid htk
  have hB1 := (alloc_below w (.cells #[.string tk, .slice x2 m cap2] 25)).alloc (by simp) (.cells #[.string ⟨#[]⟩, .slice none 0 0] 35)
  have hr1 : ((w.alloc (.cells #[.string tk, .slice x2 m cap2] 25)).alloc (.cells #[.string ⟨#[]⟩, .slice none 0 0] 35)).heap[w.heap.size]? = some (.cells #[.string tk, .slice x2 m cap2] 25 (0, 0)) := (Below.heap_alloc _ _ _ (by simp)).trans (heap_alloc_new w _)
  have he1 := heap_alloc_new (w.alloc (.cells #[.string tk, .slice x2 m cap2] 25)) (.cells #[.string ⟨#[]⟩, .slice none 0 0] 35)
  rw [World.size_alloc] at he1
  have HGD := Lib.hid (hGD _ hB1)
  clear hRV hR hGD htk hk
  refine (callsIn_wide (n := 3)).1 ?_
  refine callsIn_of_wp_marks Tryd.func12 rfl trivial ?_ rfl
  simp only [Tryd.ntmps12, List.size_toArray, List.length_cons, List.length_nil, Nat.reduceAdd, Nat.reduceSub, Array.replicate_succ, Array.replicate_zero, List.push_toArray, List.append_toArray, List.nil_append, List.cons_append]
  gi_wp2_with fail
  refine ⟨trivial, (callsIn_wide.2 HGD.out).mono ?_⟩
  rintro e w2 ⟨rfl, hb2⟩
  have hr2 := (hb2.block _ (Array.getElem?_eq_some_iff.1 hr1).1).trans hr1
  have he2 := (hb2.block _ (Array.getElem?_eq_some_iff.1 he1).1).trans he1
  have hB2 := hB1.trans (hb2.mono hB1.size)
  clear hr1 he1 hB1 hb2 HGD
  obtain ⟨B, hB⟩ : ∃ q, w.heap.size = q := ⟨_, rfl⟩
  have HBe := Lib.hid hB
  rw [hB] at hr2 he2 ⊢
  clear hB
  have v0 : w2.cell? ⟨B + 1, 0, none⟩ = some (.string ⟨#[]⟩) := by rw [cell_of_row _ (B + 1) 0 _ _ (0, 0) he2]; rfl
  have v1 : w2.cell? ⟨B + 1, 1, none⟩ = some (.slice none 0 0) := by rw [cell_of_row _ (B + 1) 1 _ _ (0, 0) he2]; rfl
  have vf : ∀ i, w2.frozen? ⟨B + 1, i, none⟩ = false := fun i => frozen_of_row _ (B + 1) i _ _ he2
  have HE2 := Lib.hid he2
  have HR2 := Lib.hid hr2
  have HB2 := Lib.hid hB2
  have HSET := Lib.hid (fun (W : World) (h : W.heap[B + 1]? = some (.cells #[.string ⟨#[]⟩, .slice none 0 0] 35 (0, 0))) (k : ByteArray) (v : Value) => view_set h k v)
  clear hr2 he2 hB2
  by_cases h0 : R = 0
  · subst h0
    obtain ⟨hp0, hk0, hlen, hcg⟩ := HIN.out rfl
    obtain rfl : m = n1 := by omega
    clear HIN v0 v1 vf
    have hrA : (w2.alloc (.cells #[.slice none 0 0] 33)).heap[B]? = some (.cells #[.string tk, .slice x2 m cap2] 25 (0, 0)) := (Below.heap_alloc w2 (.cells #[.slice none 0 0] 33) B (Array.getElem?_eq_some_iff.1 HR2.out).1).trans HR2.out
    have r0 : (w2.alloc (.cells #[.slice none 0 0] 33)).cell? ⟨B, 0, none⟩ = some (.string tk) := by rw [cell_of_row _ B 0 _ _ (0, 0) hrA]; rfl
    have r1 : (w2.alloc (.cells #[.slice none 0 0] 33)).cell? ⟨B, 1, none⟩ = some (.slice x2 m cap2) := by rw [cell_of_row _ B 1 _ _ (0, 0) hrA]; rfl
    clear hrA
    gi_wp2_with fail
    refine ⟨trivial, (callsIn_wide.2 places_c).mono ?_⟩
    rintro e w1 ⟨rfl, rfl⟩
    clear r0 r1
    gi_wp2_with fail
    have bF := heap_alloc_new w2 (.cells #[.slice none 0 0] 33)
    have bL := heap_alloc_new (w2.alloc (.cells #[.slice none 0 0] 33)) (.cells #[.slice x m cap] 22)
    have bR := heap_alloc_new ((w2.alloc (.cells #[.slice none 0 0] 33)).alloc (.cells #[.slice x m cap] 22)) (.cells #[.string tk, .slice x2 m cap2] 25)
    replace bL := (Below.heap_alloc ((w2.alloc (.cells #[.slice none 0 0] 33)).alloc (.cells #[.slice x m cap] 22)) (.cells #[.string tk, .slice x2 m cap2] 25) (w2.alloc (.cells #[.slice none 0 0] 33)).heap.size (by simp)).trans bL
    replace bF := (Below.heap_alloc ((w2.alloc (.cells #[.slice none 0 0] 33)).alloc (.cells #[.slice x m cap] 22)) (.cells #[.string tk, .slice x2 m cap2] 25) w2.heap.size (by simp; omega)).trans ((Below.heap_alloc (w2.alloc (.cells #[.slice none 0 0] 33)) (.cells #[.slice x m cap] 22) w2.heap.size (by simp)).trans bF)
    simp only [World.size_alloc] at bR bL
    have hbW := ((alloc_below w2 (.cells #[.slice none 0 0] 33)).alloc (by simp) (.cells #[.slice x m cap] 22)).alloc (by simp; omega) (.cells #[.string tk, .slice x2 m cap2] 25)
    have hsz : (((w2.alloc (.cells #[.slice none 0 0] 33)).alloc (.cells #[.slice x m cap] 22)).alloc (.cells #[.string tk, .slice x2 m cap2] 25)).heap.size = w2.heap.size + 1 + 1 + 1 := by simp
    have hlt2 : B + 1 < w2.heap.size := (Array.getElem?_eq_some_iff.1 HE2.out).1
    obtain ⟨W0, hW0⟩ : ∃ W0, ((w2.alloc (.cells #[.slice none 0 0] 33)).alloc (.cells #[.slice x m cap] 22)).alloc (.cells #[.string tk, .slice x2 m cap2] 25) = W0 := ⟨_, rfl⟩
    rw [hW0] at bF bL bR hbW hsz ⊢
    clear hW0
    have hB0 := HB2.out.trans (hbW.mono HB2.out.size)
    have hE0 := (hbW.block _ (Array.getElem?_eq_some_iff.1 HE2.out).1).trans HE2.out
    have hR0 := (hbW.block _ (Array.getElem?_eq_some_iff.1 HR2.out).1).trans HR2.out
    obtain ⟨G0, hG⟩ : ∃ q, w2.heap.size = q := ⟨_, rfl⟩
    rw [hG] at bF bL bR hsz hlt2 ⊢
    have HSZ := Lib.hid hsz
    have hml := pgood_len hp0
    clear hG hbW
    refine wpIn_range_tells (F := Fence.wide) rfl (by omega) (gf := 62) (lb := #[.pointer (some ⟨G0 + 1, 0, none⟩), .pointer (some ⟨G0 + 1 + 1, 0, none⟩)]) rfl trivial (enters_of Tryd.func62 (by kernel_rfl) rfl)
      (places_tells hg hl hB0 2 (G0 + 1) (G0 + 1 + 1) (by omega) (by omega) bL bR) KP.trans (fun W l o o' hl h ho _ => KP.putObj W l o o' (by have := hB0.size; omega) (by rintro k (rfl | rfl) <;> omega) h)
      (fun xs X Y row hs hg hr => hs) (fun xs X Y row hs hg hr => hs) (fun _ => rfl)
      (ViewI gs cs (.cells #[.string tk, .slice x2 m cap2] 25 (0, 0)) w.heap.size B G0 W0.heap.size w) (fun _ _ _ => False) (ViewI.own hB0.size hB0.size) (fun c xs X Y row hs hg hr => hs)
      ⟨_, bF, World.ownsRow_nil _ _ _ _, hR0, hE0, hB0, Nat.le_refl _⟩
      (PlaceA gs cs (fun q k => #[.slice x m cap, .agg #[.string tk, .slice x2 m cap2], undef, .pointer (some ⟨B, 0, none⟩), .pointer (some ⟨B + 1, 0, none⟩), .bool false, .pointer (some ⟨G0, 0, none⟩), .pointer (some ⟨q, 0, none⟩), undef, undef, .slice x m cap, .agg #[.string tk, .slice x2 m cap2], .int .i64 0, .bool false, undef, .slice x m cap, .agg #[.string tk, .slice x2 m cap2], .func (.func 62) #[] #[.pointer (some ⟨G0 + 1, 0, none⟩), .pointer (some ⟨G0 + 1 + 1, 0, none⟩)], .agg (placeA gs cs k), undef, undef, undef, undef, undef, undef, undef, undef, undef, undef, undef, undef, undef, undef, undef, undef, undef, undef, undef, undef, undef, undef, undef, undef])) (fun k a' => PlaceA.own k a') ?assign ?body ?done ?stop
    case assign =>
      rintro q pre k W K hI - hK
      obtain ⟨vb, hb, ho, hr1, hv, hw, hs⟩ := hI
      obtain ⟨y, hck⟩ : ∃ y, cs.getD k Cl.zero = y := ⟨_, rfl⟩
      dsimp only [penc]
      rw [hck]
      obtain ⟨n, s, a, b, g, t, d, e⟩ := y
      dsimp only
      gi_wp2
      have h3 := HSZ.out
      refine hK _ _ ((KeepsOthers.alloc _ _).from _) (KP.of_below (by have := hB0.size; omega) ((Below.refl _ W).alloc (Nat.le_refl _) _)) ((ViewI.own (B9 := W0.heap.size) hB0.size hB0.size).from.alloc _ ⟨vb, hb, ho, hr1, hv, hw, hs⟩) ⟨W.heap.size, ?_, ?_⟩
      · unfold placeA; rw [hck]; exact heap_alloc_new W _
      · dsimp only; unfold placeA; rw [hck]; rfl
    case body =>
      rintro q pre k a' W ⟨vb, hb, ho, hr1, hv, hw, hs⟩ ⟨g9, hpq, rfl⟩ ⟨rfl, hlt⟩
      obtain ⟨k, hkp⟩ : ∃ k, pre.length = k := ⟨_, rfl⟩
      rw [hkp] at hlt hpq ho ⊢
      unfold placeA at hpq
      dsimp only [placeA]
      have hcx := hx (cs.getD k Cl.zero) (mem_getDd (by omega))
      have hC := fun W => cseen_c (gs.getD k ([], 0)).2 (cs.getD k Cl.zero).n (cs.getD k Cl.zero).s (cs.getD k Cl.zero).a (cs.getD k Cl.zero).b (cs.getD k Cl.zero).g (cs.getD k Cl.zero).t (cs.getD k Cl.zero).d (cs.getD k Cl.zero).e hcx W
      have hcg : seenAt gs cs k = cseenS (gs.getD k ([], 0)).2 (cs.getD k Cl.zero).n (cs.getD k Cl.zero).s (cs.getD k Cl.zero).a (cs.getD k Cl.zero).b (cs.getD k Cl.zero).g (cs.getD k Cl.zero).t (cs.getD k Cl.zero).d (cs.getD k Cl.zero).e := rfl
      have hFY := @fieldsN_yes gs cs k
      have hFN := @fieldsN_no gs cs k
      have hnl := fieldsN_le gs cs k
      obtain ⟨⟨C1, C2⟩, hCC⟩ : ∃ z, seenAt gs cs k = z := ⟨_, rfl⟩
      rw [hCC] at hFY hFN
      rw [← hcg, hCC] at hC
      dsimp only at hFY hFN hC
      obtain ⟨tc, htc⟩ : ∃ z, text C1 = z := ⟨_, rfl⟩
      rw [htc] at hC
      have HTC := Lib.hid htc
      have HFY := Lib.hid hFY
      have HFN := Lib.hid hFN
      have HNL := Lib.hid hnl
      have HC := Lib.hid hC
      clear hcg hC hCC hcx hFY hFN hnl htc
      obtain ⟨⟨nm, pk⟩, hgk⟩ : ∃ y, gs.getD k ([], 0) = y := ⟨_, rfl⟩
      obtain ⟨y, hck⟩ : ∃ y, cs.getD k Cl.zero = y := ⟨_, rfl⟩
      rw [hgk, hck] at hpq HC ⊢
      obtain ⟨n, s, a, b, g, t, d, e⟩ := y
      dsimp only at hpq HC ⊢
      have e0 : W.cell? ⟨g9, 1, none⟩ = some (.int .i64 pk) := by rw [cell_of_row _ g9 1 _ _ (0, 0) hpq]; rfl
      obtain ⟨c0, c1, c2, c3, c4, c5, c6, c7⟩ := place_cells hpq
      have HH := Lib.hid (And.intro hb (And.intro ho (And.intro hr1 (And.intro hv (And.intro hw (And.intro hs hpq))))))
      clear hb ho hr1 hv hw hs hgk hck hpq
      gi_wp2_with fail
      refine ⟨trivial, (CallsIn.inRound q (callsIn_wide.2 (HC.out W))).mono ?_⟩
      rintro e w1 ⟨rfl, hb1⟩
      obtain ⟨hb, ho, hr1, hv, hw, hs, hpq⟩ := HH.out
      have h3 := HSZ.out
      have hwsz := hB0.size
      clear e0 c0 c1 c2 c3 c4 c5 c6 c7
      cases C2 with
      | false =>
        have HST2 := Lib.hid (HFN.out rfl)
        have HR := Lib.hid (show RoundPost W0.heap.size (KP w.heap.size (two9 (G0 + 1) (G0 + 1 + 1))) (fun _ => True) (ViewI gs cs (.cells #[.string tk, .slice x2 m cap2] 25 (0, 0)) w.heap.size B G0 W0.heap.size w) (fun _ _ _ => False) pre k W .normal { tmps := #[], defers := [] } w1 from
          ⟨below_keeps hb1, KP.of_below (by omega) hb1, trivial, ⟨vb, (hb1.block _ hb.lt).trans hb, by rw [List.length_append, List.length_singleton, hkp, HST2.out]; exact own_kept ho hb1, (hb1.block _ (Array.getElem?_eq_some_iff.1 hr1).1).trans hr1, (hb1.block _ (Array.getElem?_eq_some_iff.1 hv).1).trans hv, hw.trans (hb1.mono (by omega)), Nat.le_trans hs hb1.size⟩⟩)
        clear hb ho hr1 hv hw hs hpq
        gi_wp2
        exact HR.out
      | true =>
        have HST2 := Lib.hid (HFY.out rfl)
        have hb1x : Boxed w1 G0 33 vb := (hb1.block _ hb.lt).trans hb
        have ho1 : OwnF w1 W0.heap.size vb (fieldsN gs cs k) := own_kept ho hb1
        have hr1x := (hb1.block _ (Array.getElem?_eq_some_iff.1 hr1).1).trans hr1
        have hv1x := (hb1.block _ (Array.getElem?_eq_some_iff.1 hv).1).trans hv
        have hw1 := hw.trans (hb1.mono (by omega))
        have h4 := hb1.size
        have hpq1 := (hb1.block _ (Array.getElem?_eq_some_iff.1 hpq).1).trans hpq
        have e0 : w1.cell? ⟨g9, 0, none⟩ = some (.int .i64 (k : Int)) := by rw [cell_of_row _ g9 0 _ _ (0, 0) hpq1]; rfl
        have cb := hb1x.cell
        have hnx : (fieldsN gs cs k).length ≤ 1000000000 := by have := HNL.out; omega
        obtain ⟨Z, hZ⟩ : ∃ z, fieldsN gs cs k = z := ⟨_, rfl⟩
        rw [hZ] at ho1 hnx HST2
        have HBX := Lib.hid hb1x
        have HO1 := Lib.hid ho1
        have HX1 := Lib.hid hr1x
        have HV1 := Lib.hid hv1x
        have HW1 := Lib.hid hw1
        have HB01 := Lib.hid hb1
        have HS := Lib.hid hs
        have H4 := Lib.hid h4
        clear hb ho hr1 hv hw hb1 hb1x hr1x hv1x hw1 hZ hpq hpq1 hs h4
        gi_wp2_with (gi_at_builtin; refine wpListIn_append_fld rfl _ _ rfl (v := vb) rfl HO1.out C1 HTC.out.symm rfl hnx (by have := HS.out; have := H4.out; omega) ?_; intro g' cap' w2' hown' hgrow; have hx2 : Boxed w2' G0 33 vb := (HBX.out.alloc _).kept hgrow (HBX.out.not_row (by decide) HO1.out); have hL : LeavesT 85 (fun j => j = G0) W0.heap.size w1 w2' := (LeavesT.alloc w1 _).trans (LeavesT.append (HO1.out.alloc _) hgrow); have cx2 := hx2.cell; have fx2 := hx2.frozen)
        have hL2 := (LeavesT.below HB01.out).trans (hL.trans (LeavesT.setCell (Bs := fun j => j = G0) w2' (B := G0) rfl (.slice (some ⟨g', 0, none⟩) (Z.length + 1) cap')))
        obtain ⟨hb, ho, hr1, hv, hw, hs, hpq⟩ := HH.out
        have h4 := H4.out
        have hb3 := (((Below.refl w.heap.size w1).alloc (by omega) _).grown hgrow (by simp; omega) (fun k e => by have := (World.ownsRow.lt HO1.out k e).1; omega)).setCell (p := ⟨G0, 0, none⟩) (by have := HBe.out; simp; omega) (.slice (some ⟨g', 0, none⟩) (Z.length + 1) cap')
        have ho2 := own_set (i := 0) (u := .slice (some ⟨g', 0, none⟩) (Z.length + 1) cap') hx2 (by decide) hown'
        refine ⟨hL2.keeps (by rintro j rfl; omega), ⟨(HB01.out.mono (by omega)).trans hb3, fun j o hj ho => hL2.same j o ho (by rcases hj with rfl | rfl <;> omega) (.inl (by rcases hj with rfl | rfl <;> omega))⟩, trivial, ⟨_, hx2.set _, ?_, hL2.same _ _ hr1 (by omega) (.inl (by omega)), hL2.same _ _ hv (by omega) (.inl (by omega)), HW1.out.trans hb3, Nat.le_trans hs hL2.size⟩⟩
        rw [List.length_append, List.length_singleton, hkp, HST2.out]
        exact ho2
    case done =>
      rintro D xs W hD hxs ⟨vb, hb, ho, hr1, hv, hw, hs⟩ hK
      have hlx : xs.length = gs.length := by omega
      rw [hlx] at ho
      obtain ⟨a9, cap9, rfl, -⟩ := OwnF.flds ho
      have cb := hb.cell
      have r0 : W.cell? ⟨B, 0, none⟩ = some (.string tk) := by rw [cell_of_row _ B 0 _ _ (0, 0) hr1]; rfl
      have v0 : W.cell? ⟨B + 1, 0, none⟩ = some (.string ⟨#[]⟩) := by rw [cell_of_row _ (B + 1) 0 _ _ (0, 0) hv]; rfl
      have v1 : W.cell? ⟨B + 1, 1, none⟩ = some (.slice none 0 0) := by rw [cell_of_row _ (B + 1) 1 _ _ (0, 0) hv]; rfl
      have vf : ∀ i, W.frozen? ⟨B + 1, i, none⟩ = false := fun i => frozen_of_row _ (B + 1) i _ _ hv
      have HDB := Lib.hid (show B + 1 < D by have := HSZ.out; omega)
      have HFIN := Lib.hid (fun (X : World) (k0 : ByteArray) (u : Value) (hX : X = ((W.setCell ⟨B + 1, 0, none⟩ (.string k0)).setCell ⟨B + 1, 1, none⟩ u)) => 
        And.intro (show (X.putObj D (.deferred none)).heap[B + 1]? = some (.cells #[.string k0, u] 35 (0, 0)) by
          subst hX
          exact (World.putObj_heap_other (by have := HDB.out; omega)).trans (HSET.out W hv k0 u))
        (show Below w.heap.size w (X.putObj D (.deferred none)) by
          have hkX : X.heap[D]? = some (.deferred (some [])) := by
            subst hX
            exact (Below.heap_setCell _ ⟨B + 1, 1, none⟩ u D (by have := HDB.out; simp; omega)).trans ((Below.heap_setCell _ ⟨B + 1, 0, none⟩ (.string k0) D (by have := HDB.out; simp; omega)).trans hK)
          have hwX : Below w.heap.size w X := by
            subst hX
            exact (hw.setCell (p := ⟨B + 1, 0, none⟩) (by have := HBe.out; simp; omega) _).setCell (p := ⟨B + 1, 1, none⟩) (by have := HBe.out; simp; omega) _
          exact hwX.trans (belowK_b (w := w) (Nat.le_refl _) X D _ _ (by have := HDB.out; have := HBe.out; omega) hkX rfl rfl)))
      have HKX := Lib.hid (fun (k0 : ByteArray) (u : Value) => (show ((W.setCell ⟨B + 1, 0, none⟩ (.string k0)).setCell ⟨B + 1, 1, none⟩ u).heap[D]? = some (.deferred (some [])) from (Below.heap_setCell _ ⟨B + 1, 1, none⟩ u D (by have := HDB.out; simp; omega)).trans ((Below.heap_setCell _ ⟨B + 1, 0, none⟩ (.string k0) D (by have := HDB.out; simp; omega)).trans hK)))
      have HOW := Lib.hid (fun (k0 : ByteArray) (u : Value) => (show ((W.setCell ⟨B + 1, 0, none⟩ (.string k0)).setCell ⟨B + 1, 1, none⟩ u).ownsRow W0.heap.size 85 2 (.slice a9 (fieldsN gs cs gs.length).length cap9) (fieldsN gs cs gs.length).length (fCells (fieldsN gs cs gs.length)) by
        have h1 := own_set (i := 0) (u := .string k0) hv (by decide) ho
        have hv1 : (W.setCell ⟨B + 1, 0, none⟩ (.string k0)).heap[B + 1]? = some (.cells #[.string k0, .slice none 0 0] 35 (0, 0)) := (heap_setCell_same _ (B + 1) 0 _ _ _ hv).trans rfl
        exact own_set (i := 1) (u := u) hv1 (by decide) h1))
      obtain ⟨F, hF⟩ : ∃ z, fieldsN gs cs gs.length = z := ⟨_, rfl⟩
      rw [hF] at HOW H1 H2 cb
      obtain ⟨f, hf⟩ : ∃ z, F.length = z := ⟨_, rfl⟩
      rw [hf] at HOW H1 H2 cb
      have HF := Lib.hid hf
      have HH2 := Lib.hid (fun h : f ≠ 0 => H2.out (by first | rfl | trivial) h)
      have hB5 := hB0.size
      clear hb ho hr1 hv hw hs hK hxs hF hf hlx H2
      by_cases hz : f = 0
      · subst hz
        have HR := Lib.hid (H1.out (by first | rfl | trivial))
        gi_wp2
        refine ⟨by simp, .inl ⟨_, _, rfl, run_takeDeferred (HKX.out _ _), ?_⟩⟩
        obtain ⟨q1, q2⟩ := HFIN.out _ ⟨#[]⟩ (.slice none 0 0) rfl
        refine ⟨_, res_cell_tmp rfl _ _ (B + 1) 35 _ (0, 0) _ _ rfl rfl q1 Tryd.underlying35 rfl (by kernel_rfl), ?_⟩
        rw [HR.out]
        exact ⟨_, rfl, OwnF.nil _ _, q2⟩
      · have hzi : ((f : Int) == 0) = false := by rw [beq_eq_false_iff_ne]; omega
        have hzj : ¬ (f : Int) = 0 := by omega
        have HR := Lib.hid (HH2.out hz)
        gi_wp2
        refine ⟨by simp, .inl ⟨_, _, rfl, run_takeDeferred (HKX.out _ _), ?_⟩⟩
        obtain ⟨q1, q2⟩ := HFIN.out _ tk (.slice a9 f cap9) rfl
        refine ⟨_, res_cell_tmp rfl _ _ (B + 1) 35 _ (0, 0) _ _ rfl rfl q1 Tryd.underlying35 rfl (by kernel_rfl), ?_⟩
        rw [HR.out]
        refine ⟨_, by rw [HTK.out]; rfl, ?_, q2⟩
        show World.ownsRow _ _ _ _ _ F.length _
        rw [HF.out]
        exact own_mono (ownsRow_putObj (HOW.out tk _) (.deferred none) (HKX.out _ _) rfl) (by omega)
    case stop => exact fun D c pre W hD _ hf => hf.elim
  · have h0n : (R != 0) = true := by simpa using h0
    have HR := Lib.hid (H0.out h0)
    clear h0
    gi_wp2
    have hst := HSET.out w2 HE2.out ⟨#[]⟩ (.slice none 0 0)
    refine ⟨_, res_cell_tmp rfl _ _ (B + 1) 35 _ (0, 0) _ _ rfl rfl hst Tryd.underlying35 rfl (by kernel_rfl), ?_⟩
    rw [HR.out]
    exact ⟨_, rfl, OwnF.nil _ _, (HB2.out.setCell (p := ⟨B + 1, 0, none⟩) (by have := HBe.out; simp; omega) _).setCell (p := ⟨B + 1, 1, none⟩) (by have := HBe.out; simp; omega) _⟩
end Go.Proofs.YtkjpmdpljdgcjaaDoor
end

