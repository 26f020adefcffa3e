/-
  Window: the walk of WindowOn.
-/
import Derived.Test.YtplanmiggeghfaaWA7
import Derived.Shelf.Abstract
namespace Go.Proofs.Ytplanmiggeghfaa
open Go.RowKit Go Go.Sort Go.Deep
set_option linter.unusedVariables false
set_option maxRecDepth 20000

set_option maxRecDepth 100000 in
set_option maxHeartbeats 6400000 in
theorem won_walk {w : World} (size have' : Int) {a : Option Addr} {m cap : Nat} {l : List Int} (hl : Ns w a m cap l) : Calls Try.prog 9 #[.int .i64 size, .int .i64 have', .slice a m cap] w (Tells (.bool true) w) := by
  have hle := hl.le
  have hmax := hl.max
  have HL := Lib.hid hl
  clear hl
  obtain ⟨k0, hk0, hk1, hk2⟩ := umod size 16 (by omega) (by omega)
  obtain ⟨n, hn0, hn1, hn2⟩ := umod have' 200 (by omega) (by omega)
  obtain ⟨k, hk⟩ : ∃ k : Int, 1 + k0 = k := ⟨_, rfl⟩
  have hwk : IntKind.i64.wrap (1 + k0) = k := by rw [IntKind.wrap_i64]; omega
  have hno : newOk k 64 = true := by unfold newOk; simp; omega
  have HOK := Lib.hid (Wn.new_ok hno)
  have HN := Lib.hid (fun W => wnew_c k 64 W hno)
  have HKK := Lib.hid (show 1 ≤ k ∧ k ≤ 16 ∧ 0 ≤ n ∧ n < 200 from by omega)
  clear hno hk hk1 hk2
  have hdd : ∃ d, decide ((1000 : Int) < (m : Int)) = d := ⟨_, rfl⟩
  obtain ⟨d, hd⟩ := hdd
  have HM1 := Lib.hid (show d = false → m ≤ 1000 from fun h => by rw [h] at hd; have : ¬ ((1000 : Int) < (m : Int)) := of_decide_eq_false hd; omega)
  go_enter Try.func9, Try.ntmps9
  go_upto_region 3 with (go_at_call 34; (with_reducible refine (HN.out _).mono ?_); rintro e2 w2 ⟨g, rfl, hg, hk2, hb2⟩; have HG := Lib.hid hg; have HB2 := Lib.hid hb2; have HC2 := Lib.hid hk2; clear hg hk2 hb2)
  clear hk0 hn0 hwk
  cases d
  · have hmm := HM1.out rfl
    have hw1 : IntKind.i64.wrap (n + (m : Int)) = n + (m : Int) := by rw [IntKind.wrap_i64]; omega
    have hw2 : IntKind.i64.wrap (n + (m : Int) + 1) = n + (m : Int) + 1 := by rw [IntKind.wrap_i64]; omega
    have hw3 : IntKind.i64.wrap (n + 1) = n + 1 := by rw [IntKind.wrap_i64]; omega
    have HMM := Lib.hid hmm
    go_upto_region 7 with (fail)
    go_wp2
    go_loopw [11, 12, 13] (fun x y i wr => ∃ (j : Nat) (A S K : Int), (j : Int) ≤ n + (m : Int) + 1 ∧ i = .int .i64 (j : Int) ∧ x = .int .i64 (S + 1) ∧ y = .int .i64 K ∧ 0 ≤ A ∧ A ≤ K ∧ K ≤ S ∧ S ≤ n ∧ S ≤ A + k ∧ min n ((j : Int) - (m : Int)) ≤ K ∧ Wnd wr g 79 ⟨k, 64, A, S, 0⟩ ∧ Below w.heap.size w wr) (fun _ _ i _ => (n + (m : Int) + 1 - intOf i).toNat)
    case atStart => exact ⟨0, 0, 0, 0, by omega, rfl, rfl, rfl, by omega, by omega, by omega, by omega, by have := HKK.out; omega, by omega, HC2.out, HB2.out⟩
    case round =>
      clear HB2 HC2 HN HOK HM1 hd
      obtain ⟨j, A, S, K, hj, rfl, rfl, rfl, hA0, hAK, hKS, hSn, hSA, hpr, hc, hB⟩ := hrel
      have HC := Lib.hid hc
      have HB := Lib.hid hB
      have HNB := Lib.hid (And.intro hn1 hn2)
      have HJB := Lib.hid (show (j : Int) ≤ 2000 from by omega)
      have HST := Lib.hid (show 0 ≤ A ∧ A ≤ K ∧ K ≤ S ∧ S ≤ n ∧ S ≤ A + k ∧ min n ((j : Int) - (m : Int)) ≤ K from ⟨hA0, hAK, hKS, hSn, hSA, hpr⟩)
      clear hc hB
      by_cases hlt : (j : Int) < n + (m : Int) + 1
      · have HLT := Lib.hid hlt
        -- Next
        have hask : AskOk K n 0 := ⟨by omega, by omega, by omega, by omega, by omega⟩
        have hok : (⟨k, 64, A, S, 0⟩ : Wn).Ok := by
          have h1 := HKK.out
          refine ⟨?_, ?_, ?_, ?_, ?_, ?_, ?_, ?_, ?_, ?_⟩ <;> simp only <;> omega
        have hfr : Wn.frm ⟨k, 64, A, S, 0⟩ K 0 = S := by unfold Wn.frm Wn.ackd; simp only; rw [if_neg (by omega)]; omega
        obtain ⟨c, hc9⟩ : ∃ c : Nat, c = (min n (K + k) - S).toNat := ⟨_, rfl⟩
        have hak : Wn.ackd ⟨k, 64, A, S, 0⟩ K = K := by unfold Wn.ackd; simp only; omega
        have hcn : Wn.cnt ⟨k, 64, A, S, 0⟩ K n 0 = c := by unfold Wn.cnt; rw [hfr, hak, hc9]
        have hte : Wn.tell ⟨k, 64, A, S, 0⟩ K n 0 = ups (S + 1) c := by
          rw [show Wn.tell ⟨k, 64, A, S, 0⟩ K n 0 = Wn.told ⟨k, 64, A, S, 0⟩ K n 0 from if_pos hask]
          unfold Wn.told
          rw [hfr, hcn]
        have has : Wn.ask ⟨k, 64, A, S, 0⟩ K n 0 = ⟨k, 64, K, S + (c : Int), 0⟩ := by
          rw [show Wn.ask ⟨k, 64, A, S, 0⟩ K n 0 = Wn.next ⟨k, 64, A, S, 0⟩ K n 0 from if_pos hask]
          unfold Wn.next
          rw [hfr, hcn, hak]
          simp
        have hew : Wn.err K n 0 = 0 := if_pos hask
        have HNX := Lib.hid (wnext_k HC.out hok K n 0 hew hte (ups_length _ c) has)
        have HC9 := Lib.hid hc9
        clear hask hok hfr hak hcn hte has hew hc9 hA0 hAK hKS hSn hSA hpr
        go_upto_region 12 with (go_at_call 38; (with_reducible refine HNX.out.mono ?_); rintro e4 w4 ⟨xa, xc, rfl, ho4, hk4, hb4⟩; have HC4 := Lib.hid hk4; have HO4 := Lib.hid ho4.ns2.2; have HB4 := Lib.hid (HB.out.trans (hb4.base HG.out HB.out.size)); clear hk4 hb4 ho4)
        go_wp2
        go_loopw [11, 73] (fun x i wr => ∃ (p : Nat), p ≤ c ∧ i = .int .i64 (p : Int) ∧ x = .int .i64 (S + 1 + (p : Int)) ∧ Below w4.heap.size w4 wr) (fun _ i _ => c - (intOf i).toNat)
        case atStart => exact ⟨0, by omega, rfl, by simp, Below.refl _ _⟩
        case round =>
          obtain ⟨p, hp, rfl, rfl, hBi⟩ := hrel
          have HBI := Lib.hid hBi
          clear hBi
          have hpb : p ≤ 200 := by have := HC9.out; have := HST.out; omega
          by_cases hlp : p < c
          · have hpi : (p : Int) < (c : Int) := by omega
            have hpc : (p : Int) < (xc : Int) := by have := HO4.out.le; omega
            obtain ⟨b, o9, rfl, hat⟩ := HO4.out.at hlp
            have d1 := hat _ HBI.out
            rw [ups_getD _ _ _ hlp] at d1
            obtain ⟨x, hx9⟩ : ∃ x, S + 1 + (p : Int) = x := ⟨_, rfl⟩
            rw [hx9] at d1 ⊢
            have hxx : (x != x) = false := by simp
            have hx1 : IntKind.i64.wrap (x + 1) = x + 1 := by have := HST.out; have := HNB.out; rw [IntKind.wrap_i64]; omega
            have HX9 := Lib.hid hx9
            have HLP := Lib.hid hlp
            clear hat hx9 hlp
            go_wp2
            go_roundw
            case rel => exact ⟨p + 1, HLP.out, by go_num, by rw [← HX9.out]; congr 1; omega, HBI.out⟩
            case measure => simp [intOf]; have h9 := HLP.out; omega
          · obtain rfl : p = c := by omega
            have HC5 := Lib.hid (HC4.out.kept HBI.out)
            have HB5 := Lib.hid (HB4.out.trans (HBI.out.mono HB4.out.size))
            obtain ⟨T, hT⟩ : ∃ T, S + (p : Int) = T := ⟨_, rfl⟩
            have hT1 : S + 1 + (p : Int) = T + 1 := by omega
            rw [hT1]
            rw [hT] at HC5
            have hTT : K ≤ T ∧ T ≤ n ∧ T ≤ K + k ∧ min n (K + k) ≤ T := by have h1 := HC9.out; have h2 := HST.out; have h3 := HKK.out; omega
            have HTT := Lib.hid hTT
            have hs1 : wrap64 T = T := by have h2 := HNB.out; have := HST.out; unfold wrap64; omega
            clear hT hT1 hTT hp hlp hpb
            by_cases hjm : j < m
            · have hji : (j : Int) < (m : Int) := by omega
              have hjc : (j : Int) < (cap : Int) := by omega
              obtain ⟨b, o9, rfl, hat⟩ := HL.out.at hjm
              have d1 := hat _ HB5.out
              obtain ⟨z, hz⟩ : ∃ z, l.getD j 0 = z := ⟨_, rfl⟩
              rw [hz] at d1
              obtain ⟨u, hu0, hu1, hu2⟩ := umod z 20 (by omega) (by omega)
              have HU := Lib.hid (And.intro hu1 hu2)
              have hku : IntKind.i64.wrap (K + u) = K + u := by have h2 := HNB.out; have h3 := HST.out; rw [IntKind.wrap_i64]; omega
              have hj1 : IntKind.i64.wrap ((j : Int) + 1) = (j : Int) + 1 := by have h2 := HJB.out; rw [IntKind.wrap_i64]; omega
              have HJM := Lib.hid hjm
              clear hat hz hu1 hu2 hjm
              go_wp2
              go_roundw
              case rel =>
                have h1 := HTT.out
                have h2 := HST.out
                have h3 := HU.out
                have h4 := HLT.out
                have h5 := HJM.out
                exact ⟨j + 1, K, T, min T (K + u), by omega, by go_num, rfl, rfl, by omega, by omega, by omega, by omega, by omega, by omega, HC5.out, HB5.out⟩
              case measure => simp [intOf]; have h4 := HLT.out; have h5 := HJB.out; omega
            · have hku : IntKind.i64.wrap (K + 1) = K + 1 := by have h2 := HNB.out; have h3 := HST.out; rw [IntKind.wrap_i64]; omega
              have hj1 : IntKind.i64.wrap ((j : Int) + 1) = (j : Int) + 1 := by have h2 := HJB.out; rw [IntKind.wrap_i64]; omega
              have hji : ¬ (j : Int) < (m : Int) := by omega
              have HJM := Lib.hid hjm
              clear hjm
              go_wp2
              go_roundw
              case rel =>
                have h1 := HTT.out
                have h2 := HST.out
                have h4 := HLT.out
                have h5 := HJM.out
                have h6 := HKK.out
                exact ⟨j + 1, K, T, min T (K + 1), by omega, by go_num, rfl, rfl, by omega, by omega, by omega, by omega, by omega, by omega, HC5.out, HB5.out⟩
              case measure => simp [intOf]; have h4 := HLT.out; have h5 := HJB.out; omega
      · have hje : (j : Int) = n + (m : Int) + 1 := by omega
        obtain rfl : K = n := by have := HST.out; have := HNB.out; omega
        obtain rfl : S = K := by have := HST.out; omega
        clear hA0 hAK hKS hSn hSA hpr
        go_wp2_with (go_at_call 36; (with_reducible refine (wlives_c _).mono ?_); rintro e8 w8 ⟨rfl, hb8⟩)
        go_ret
        exact ⟨rfl, HB.out.trans (hb8.mono HB.out.size)⟩
  · go_wp2_with (go_at_call 36; (with_reducible refine (wlives_c _).mono ?_); rintro e8 w8 ⟨rfl, hb8⟩)
    go_ret
    exact ⟨rfl, HB2.out.trans (hb8.mono HB2.out.size)⟩
end Go.Proofs.Ytplanmiggeghfaa
