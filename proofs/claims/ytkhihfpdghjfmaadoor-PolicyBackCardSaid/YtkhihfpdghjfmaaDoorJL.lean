/-
  Policy: the walks of PolicyBytes and PolicyTexts.
-/
import Derived.Test.YtkhihfpdghjfmaaDoorJI
namespace Go.Proofs.YtkhihfpdghjfmaaDoor
open Go.RowKit Go Go.Sort
set_option linter.unusedVariables false
set_option maxRecDepth 20000

theorem eposted {P : Program} {f : FuncId} {args : Array Value} {w : World} {t : List UInt8} {x : Int} (h : Calls P f args w (EncPost t x w)) :
    Calls P f args w fun e w' => ∃ b c, e = .returned (.tuple #[.slice b t.length c, .int .i64 x]) ∧ Bys w' b t.length c t ∧ Below w.heap.size w w' := by
  refine h.mono fun e w' hh => ?_
  obtain ⟨v, rfl, ho, hb⟩ := hh
  obtain ⟨b, c, rfl, hy⟩ := ho.bys
  exact ⟨b, c, rfl, hy, hb⟩
theorem dposted {P : Program} {f : FuncId} {args : Array Value} {w : World} {m : List Grp} {x : Int} (h : Calls P f args w (GrpsPost (m, x) w)) :
    Calls P f args w fun e w' => ∃ b c, e = .returned (.tuple #[.slice b m.length c, .int .i64 x]) ∧ Grs w' b m.length c m ∧ Below w.heap.size w w' := by
  refine h.mono fun e w' hh => ?_
  obtain ⟨v, rfl, ho, hb⟩ := hh
  obtain ⟨b, c, rfl, hy⟩ := ho.grs
  exact ⟨b, c, rfl, hy, hb⟩
theorem same_self {w : World} {a a' : Option Addr} {cap cap' : Nat} {m : List Grp} (h : Grs w a m.length cap m) (h' : Grs w a' m.length cap' m) :
    Calls Tryd.prog 24 #[.slice a m.length cap, .slice a' m.length cap'] w (Tells (.bool true) w) := by
  have := rpsame_c h h'
  rwa [decide_eq_true rfl] at this

set_option maxHeartbeats 3200000 in
theorem pbytes_walk {w : World} {a a' : Option Addr} {n cap n' cap' : Nat} {l : List Grp} {b : List UInt8} (hl : Grs w a n cap l) (hs : ∀ g ∈ l, g.1.length ≤ 9223372036854775807) (hb : Bys w a' n' cap' b) (hT : TabW w) :
    Calls Tryd.prog 4 #[.slice a n cap, .slice a' n' cap'] w (Tells (.bool true) w) := by
  have hle := hl.le
  have hmx := hl.max
  have hle' := hb.le
  have hmx' := hb.max
  have HLv := Lib.hid (fun W (h : Below w.heap.size w W) => plives_c (hT.below h))
  have hE := fun W (h : Below w.heap.size w W) => eposted (pencode_c (hl.below h) hs (hT.below h))
  have hRE := fun W (h : Below w.heap.size w W) => eposted (rpencode_c (hl.below h) hs)
  have hD := fun W (h : Below w.heap.size w W) => pdecode_c (hb.below h)
  have hRD := fun W (h : Below w.heap.size w W) => rpdecode_c (hb.below h)
  obtain ⟨z, hz⟩ : ∃ q, pgoodS l = q := ⟨_, rfl⟩
  obtain ⟨t, ht⟩ : ∃ q, (if pgoodS l = 0 then pbytesS l else []) = q := ⟨_, rfl⟩
  obtain ⟨⟨m, f⟩, hm⟩ : ∃ q, pdecS b = q := ⟨_, rfl⟩
  rw [ht, hz] at hE hRE
  rw [hm] at hD hRD
  have HE := Lib.hid hE
  have HRE := Lib.hid hRE
  have HD := Lib.hid (fun W h => dposted (hD W h))
  have HRD := Lib.hid (fun W h => dposted (hRD W h))
  have hcv := fun (W : World) (a : Option Addr) (c : Nat) (h : Bys W a t.length c t) => conv_bys (P := Tryd.prog) (src := 34) (dst := 9) (e := 5) h Tryd.underlying34 Tryd.underlying5 Tryd.underlying9
  have HCV := Lib.hid hcv
  have HSM := Lib.hid (fun (W : World) (a a' : Option Addr) (c c' : Nat) (h : Grs W a m.length c m) (h' : Grs W a' m.length c' m) => same_self h h')
  have htb : ((text t).toList == (text t).toList) = true := by simp
  obtain ⟨tn, htn⟩ : ∃ q, t.length = q := ⟨_, rfl⟩
  obtain ⟨mn, hmn⟩ : ∃ q, m.length = q := ⟨_, rfl⟩
  rw [htn] at HE HRE HCV
  rw [hmn] at HD HRD HSM
  obtain ⟨T, hT2⟩ : ∃ q, text t = q := ⟨_, rfl⟩
  rw [hT2] at htb HCV
  have hcur := Below.refl w.heap.size w
  clear hE hRE hD hRD hcv hz ht hm htn hmn hT2 hl hs hb hT
  by_cases h1 : 1000 < n
  · have h1i : (1000 : Int) < (n : Int) := by omega
    go_enter Tryd.func4, Tryd.ntmps4
    go_wp2_with ((go_at_call 13; (with_reducible refine (HLv.out _ hcur).mono ?_); rintro e9 w9 ⟨rfl, hb9⟩; (replace hcur := hcur.trans (hb9.mono hcur.size)); clear hb9))
    go_ret
    exact ⟨rfl, hcur⟩
  · have h1i : ¬ (1000 : Int) < (n : Int) := by omega
    by_cases h2 : 1000 < n'
    · have h2i : (1000 : Int) < (n' : Int) := by omega
      go_enter Tryd.func4, Tryd.ntmps4
      go_wp2_with ((go_at_call 13; (with_reducible refine (HLv.out _ hcur).mono ?_); rintro e9 w9 ⟨rfl, hb9⟩; (replace hcur := hcur.trans (hb9.mono hcur.size)); clear hb9))
      go_ret
      exact ⟨rfl, hcur⟩
    · have h2i : ¬ (1000 : Int) < (n' : Int) := by omega
      go_enter Tryd.func4, Tryd.ntmps4
      go_upto_region 4 with (go_at_call 20; (with_reducible refine (HE.out _ hcur).mono ?_); rintro e9 w1 ⟨b1, c1, rfl, y1, hb1⟩)
      replace hcur := hcur.trans (hb1.mono hcur.size)
      have Y1 := Lib.hid y1
      clear hb1 y1
      go_upto_region 5 with (go_at_call 21; (with_reducible refine (HRE.out _ hcur).mono ?_); rintro e9 w2 ⟨b2, c2, rfl, y2, hb2⟩)
      replace hcur := hcur.trans (hb2.mono hcur.size)
      have Y1b := Lib.hid (Y1.out.below hb2)
      have Y2 := Lib.hid y2
      clear hb2 y2 Y1
      go_upto_region 6 with (go_at_call 22; (with_reducible refine (HD.out _ hcur).mono ?_); rintro e9 w3 ⟨b3, c3, rfl, y3, hb3⟩)
      replace hcur := hcur.trans (hb3.mono hcur.size)
      have Y1c := Lib.hid (Y1b.out.below hb3)
      have Y2b := Lib.hid (Y2.out.below hb3)
      have Y3 := Lib.hid y3
      clear hb3 y3 Y1b Y2
      go_upto_region 7 with (go_at_call 23; (with_reducible refine (HRD.out _ hcur).mono ?_); rintro e9 w4 ⟨b4, c4, rfl, y4, hb4⟩)
      replace hcur := hcur.trans (hb4.mono hcur.size)
      have q1 := HCV.out _ _ _ (Y1c.out.below hb4)
      have q2 := HCV.out _ _ _ (Y2b.out.below hb4)
      have HS := Lib.hid (HSM.out _ _ _ _ _ (Y3.out.below hb4) y4)
      clear hb4 y4 Y1c Y2b Y3
      go_wp2_with (first
        | (go_at_call 24; (with_reducible refine HS.out.mono ?_); rintro e9 w9 ⟨rfl, hb9⟩; (replace hcur := hcur.trans (hb9.mono hcur.size)); clear hb9)
        | (go_at_call 13; (with_reducible refine (HLv.out _ hcur).mono ?_); rintro e9 w9 ⟨rfl, hb9⟩; (replace hcur := hcur.trans (hb9.mono hcur.size)); clear hb9))
      go_ret
      exact ⟨rfl, hcur⟩

set_option maxHeartbeats 3200000 in
theorem ptexts_walk {w : World} {a : Option Addr} {n cap : Nat} {l : List Grp} (s : List UInt8) (hl : Grs w a n cap l) (hs : ∀ g ∈ l, g.1.length ≤ 9223372036854775807) (hT : TabW w) :
    Calls Tryd.prog 5 #[.slice a n cap, .string (text s)] w (Tells (.bool true) w) := by
  have hle := hl.le
  have hmx := hl.max
  have HLv := Lib.hid (fun W (h : Below w.heap.size w W) => plives_c (hT.below h))
  have hE := fun W (h : Below w.heap.size w W) => pprint_c (hl.below h) hs
  have hRE := fun W (h : Below w.heap.size w W) => rpprint_c (hl.below h) hs
  have HD0 := Lib.hid (fun (hb : s.length ≤ 1000) W (h : Below w.heap.size w W) => pparse_c s hb W)
  have HRD0 := Lib.hid (fun (hb : s.length ≤ 1000) W (h : Below w.heap.size w W) => rpparse_c s (by omega) W)
  obtain ⟨z, hz⟩ : ∃ q, pgoodS l = q := ⟨_, rfl⟩
  obtain ⟨t, ht⟩ : ∃ q, (if pgoodS l = 0 then ptextS l else []) = q := ⟨_, rfl⟩
  obtain ⟨⟨m, f⟩, hm⟩ : ∃ q, pparseS s = q := ⟨_, rfl⟩
  rw [ht, hz] at hE hRE
  rw [hm] at HD0 HRD0
  have hsz : ((text s).size : Int) = s.length := by rw [text_len]
  have htb : ((text t).toList == (text t).toList) = true := by simp
  obtain ⟨T, hT2⟩ : ∃ q, text t = q := ⟨_, rfl⟩
  rw [hT2] at hE hRE htb
  obtain ⟨S, hS⟩ : ∃ q, text s = q := ⟨_, rfl⟩
  rw [hS] at hsz HD0 HRD0 ⊢
  have HSM := Lib.hid (fun (W : World) (a a' : Option Addr) (c c' : Nat) (h : Grs W a m.length c m) (h' : Grs W a' m.length c' m) => same_self h h')
  have HE := Lib.hid hE
  have HRE := Lib.hid hRE
  obtain ⟨L, hL⟩ : ∃ q, s.length = q := ⟨_, rfl⟩
  rw [hL] at hsz HD0 HRD0
  have hcur := Below.refl w.heap.size w
  clear hE hRE hz ht hm hT2 hl hs hT hS hL
  by_cases h1 : 1000 < n
  · have h1i : (1000 : Int) < (n : Int) := by omega
    go_enter Tryd.func5, Tryd.ntmps5
    go_wp2_with ((go_at_call 13; (with_reducible refine (HLv.out _ hcur).mono ?_); rintro e9 w9 ⟨rfl, hb9⟩; (replace hcur := hcur.trans (hb9.mono hcur.size)); clear hb9))
    go_ret
    exact ⟨rfl, hcur⟩
  · have h1i : ¬ (1000 : Int) < (n : Int) := by omega
    by_cases h2 : 1000 < L
    · have h2i : (1000 : Int) < (L : Int) := by omega
      go_enter Tryd.func5, Tryd.ntmps5
      go_wp2_with ((go_at_call 13; (with_reducible refine (HLv.out _ hcur).mono ?_); rintro e9 w9 ⟨rfl, hb9⟩; (replace hcur := hcur.trans (hb9.mono hcur.size)); clear hb9))
      go_ret
      exact ⟨rfl, hcur⟩
    · have h2i : ¬ (1000 : Int) < (L : Int) := by omega
      have HD := Lib.hid (fun W h => dposted (HD0.out (by omega) W h))
      have HRD := Lib.hid (fun W h => dposted (HRD0.out (by omega) W h))
      obtain ⟨mn, hmn⟩ : ∃ q, m.length = q := ⟨_, rfl⟩
      rw [hmn] at HD HRD HSM
      clear HD0 HRD0 hmn
      go_enter Tryd.func5, Tryd.ntmps5
      go_upto_region 6 with (first
        | (go_at_call 25; (with_reducible refine (HE.out _ hcur).mono ?_); rintro e9 w9 ⟨rfl, hb9⟩; (replace hcur := hcur.trans (hb9.mono hcur.size)); clear hb9)
        | (go_at_call 26; (with_reducible refine (HRE.out _ hcur).mono ?_); rintro e9 w9 ⟨rfl, hb9⟩; (replace hcur := hcur.trans (hb9.mono hcur.size)); clear hb9)
        | (go_at_call 27; (with_reducible refine (HD.out _ hcur).mono ?_); rintro e9 w3 ⟨b3, c3, rfl, y3, hb3⟩))
      replace hcur := hcur.trans (hb3.mono hcur.size)
      have Y3 := Lib.hid y3
      clear hb3 y3
      go_upto_region 7 with (go_at_call 28; (with_reducible refine (HRD.out _ hcur).mono ?_); rintro e9 w4 ⟨b4, c4, rfl, y4, hb4⟩)
      replace hcur := hcur.trans (hb4.mono hcur.size)
      have HS := Lib.hid (HSM.out _ _ _ _ _ (Y3.out.below hb4) y4)
      clear hb4 y4 Y3
      go_wp2_with (first
        | (go_at_call 24; (with_reducible refine HS.out.mono ?_); rintro e9 w9 ⟨rfl, hb9⟩; (replace hcur := hcur.trans (hb9.mono hcur.size)); clear hb9)
        | (go_at_call 13; (with_reducible refine (HLv.out _ hcur).mono ?_); rintro e9 w9 ⟨rfl, hb9⟩; (replace hcur := hcur.trans (hb9.mono hcur.size)); clear hb9))
      go_ret
      exact ⟨rfl, hcur⟩
end Go.Proofs.YtkhihfpdghjfmaaDoor
