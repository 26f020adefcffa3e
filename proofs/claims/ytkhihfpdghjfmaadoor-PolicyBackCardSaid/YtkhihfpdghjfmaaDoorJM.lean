/-
  Policy: the walk of PolicyBack.
-/
import Derived.Test.YtkhihfpdghjfmaaDoorJL
namespace Go.Proofs.YtkhihfpdghjfmaaDoor
open Go.RowKit Go Go.Sort
set_option linter.unusedVariables false
set_option maxRecDepth 20000

theorem good_lens {m : List Grp} (h : pgoodS m = 0) : ∀ g ∈ m, g.1.length ≤ 9223372036854775807 := fun g hg => by
  have := (name_len ((schema_names h).2.2 g hg).1).2
  omega
set_option maxHeartbeats 3200000 in
theorem pback_111 {w : World} {a a' : Option Addr} {n cap n' cap' : Nat} {l : List Grp} {b : List UInt8} (s : List UInt8) (hl : Grs w a n cap l) (hs : ∀ g ∈ l, g.1.length ≤ 9223372036854775807) (hb : Bys w a' n' cap' b) (hT : TabW w)
    (h1 : ¬ 1000 < n) (h2 : ¬ 1000 < n') (h3 : ¬ 1000 < s.length) (hz : pgoodS l = 0) (hd : (pdecS b).2 = 0) (hp : (pparseS s).2 = 0) :
    Calls Tryd.prog 6 #[.slice a n cap, .slice a' n' cap', .string (text s)] w (Tells (.bool true) w) := by
  have hln := hl.len
  have hbn := hb.len
  have hle := hl.le
  have hmx := hl.max
  have hle' := hb.le
  have hmx' := hb.max
  have h1i : ¬ (1000 : Int) < (n : Int) := by omega
  have h2i : ¬ (1000 : Int) < (n' : Int) := by omega
  have h3i : ¬ (1000 : Int) < (s.length : Int) := by omega
  have hsz : ((text s).size : Int) = s.length := by rw [text_len]
  have HLv := Lib.hid (fun W (h : Below w.heap.size w W) => plives_c (hT.below h))
  have HL := Lib.hid hl
  have HB := Lib.hid hb
  have hG := fun W (h : Below w.heap.size w W) => pgood_c (hl.below h) hs
  rw [hz] at hG
  have hE := fun W (h : Below w.heap.size w W) => eposted (pencode_c (hl.below h) hs (hT.below h))
  rw [hz, if_pos rfl] at hE
  have hP := fun W (h : Below w.heap.size w W) => pprint_c (hl.below h) hs
  rw [hz, if_pos rfl] at hP
  have hPX := fun W => dposted (by have := pparse_c (ptextS l) (by have := ptext_len hz; omega) W; rwa [parse_back hz] at this)
  have hDX := fun (W : World) (a : Option Addr) (c : Nat) (h : Bys W a (pbytesS l).length c (pbytesS l)) => dposted (by have := pdecode_c h; rwa [dec_back hz] at this)
  have hSL := fun (W : World) (a a' : Option Addr) (c c' : Nat) (h : Grs W a l.length c l) (h' : Grs W a' l.length c' l) => same_self h h'
  rw [hln] at hPX hDX hSL
  obtain ⟨xn, hxn⟩ : ∃ q, (pbytesS l).length = q := ⟨_, rfl⟩
  rw [hxn] at hE hDX
  obtain ⟨T1, hT1⟩ : ∃ q, text (ptextS l) = q := ⟨_, rfl⟩
  rw [hT1] at hP hPX
  have HE := Lib.hid hE
  have HP := Lib.hid hP
  have HPX := Lib.hid hPX
  have HDX := Lib.hid hDX
  have HSL := Lib.hid hSL
  clear hE hP hPX hDX hSL hxn hT1
  have HG := Lib.hid hG
  have hD := fun W (h : Below w.heap.size w W) => pdecode_c (hb.below h)
  have hgd := fun m (h : pdecS b = (m, 0)) => dec_good h
  obtain ⟨⟨m, f⟩, hm⟩ : ∃ q, pdecS b = q := ⟨_, rfl⟩
  rw [hm] at hD hgd hd
  simp only at hd
  subst hd
  obtain ⟨hmg, hmb⟩ := hgd m rfl
  have hEM := fun (W : World) (a : Option Addr) (c : Nat) (hW : Below w.heap.size w W) (h : Grs W a m.length c m) => eposted (by have := pencode_c h (good_lens hmg) (hT.below hW); rwa [hmg, if_pos rfl, hmb] at this)
  have hcv := fun (W : World) (a : Option Addr) (c : Nat) (h : Bys W a b.length c b) => conv_bys (P := Tryd.prog) (src := 34) (dst := 9) (e := 5) h Tryd.underlying34 Tryd.underlying5 Tryd.underlying9
  have htb : ((text b).toList == (text b).toList) = true := by simp
  rw [hbn] at hEM hcv
  obtain ⟨T2, hT2⟩ : ∃ q, text b = q := ⟨_, rfl⟩
  rw [hT2] at hcv htb
  obtain ⟨mn, hmn⟩ : ∃ q, m.length = q := ⟨_, rfl⟩
  rw [hmn] at hEM
  have HEM := Lib.hid hEM
  have HCV := Lib.hid hcv
  have HD := Lib.hid (fun W h => by have := dposted (hD W h); rwa [hmn] at this)
  clear hEM hcv hT2 hmn hmg hmb
  have hPS := fun W => pparse_c s (by omega) W
  have hgp := fun m (h : pparseS s = (m, 0)) => parse_good h
  obtain ⟨⟨m2, f2⟩, hm2⟩ : ∃ q, pparseS s = q := ⟨_, rfl⟩
  rw [hm2] at hPS hgp hp
  simp only at hp
  subst hp
  obtain ⟨hpg, hps⟩ := hgp m2 rfl
  have hPM := fun (W : World) (a : Option Addr) (c : Nat) (h : Grs W a m2.length c m2) => by have := pprint_c h (good_lens hpg); rwa [hpg, if_pos rfl, hps] at this
  have htb2 : ((text s).toList == (text s).toList) = true := by simp
  obtain ⟨S, hS⟩ : ∃ q, text s = q := ⟨_, rfl⟩
  rw [hS] at hPM htb2 hPS hsz ⊢
  obtain ⟨mn2, hmn2⟩ : ∃ q, m2.length = q := ⟨_, rfl⟩
  rw [hmn2] at hPM
  have HPM := Lib.hid hPM
  have HPS := Lib.hid (fun W => by have := dposted (hPS W); rwa [hmn2] at this)
  clear hPM hS hmn2 hpg hps
  have hcur := Below.refl w.heap.size w
  obtain ⟨L, hL⟩ : ∃ q, s.length = q := ⟨_, rfl⟩
  rw [hL] at hsz h3i
  clear hG hD hgd hPS hgp hm hm2 hl hs hb hT h1 h2 h3 hL hln hbn hz
  go_enter Tryd.func6, Tryd.ntmps6
  go_upto_region 5 with (first
    | (go_at_call 18; (with_reducible refine (HG.out _ hcur).mono ?_); rintro e9 w9 ⟨rfl, hb9⟩; (replace hcur := hcur.trans (hb9.mono hcur.size)); clear hb9)
    | (go_at_call 20; (with_reducible refine (HE.out _ hcur).mono ?_); rintro e9 w1 ⟨b1, c1, rfl, y1, hb1⟩))
  replace hcur := hcur.trans (hb1.mono hcur.size)
  have Y1 := Lib.hid y1
  clear hb1 y1
  go_upto_region 6 with (go_at_call 25; (with_reducible refine (HP.out _ hcur).mono ?_); rintro e9 w2 ⟨rfl, hb2⟩)
  replace hcur := hcur.trans (hb2.mono hcur.size)
  have Y2 := Lib.hid (Y1.out.below hb2)
  clear hb2 Y1
  go_upto_region 7 with (go_at_call 22; (with_reducible refine (HDX.out _ _ _ Y2.out).mono ?_); rintro e9 w3 ⟨b3, c3, rfl, y3, hb3⟩)
  replace hcur := hcur.trans (hb3.mono hcur.size)
  have Y3 := Lib.hid y3
  clear hb3 y3 Y2
  go_upto_region 8 with (go_at_call 27; (with_reducible refine (HPX.out _).mono ?_); rintro e9 w4 ⟨b4, c4, rfl, y4, hb4⟩)
  replace hcur := hcur.trans (hb4.mono hcur.size)
  have HS1 := Lib.hid (HSL.out _ _ _ _ _ (Y3.out.below hb4) (HL.out.below hcur))
  have Y4 := Lib.hid y4
  clear hb4 y4 Y3
  go_upto_region 10 with (first
    | (go_at_call 24; (with_reducible refine HS1.out.mono ?_); rintro e9 w5 ⟨rfl, hb5⟩; (replace hcur := hcur.trans (hb5.mono hcur.size)); have HS2 := Lib.hid (HSL.out _ _ _ _ _ (Y4.out.below hb5) (HL.out.below hcur)); clear hb5)
    | (go_at_call 24; (with_reducible refine HS2.out.mono ?_); rintro e9 w6 ⟨rfl, hb6⟩; (replace hcur := hcur.trans (hb6.mono hcur.size)); clear hb6))
  go_upto_region 11 with (go_at_call 22; (with_reducible refine (HD.out _ hcur).mono ?_); rintro e9 w7 ⟨b7, c7, rfl, y7, hb7⟩)
  replace hcur := hcur.trans (hb7.mono hcur.size)
  have Y7 := Lib.hid y7
  clear hb7 y7
  go_upto_region 13 with (go_at_call 20; (with_reducible refine (HEM.out _ _ _ hcur Y7.out).mono ?_); rintro e9 w8 ⟨b8, c8, rfl, y8, hb8⟩)
  replace hcur := hcur.trans (hb8.mono hcur.size)
  have q1 := HCV.out _ _ _ y8
  have q2 := HCV.out _ _ _ (HB.out.below hcur)
  clear hb8 y8 Y7
  go_upto_region 15 with (fail)
  clear q1 q2
  go_upto_region 16 with (go_at_call 27; (with_reducible refine (HPS.out _).mono ?_); rintro e9 w10 ⟨b10, c10, rfl, y10, hb10⟩)
  replace hcur := hcur.trans (hb10.mono hcur.size)
  have Y10 := Lib.hid y10
  clear hb10 y10
  go_wp2_with (first
    | (go_at_call 25; (with_reducible refine (HPM.out _ _ _ Y10.out).mono ?_); rintro e9 w11 ⟨rfl, hb11⟩; (replace hcur := hcur.trans (hb11.mono hcur.size)); clear hb11)
    | (go_at_call 13; (with_reducible refine (HLv.out _ hcur).mono ?_); rintro e9 w9 ⟨rfl, hb9⟩; (replace hcur := hcur.trans (hb9.mono hcur.size)); clear hb9))
  go_ret
  exact ⟨rfl, hcur⟩

set_option maxHeartbeats 3200000 in
theorem pback_110 {w : World} {a a' : Option Addr} {n cap n' cap' : Nat} {l : List Grp} {b : List UInt8} (s : List UInt8) (hl : Grs w a n cap l) (hs : ∀ g ∈ l, g.1.length ≤ 9223372036854775807) (hb : Bys w a' n' cap' b) (hT : TabW w)
    (h1 : ¬ 1000 < n) (h2 : ¬ 1000 < n') (h3 : ¬ 1000 < s.length) (hz : pgoodS l = 0) (hd : (pdecS b).2 = 0) (hp : (pparseS s).2 ≠ 0) :
    Calls Tryd.prog 6 #[.slice a n cap, .slice a' n' cap', .string (text s)] w (Tells (.bool true) w) := by
  have hln := hl.len
  have hbn := hb.len
  have hle := hl.le
  have hmx := hl.max
  have hle' := hb.le
  have hmx' := hb.max
  have h1i : ¬ (1000 : Int) < (n : Int) := by omega
  have h2i : ¬ (1000 : Int) < (n' : Int) := by omega
  have h3i : ¬ (1000 : Int) < (s.length : Int) := by omega
  have hsz : ((text s).size : Int) = s.length := by rw [text_len]
  have HLv := Lib.hid (fun W (h : Below w.heap.size w W) => plives_c (hT.below h))
  have HL := Lib.hid hl
  have HB := Lib.hid hb
  have hG := fun W (h : Below w.heap.size w W) => pgood_c (hl.below h) hs
  rw [hz] at hG
  have hE := fun W (h : Below w.heap.size w W) => eposted (pencode_c (hl.below h) hs (hT.below h))
  rw [hz, if_pos rfl] at hE
  have hP := fun W (h : Below w.heap.size w W) => pprint_c (hl.below h) hs
  rw [hz, if_pos rfl] at hP
  have hPX := fun W => dposted (by have := pparse_c (ptextS l) (by have := ptext_len hz; omega) W; rwa [parse_back hz] at this)
  have hDX := fun (W : World) (a : Option Addr) (c : Nat) (h : Bys W a (pbytesS l).length c (pbytesS l)) => dposted (by have := pdecode_c h; rwa [dec_back hz] at this)
  have hSL := fun (W : World) (a a' : Option Addr) (c c' : Nat) (h : Grs W a l.length c l) (h' : Grs W a' l.length c' l) => same_self h h'
  rw [hln] at hPX hDX hSL
  obtain ⟨xn, hxn⟩ : ∃ q, (pbytesS l).length = q := ⟨_, rfl⟩
  rw [hxn] at hE hDX
  obtain ⟨T1, hT1⟩ : ∃ q, text (ptextS l) = q := ⟨_, rfl⟩
  rw [hT1] at hP hPX
  have HE := Lib.hid hE
  have HP := Lib.hid hP
  have HPX := Lib.hid hPX
  have HDX := Lib.hid hDX
  have HSL := Lib.hid hSL
  clear hE hP hPX hDX hSL hxn hT1
  have HG := Lib.hid hG
  have hD := fun W (h : Below w.heap.size w W) => pdecode_c (hb.below h)
  have hgd := fun m (h : pdecS b = (m, 0)) => dec_good h
  obtain ⟨⟨m, f⟩, hm⟩ : ∃ q, pdecS b = q := ⟨_, rfl⟩
  rw [hm] at hD hgd hd
  simp only at hd
  subst hd
  obtain ⟨hmg, hmb⟩ := hgd m rfl
  have hEM := fun (W : World) (a : Option Addr) (c : Nat) (hW : Below w.heap.size w W) (h : Grs W a m.length c m) => eposted (by have := pencode_c h (good_lens hmg) (hT.below hW); rwa [hmg, if_pos rfl, hmb] at this)
  have hcv := fun (W : World) (a : Option Addr) (c : Nat) (h : Bys W a b.length c b) => conv_bys (P := Tryd.prog) (src := 34) (dst := 9) (e := 5) h Tryd.underlying34 Tryd.underlying5 Tryd.underlying9
  have htb : ((text b).toList == (text b).toList) = true := by simp
  rw [hbn] at hEM hcv
  obtain ⟨T2, hT2⟩ : ∃ q, text b = q := ⟨_, rfl⟩
  rw [hT2] at hcv htb
  obtain ⟨mn, hmn⟩ : ∃ q, m.length = q := ⟨_, rfl⟩
  rw [hmn] at hEM
  have HEM := Lib.hid hEM
  have HCV := Lib.hid hcv
  have HD := Lib.hid (fun W h => by have := dposted (hD W h); rwa [hmn] at this)
  clear hEM hcv hT2 hmn hmg hmb
  have hPS := fun W => pparse_c s (by omega) W
  have hgp := fun m (h : pparseS s = (m, 0)) => parse_good h
  obtain ⟨⟨m2, f2⟩, hm2⟩ : ∃ q, pparseS s = q := ⟨_, rfl⟩
  rw [hm2] at hPS hgp hp
  simp only at hp
  have hfb2 : (f2 == 0) = false := by simpa using hp
  obtain ⟨S, hS⟩ : ∃ q, text s = q := ⟨_, rfl⟩
  rw [hS] at hPS hsz ⊢
  obtain ⟨mn2, hmn2⟩ : ∃ q, m2.length = q := ⟨_, rfl⟩
  have HPS := Lib.hid (fun W => by have := dposted (hPS W); rwa [hmn2] at this)
  clear hS hmn2
  have hcur := Below.refl w.heap.size w
  obtain ⟨L, hL⟩ : ∃ q, s.length = q := ⟨_, rfl⟩
  rw [hL] at hsz h3i
  clear hG hD hgd hPS hgp hm hm2 hl hs hb hT h1 h2 h3 hL hln hbn hz hp
  go_enter Tryd.func6, Tryd.ntmps6
  go_upto_region 5 with (first
    | (go_at_call 18; (with_reducible refine (HG.out _ hcur).mono ?_); rintro e9 w9 ⟨rfl, hb9⟩; (replace hcur := hcur.trans (hb9.mono hcur.size)); clear hb9)
    | (go_at_call 20; (with_reducible refine (HE.out _ hcur).mono ?_); rintro e9 w1 ⟨b1, c1, rfl, y1, hb1⟩))
  replace hcur := hcur.trans (hb1.mono hcur.size)
  have Y1 := Lib.hid y1
  clear hb1 y1
  go_upto_region 6 with (go_at_call 25; (with_reducible refine (HP.out _ hcur).mono ?_); rintro e9 w2 ⟨rfl, hb2⟩)
  replace hcur := hcur.trans (hb2.mono hcur.size)
  have Y2 := Lib.hid (Y1.out.below hb2)
  clear hb2 Y1
  go_upto_region 7 with (go_at_call 22; (with_reducible refine (HDX.out _ _ _ Y2.out).mono ?_); rintro e9 w3 ⟨b3, c3, rfl, y3, hb3⟩)
  replace hcur := hcur.trans (hb3.mono hcur.size)
  have Y3 := Lib.hid y3
  clear hb3 y3 Y2
  go_upto_region 8 with (go_at_call 27; (with_reducible refine (HPX.out _).mono ?_); rintro e9 w4 ⟨b4, c4, rfl, y4, hb4⟩)
  replace hcur := hcur.trans (hb4.mono hcur.size)
  have HS1 := Lib.hid (HSL.out _ _ _ _ _ (Y3.out.below hb4) (HL.out.below hcur))
  have Y4 := Lib.hid y4
  clear hb4 y4 Y3
  go_upto_region 10 with (first
    | (go_at_call 24; (with_reducible refine HS1.out.mono ?_); rintro e9 w5 ⟨rfl, hb5⟩; (replace hcur := hcur.trans (hb5.mono hcur.size)); have HS2 := Lib.hid (HSL.out _ _ _ _ _ (Y4.out.below hb5) (HL.out.below hcur)); clear hb5)
    | (go_at_call 24; (with_reducible refine HS2.out.mono ?_); rintro e9 w6 ⟨rfl, hb6⟩; (replace hcur := hcur.trans (hb6.mono hcur.size)); clear hb6))
  go_upto_region 11 with (go_at_call 22; (with_reducible refine (HD.out _ hcur).mono ?_); rintro e9 w7 ⟨b7, c7, rfl, y7, hb7⟩)
  replace hcur := hcur.trans (hb7.mono hcur.size)
  have Y7 := Lib.hid y7
  clear hb7 y7
  go_upto_region 13 with (go_at_call 20; (with_reducible refine (HEM.out _ _ _ hcur Y7.out).mono ?_); rintro e9 w8 ⟨b8, c8, rfl, y8, hb8⟩)
  replace hcur := hcur.trans (hb8.mono hcur.size)
  have q1 := HCV.out _ _ _ y8
  have q2 := HCV.out _ _ _ (HB.out.below hcur)
  clear hb8 y8 Y7
  go_upto_region 15 with (fail)
  clear q1 q2
  go_upto_region 16 with (go_at_call 27; (with_reducible refine (HPS.out _).mono ?_); rintro e9 w10 ⟨b10, c10, rfl, y10, hb10⟩)
  replace hcur := hcur.trans (hb10.mono hcur.size)
  have Y10 := Lib.hid y10
  clear hb10 y10
  go_wp2_with ((go_at_call 13; (with_reducible refine (HLv.out _ hcur).mono ?_); rintro e9 w9 ⟨rfl, hb9⟩; (replace hcur := hcur.trans (hb9.mono hcur.size)); clear hb9))
  go_ret
  exact ⟨rfl, hcur⟩

set_option maxHeartbeats 3200000 in
theorem pback_101 {w : World} {a a' : Option Addr} {n cap n' cap' : Nat} {l : List Grp} {b : List UInt8} (s : List UInt8) (hl : Grs w a n cap l) (hs : ∀ g ∈ l, g.1.length ≤ 9223372036854775807) (hb : Bys w a' n' cap' b) (hT : TabW w)
    (h1 : ¬ 1000 < n) (h2 : ¬ 1000 < n') (h3 : ¬ 1000 < s.length) (hz : pgoodS l = 0) (hd : (pdecS b).2 ≠ 0) (hp : (pparseS s).2 = 0) :
    Calls Tryd.prog 6 #[.slice a n cap, .slice a' n' cap', .string (text s)] w (Tells (.bool true) w) := by
  have hln := hl.len
  have hbn := hb.len
  have hle := hl.le
  have hmx := hl.max
  have hle' := hb.le
  have hmx' := hb.max
  have h1i : ¬ (1000 : Int) < (n : Int) := by omega
  have h2i : ¬ (1000 : Int) < (n' : Int) := by omega
  have h3i : ¬ (1000 : Int) < (s.length : Int) := by omega
  have hsz : ((text s).size : Int) = s.length := by rw [text_len]
  have HLv := Lib.hid (fun W (h : Below w.heap.size w W) => plives_c (hT.below h))
  have HL := Lib.hid hl
  have HB := Lib.hid hb
  have hG := fun W (h : Below w.heap.size w W) => pgood_c (hl.below h) hs
  rw [hz] at hG
  have hE := fun W (h : Below w.heap.size w W) => eposted (pencode_c (hl.below h) hs (hT.below h))
  rw [hz, if_pos rfl] at hE
  have hP := fun W (h : Below w.heap.size w W) => pprint_c (hl.below h) hs
  rw [hz, if_pos rfl] at hP
  have hPX := fun W => dposted (by have := pparse_c (ptextS l) (by have := ptext_len hz; omega) W; rwa [parse_back hz] at this)
  have hDX := fun (W : World) (a : Option Addr) (c : Nat) (h : Bys W a (pbytesS l).length c (pbytesS l)) => dposted (by have := pdecode_c h; rwa [dec_back hz] at this)
  have hSL := fun (W : World) (a a' : Option Addr) (c c' : Nat) (h : Grs W a l.length c l) (h' : Grs W a' l.length c' l) => same_self h h'
  rw [hln] at hPX hDX hSL
  obtain ⟨xn, hxn⟩ : ∃ q, (pbytesS l).length = q := ⟨_, rfl⟩
  rw [hxn] at hE hDX
  obtain ⟨T1, hT1⟩ : ∃ q, text (ptextS l) = q := ⟨_, rfl⟩
  rw [hT1] at hP hPX
  have HE := Lib.hid hE
  have HP := Lib.hid hP
  have HPX := Lib.hid hPX
  have HDX := Lib.hid hDX
  have HSL := Lib.hid hSL
  clear hE hP hPX hDX hSL hxn hT1
  have HG := Lib.hid hG
  have hD := fun W (h : Below w.heap.size w W) => pdecode_c (hb.below h)
  have hgd := fun m (h : pdecS b = (m, 0)) => dec_good h
  obtain ⟨⟨m, f⟩, hm⟩ : ∃ q, pdecS b = q := ⟨_, rfl⟩
  rw [hm] at hD hgd hd
  simp only at hd
  have hfb : (f == 0) = false := by simpa using hd
  obtain ⟨mn, hmn⟩ : ∃ q, m.length = q := ⟨_, rfl⟩
  have HD := Lib.hid (fun W h => by have := dposted (hD W h); rwa [hmn] at this)
  clear hmn
  have hPS := fun W => pparse_c s (by omega) W
  have hgp := fun m (h : pparseS s = (m, 0)) => parse_good h
  obtain ⟨⟨m2, f2⟩, hm2⟩ : ∃ q, pparseS s = q := ⟨_, rfl⟩
  rw [hm2] at hPS hgp hp
  simp only at hp
  subst hp
  obtain ⟨hpg, hps⟩ := hgp m2 rfl
  have hPM := fun (W : World) (a : Option Addr) (c : Nat) (h : Grs W a m2.length c m2) => by have := pprint_c h (good_lens hpg); rwa [hpg, if_pos rfl, hps] at this
  have htb2 : ((text s).toList == (text s).toList) = true := by simp
  obtain ⟨S, hS⟩ : ∃ q, text s = q := ⟨_, rfl⟩
  rw [hS] at hPM htb2 hPS hsz ⊢
  obtain ⟨mn2, hmn2⟩ : ∃ q, m2.length = q := ⟨_, rfl⟩
  rw [hmn2] at hPM
  have HPM := Lib.hid hPM
  have HPS := Lib.hid (fun W => by have := dposted (hPS W); rwa [hmn2] at this)
  clear hPM hS hmn2 hpg hps
  have hcur := Below.refl w.heap.size w
  obtain ⟨L, hL⟩ : ∃ q, s.length = q := ⟨_, rfl⟩
  rw [hL] at hsz h3i
  clear hG hD hgd hPS hgp hm hm2 hl hs hb hT h1 h2 h3 hL hln hbn hz hd
  go_enter Tryd.func6, Tryd.ntmps6
  go_upto_region 5 with (first
    | (go_at_call 18; (with_reducible refine (HG.out _ hcur).mono ?_); rintro e9 w9 ⟨rfl, hb9⟩; (replace hcur := hcur.trans (hb9.mono hcur.size)); clear hb9)
    | (go_at_call 20; (with_reducible refine (HE.out _ hcur).mono ?_); rintro e9 w1 ⟨b1, c1, rfl, y1, hb1⟩))
  replace hcur := hcur.trans (hb1.mono hcur.size)
  have Y1 := Lib.hid y1
  clear hb1 y1
  go_upto_region 6 with (go_at_call 25; (with_reducible refine (HP.out _ hcur).mono ?_); rintro e9 w2 ⟨rfl, hb2⟩)
  replace hcur := hcur.trans (hb2.mono hcur.size)
  have Y2 := Lib.hid (Y1.out.below hb2)
  clear hb2 Y1
  go_upto_region 7 with (go_at_call 22; (with_reducible refine (HDX.out _ _ _ Y2.out).mono ?_); rintro e9 w3 ⟨b3, c3, rfl, y3, hb3⟩)
  replace hcur := hcur.trans (hb3.mono hcur.size)
  have Y3 := Lib.hid y3
  clear hb3 y3 Y2
  go_upto_region 8 with (go_at_call 27; (with_reducible refine (HPX.out _).mono ?_); rintro e9 w4 ⟨b4, c4, rfl, y4, hb4⟩)
  replace hcur := hcur.trans (hb4.mono hcur.size)
  have HS1 := Lib.hid (HSL.out _ _ _ _ _ (Y3.out.below hb4) (HL.out.below hcur))
  have Y4 := Lib.hid y4
  clear hb4 y4 Y3
  go_upto_region 10 with (first
    | (go_at_call 24; (with_reducible refine HS1.out.mono ?_); rintro e9 w5 ⟨rfl, hb5⟩; (replace hcur := hcur.trans (hb5.mono hcur.size)); have HS2 := Lib.hid (HSL.out _ _ _ _ _ (Y4.out.below hb5) (HL.out.below hcur)); clear hb5)
    | (go_at_call 24; (with_reducible refine HS2.out.mono ?_); rintro e9 w6 ⟨rfl, hb6⟩; (replace hcur := hcur.trans (hb6.mono hcur.size)); clear hb6))
  go_upto_region 11 with (go_at_call 22; (with_reducible refine (HD.out _ hcur).mono ?_); rintro e9 w7 ⟨b7, c7, rfl, y7, hb7⟩)
  replace hcur := hcur.trans (hb7.mono hcur.size)
  have Y7 := Lib.hid y7
  clear hb7 y7
  go_upto_region 15 with (fail)
  go_upto_region 16 with (go_at_call 27; (with_reducible refine (HPS.out _).mono ?_); rintro e9 w10 ⟨b10, c10, rfl, y10, hb10⟩)
  replace hcur := hcur.trans (hb10.mono hcur.size)
  have Y10 := Lib.hid y10
  clear hb10 y10
  go_wp2_with (first
    | (go_at_call 25; (with_reducible refine (HPM.out _ _ _ Y10.out).mono ?_); rintro e9 w11 ⟨rfl, hb11⟩; (replace hcur := hcur.trans (hb11.mono hcur.size)); clear hb11)
    | (go_at_call 13; (with_reducible refine (HLv.out _ hcur).mono ?_); rintro e9 w9 ⟨rfl, hb9⟩; (replace hcur := hcur.trans (hb9.mono hcur.size)); clear hb9))
  go_ret
  exact ⟨rfl, hcur⟩

set_option maxHeartbeats 3200000 in
theorem pback_100 {w : World} {a a' : Option Addr} {n cap n' cap' : Nat} {l : List Grp} {b : List UInt8} (s : List UInt8) (hl : Grs w a n cap l) (hs : ∀ g ∈ l, g.1.length ≤ 9223372036854775807) (hb : Bys w a' n' cap' b) (hT : TabW w)
    (h1 : ¬ 1000 < n) (h2 : ¬ 1000 < n') (h3 : ¬ 1000 < s.length) (hz : pgoodS l = 0) (hd : (pdecS b).2 ≠ 0) (hp : (pparseS s).2 ≠ 0) :
    Calls Tryd.prog 6 #[.slice a n cap, .slice a' n' cap', .string (text s)] w (Tells (.bool true) w) := by
  have hln := hl.len
  have hbn := hb.len
  have hle := hl.le
  have hmx := hl.max
  have hle' := hb.le
  have hmx' := hb.max
  have h1i : ¬ (1000 : Int) < (n : Int) := by omega
  have h2i : ¬ (1000 : Int) < (n' : Int) := by omega
  have h3i : ¬ (1000 : Int) < (s.length : Int) := by omega
  have hsz : ((text s).size : Int) = s.length := by rw [text_len]
  have HLv := Lib.hid (fun W (h : Below w.heap.size w W) => plives_c (hT.below h))
  have HL := Lib.hid hl
  have HB := Lib.hid hb
  have hG := fun W (h : Below w.heap.size w W) => pgood_c (hl.below h) hs
  rw [hz] at hG
  have hE := fun W (h : Below w.heap.size w W) => eposted (pencode_c (hl.below h) hs (hT.below h))
  rw [hz, if_pos rfl] at hE
  have hP := fun W (h : Below w.heap.size w W) => pprint_c (hl.below h) hs
  rw [hz, if_pos rfl] at hP
  have hPX := fun W => dposted (by have := pparse_c (ptextS l) (by have := ptext_len hz; omega) W; rwa [parse_back hz] at this)
  have hDX := fun (W : World) (a : Option Addr) (c : Nat) (h : Bys W a (pbytesS l).length c (pbytesS l)) => dposted (by have := pdecode_c h; rwa [dec_back hz] at this)
  have hSL := fun (W : World) (a a' : Option Addr) (c c' : Nat) (h : Grs W a l.length c l) (h' : Grs W a' l.length c' l) => same_self h h'
  rw [hln] at hPX hDX hSL
  obtain ⟨xn, hxn⟩ : ∃ q, (pbytesS l).length = q := ⟨_, rfl⟩
  rw [hxn] at hE hDX
  obtain ⟨T1, hT1⟩ : ∃ q, text (ptextS l) = q := ⟨_, rfl⟩
  rw [hT1] at hP hPX
  have HE := Lib.hid hE
  have HP := Lib.hid hP
  have HPX := Lib.hid hPX
  have HDX := Lib.hid hDX
  have HSL := Lib.hid hSL
  clear hE hP hPX hDX hSL hxn hT1
  have HG := Lib.hid hG
  have hD := fun W (h : Below w.heap.size w W) => pdecode_c (hb.below h)
  have hgd := fun m (h : pdecS b = (m, 0)) => dec_good h
  obtain ⟨⟨m, f⟩, hm⟩ : ∃ q, pdecS b = q := ⟨_, rfl⟩
  rw [hm] at hD hgd hd
  simp only at hd
  have hfb : (f == 0) = false := by simpa using hd
  obtain ⟨mn, hmn⟩ : ∃ q, m.length = q := ⟨_, rfl⟩
  have HD := Lib.hid (fun W h => by have := dposted (hD W h); rwa [hmn] at this)
  clear hmn
  have hPS := fun W => pparse_c s (by omega) W
  have hgp := fun m (h : pparseS s = (m, 0)) => parse_good h
  obtain ⟨⟨m2, f2⟩, hm2⟩ : ∃ q, pparseS s = q := ⟨_, rfl⟩
  rw [hm2] at hPS hgp hp
  simp only at hp
  have hfb2 : (f2 == 0) = false := by simpa using hp
  obtain ⟨S, hS⟩ : ∃ q, text s = q := ⟨_, rfl⟩
  rw [hS] at hPS hsz ⊢
  obtain ⟨mn2, hmn2⟩ : ∃ q, m2.length = q := ⟨_, rfl⟩
  have HPS := Lib.hid (fun W => by have := dposted (hPS W); rwa [hmn2] at this)
  clear hS hmn2
  have hcur := Below.refl w.heap.size w
  obtain ⟨L, hL⟩ : ∃ q, s.length = q := ⟨_, rfl⟩
  rw [hL] at hsz h3i
  clear hG hD hgd hPS hgp hm hm2 hl hs hb hT h1 h2 h3 hL hln hbn hz hd hp
  go_enter Tryd.func6, Tryd.ntmps6
  go_upto_region 5 with (first
    | (go_at_call 18; (with_reducible refine (HG.out _ hcur).mono ?_); rintro e9 w9 ⟨rfl, hb9⟩; (replace hcur := hcur.trans (hb9.mono hcur.size)); clear hb9)
    | (go_at_call 20; (with_reducible refine (HE.out _ hcur).mono ?_); rintro e9 w1 ⟨b1, c1, rfl, y1, hb1⟩))
  replace hcur := hcur.trans (hb1.mono hcur.size)
  have Y1 := Lib.hid y1
  clear hb1 y1
  go_upto_region 6 with (go_at_call 25; (with_reducible refine (HP.out _ hcur).mono ?_); rintro e9 w2 ⟨rfl, hb2⟩)
  replace hcur := hcur.trans (hb2.mono hcur.size)
  have Y2 := Lib.hid (Y1.out.below hb2)
  clear hb2 Y1
  go_upto_region 7 with (go_at_call 22; (with_reducible refine (HDX.out _ _ _ Y2.out).mono ?_); rintro e9 w3 ⟨b3, c3, rfl, y3, hb3⟩)
  replace hcur := hcur.trans (hb3.mono hcur.size)
  have Y3 := Lib.hid y3
  clear hb3 y3 Y2
  go_upto_region 8 with (go_at_call 27; (with_reducible refine (HPX.out _).mono ?_); rintro e9 w4 ⟨b4, c4, rfl, y4, hb4⟩)
  replace hcur := hcur.trans (hb4.mono hcur.size)
  have HS1 := Lib.hid (HSL.out _ _ _ _ _ (Y3.out.below hb4) (HL.out.below hcur))
  have Y4 := Lib.hid y4
  clear hb4 y4 Y3
  go_upto_region 10 with (first
    | (go_at_call 24; (with_reducible refine HS1.out.mono ?_); rintro e9 w5 ⟨rfl, hb5⟩; (replace hcur := hcur.trans (hb5.mono hcur.size)); have HS2 := Lib.hid (HSL.out _ _ _ _ _ (Y4.out.below hb5) (HL.out.below hcur)); clear hb5)
    | (go_at_call 24; (with_reducible refine HS2.out.mono ?_); rintro e9 w6 ⟨rfl, hb6⟩; (replace hcur := hcur.trans (hb6.mono hcur.size)); clear hb6))
  go_upto_region 11 with (go_at_call 22; (with_reducible refine (HD.out _ hcur).mono ?_); rintro e9 w7 ⟨b7, c7, rfl, y7, hb7⟩)
  replace hcur := hcur.trans (hb7.mono hcur.size)
  have Y7 := Lib.hid y7
  clear hb7 y7
  go_upto_region 15 with (fail)
  go_upto_region 16 with (go_at_call 27; (with_reducible refine (HPS.out _).mono ?_); rintro e9 w10 ⟨b10, c10, rfl, y10, hb10⟩)
  replace hcur := hcur.trans (hb10.mono hcur.size)
  have Y10 := Lib.hid y10
  clear hb10 y10
  go_wp2_with ((go_at_call 13; (with_reducible refine (HLv.out _ hcur).mono ?_); rintro e9 w9 ⟨rfl, hb9⟩; (replace hcur := hcur.trans (hb9.mono hcur.size)); clear hb9))
  go_ret
  exact ⟨rfl, hcur⟩

set_option maxHeartbeats 3200000 in
theorem pback_011 {w : World} {a a' : Option Addr} {n cap n' cap' : Nat} {l : List Grp} {b : List UInt8} (s : List UInt8) (hl : Grs w a n cap l) (hs : ∀ g ∈ l, g.1.length ≤ 9223372036854775807) (hb : Bys w a' n' cap' b) (hT : TabW w)
    (h1 : ¬ 1000 < n) (h2 : ¬ 1000 < n') (h3 : ¬ 1000 < s.length) (hz : pgoodS l ≠ 0) (hd : (pdecS b).2 = 0) (hp : (pparseS s).2 = 0) :
    Calls Tryd.prog 6 #[.slice a n cap, .slice a' n' cap', .string (text s)] w (Tells (.bool true) w) := by
  have hln := hl.len
  have hbn := hb.len
  have hle := hl.le
  have hmx := hl.max
  have hle' := hb.le
  have hmx' := hb.max
  have h1i : ¬ (1000 : Int) < (n : Int) := by omega
  have h2i : ¬ (1000 : Int) < (n' : Int) := by omega
  have h3i : ¬ (1000 : Int) < (s.length : Int) := by omega
  have hsz : ((text s).size : Int) = s.length := by rw [text_len]
  have HLv := Lib.hid (fun W (h : Below w.heap.size w W) => plives_c (hT.below h))
  have HL := Lib.hid hl
  have HB := Lib.hid hb
  have hG := fun W (h : Below w.heap.size w W) => pgood_c (hl.below h) hs
  obtain ⟨z, hzz⟩ : ∃ q, pgoodS l = q := ⟨_, rfl⟩
  rw [hzz] at hG hz
  have hzb : (z == 0) = false := by simpa using hz
  clear hzz
  have HG := Lib.hid hG
  have hD := fun W (h : Below w.heap.size w W) => pdecode_c (hb.below h)
  have hgd := fun m (h : pdecS b = (m, 0)) => dec_good h
  obtain ⟨⟨m, f⟩, hm⟩ : ∃ q, pdecS b = q := ⟨_, rfl⟩
  rw [hm] at hD hgd hd
  simp only at hd
  subst hd
  obtain ⟨hmg, hmb⟩ := hgd m rfl
  have hEM := fun (W : World) (a : Option Addr) (c : Nat) (hW : Below w.heap.size w W) (h : Grs W a m.length c m) => eposted (by have := pencode_c h (good_lens hmg) (hT.below hW); rwa [hmg, if_pos rfl, hmb] at this)
  have hcv := fun (W : World) (a : Option Addr) (c : Nat) (h : Bys W a b.length c b) => conv_bys (P := Tryd.prog) (src := 34) (dst := 9) (e := 5) h Tryd.underlying34 Tryd.underlying5 Tryd.underlying9
  have htb : ((text b).toList == (text b).toList) = true := by simp
  rw [hbn] at hEM hcv
  obtain ⟨T2, hT2⟩ : ∃ q, text b = q := ⟨_, rfl⟩
  rw [hT2] at hcv htb
  obtain ⟨mn, hmn⟩ : ∃ q, m.length = q := ⟨_, rfl⟩
  rw [hmn] at hEM
  have HEM := Lib.hid hEM
  have HCV := Lib.hid hcv
  have HD := Lib.hid (fun W h => by have := dposted (hD W h); rwa [hmn] at this)
  clear hEM hcv hT2 hmn hmg hmb
  have hPS := fun W => pparse_c s (by omega) W
  have hgp := fun m (h : pparseS s = (m, 0)) => parse_good h
  obtain ⟨⟨m2, f2⟩, hm2⟩ : ∃ q, pparseS s = q := ⟨_, rfl⟩
  rw [hm2] at hPS hgp hp
  simp only at hp
  subst hp
  obtain ⟨hpg, hps⟩ := hgp m2 rfl
  have hPM := fun (W : World) (a : Option Addr) (c : Nat) (h : Grs W a m2.length c m2) => by have := pprint_c h (good_lens hpg); rwa [hpg, if_pos rfl, hps] at this
  have htb2 : ((text s).toList == (text s).toList) = true := by simp
  obtain ⟨S, hS⟩ : ∃ q, text s = q := ⟨_, rfl⟩
  rw [hS] at hPM htb2 hPS hsz ⊢
  obtain ⟨mn2, hmn2⟩ : ∃ q, m2.length = q := ⟨_, rfl⟩
  rw [hmn2] at hPM
  have HPM := Lib.hid hPM
  have HPS := Lib.hid (fun W => by have := dposted (hPS W); rwa [hmn2] at this)
  clear hPM hS hmn2 hpg hps
  have hcur := Below.refl w.heap.size w
  obtain ⟨L, hL⟩ : ∃ q, s.length = q := ⟨_, rfl⟩
  rw [hL] at hsz h3i
  clear hG hD hgd hPS hgp hm hm2 hl hs hb hT h1 h2 h3 hL hln hbn hz
  go_enter Tryd.func6, Tryd.ntmps6
  go_upto_region 11 with (first
    | (go_at_call 18; (with_reducible refine (HG.out _ hcur).mono ?_); rintro e9 w9 ⟨rfl, hb9⟩; (replace hcur := hcur.trans (hb9.mono hcur.size)); clear hb9)
    | (go_at_call 22; (with_reducible refine (HD.out _ hcur).mono ?_); rintro e9 w7 ⟨b7, c7, rfl, y7, hb7⟩))
  replace hcur := hcur.trans (hb7.mono hcur.size)
  have Y7 := Lib.hid y7
  clear hb7 y7
  go_upto_region 13 with (go_at_call 20; (with_reducible refine (HEM.out _ _ _ hcur Y7.out).mono ?_); rintro e9 w8 ⟨b8, c8, rfl, y8, hb8⟩)
  replace hcur := hcur.trans (hb8.mono hcur.size)
  have q1 := HCV.out _ _ _ y8
  have q2 := HCV.out _ _ _ (HB.out.below hcur)
  clear hb8 y8 Y7
  go_upto_region 15 with (fail)
  clear q1 q2
  go_upto_region 16 with (go_at_call 27; (with_reducible refine (HPS.out _).mono ?_); rintro e9 w10 ⟨b10, c10, rfl, y10, hb10⟩)
  replace hcur := hcur.trans (hb10.mono hcur.size)
  have Y10 := Lib.hid y10
  clear hb10 y10
  go_wp2_with (first
    | (go_at_call 25; (with_reducible refine (HPM.out _ _ _ Y10.out).mono ?_); rintro e9 w11 ⟨rfl, hb11⟩; (replace hcur := hcur.trans (hb11.mono hcur.size)); clear hb11)
    | (go_at_call 13; (with_reducible refine (HLv.out _ hcur).mono ?_); rintro e9 w9 ⟨rfl, hb9⟩; (replace hcur := hcur.trans (hb9.mono hcur.size)); clear hb9))
  go_ret
  exact ⟨rfl, hcur⟩

set_option maxHeartbeats 3200000 in
theorem pback_010 {w : World} {a a' : Option Addr} {n cap n' cap' : Nat} {l : List Grp} {b : List UInt8} (s : List UInt8) (hl : Grs w a n cap l) (hs : ∀ g ∈ l, g.1.length ≤ 9223372036854775807) (hb : Bys w a' n' cap' b) (hT : TabW w)
    (h1 : ¬ 1000 < n) (h2 : ¬ 1000 < n') (h3 : ¬ 1000 < s.length) (hz : pgoodS l ≠ 0) (hd : (pdecS b).2 = 0) (hp : (pparseS s).2 ≠ 0) :
    Calls Tryd.prog 6 #[.slice a n cap, .slice a' n' cap', .string (text s)] w (Tells (.bool true) w) := by
  have hln := hl.len
  have hbn := hb.len
  have hle := hl.le
  have hmx := hl.max
  have hle' := hb.le
  have hmx' := hb.max
  have h1i : ¬ (1000 : Int) < (n : Int) := by omega
  have h2i : ¬ (1000 : Int) < (n' : Int) := by omega
  have h3i : ¬ (1000 : Int) < (s.length : Int) := by omega
  have hsz : ((text s).size : Int) = s.length := by rw [text_len]
  have HLv := Lib.hid (fun W (h : Below w.heap.size w W) => plives_c (hT.below h))
  have HL := Lib.hid hl
  have HB := Lib.hid hb
  have hG := fun W (h : Below w.heap.size w W) => pgood_c (hl.below h) hs
  obtain ⟨z, hzz⟩ : ∃ q, pgoodS l = q := ⟨_, rfl⟩
  rw [hzz] at hG hz
  have hzb : (z == 0) = false := by simpa using hz
  clear hzz
  have HG := Lib.hid hG
  have hD := fun W (h : Below w.heap.size w W) => pdecode_c (hb.below h)
  have hgd := fun m (h : pdecS b = (m, 0)) => dec_good h
  obtain ⟨⟨m, f⟩, hm⟩ : ∃ q, pdecS b = q := ⟨_, rfl⟩
  rw [hm] at hD hgd hd
  simp only at hd
  subst hd
  obtain ⟨hmg, hmb⟩ := hgd m rfl
  have hEM := fun (W : World) (a : Option Addr) (c : Nat) (hW : Below w.heap.size w W) (h : Grs W a m.length c m) => eposted (by have := pencode_c h (good_lens hmg) (hT.below hW); rwa [hmg, if_pos rfl, hmb] at this)
  have hcv := fun (W : World) (a : Option Addr) (c : Nat) (h : Bys W a b.length c b) => conv_bys (P := Tryd.prog) (src := 34) (dst := 9) (e := 5) h Tryd.underlying34 Tryd.underlying5 Tryd.underlying9
  have htb : ((text b).toList == (text b).toList) = true := by simp
  rw [hbn] at hEM hcv
  obtain ⟨T2, hT2⟩ : ∃ q, text b = q := ⟨_, rfl⟩
  rw [hT2] at hcv htb
  obtain ⟨mn, hmn⟩ : ∃ q, m.length = q := ⟨_, rfl⟩
  rw [hmn] at hEM
  have HEM := Lib.hid hEM
  have HCV := Lib.hid hcv
  have HD := Lib.hid (fun W h => by have := dposted (hD W h); rwa [hmn] at this)
  clear hEM hcv hT2 hmn hmg hmb
  have hPS := fun W => pparse_c s (by omega) W
  have hgp := fun m (h : pparseS s = (m, 0)) => parse_good h
  obtain ⟨⟨m2, f2⟩, hm2⟩ : ∃ q, pparseS s = q := ⟨_, rfl⟩
  rw [hm2] at hPS hgp hp
  simp only at hp
  have hfb2 : (f2 == 0) = false := by simpa using hp
  obtain ⟨S, hS⟩ : ∃ q, text s = q := ⟨_, rfl⟩
  rw [hS] at hPS hsz ⊢
  obtain ⟨mn2, hmn2⟩ : ∃ q, m2.length = q := ⟨_, rfl⟩
  have HPS := Lib.hid (fun W => by have := dposted (hPS W); rwa [hmn2] at this)
  clear hS hmn2
  have hcur := Below.refl w.heap.size w
  obtain ⟨L, hL⟩ : ∃ q, s.length = q := ⟨_, rfl⟩
  rw [hL] at hsz h3i
  clear hG hD hgd hPS hgp hm hm2 hl hs hb hT h1 h2 h3 hL hln hbn hz hp
  go_enter Tryd.func6, Tryd.ntmps6
  go_upto_region 11 with (first
    | (go_at_call 18; (with_reducible refine (HG.out _ hcur).mono ?_); rintro e9 w9 ⟨rfl, hb9⟩; (replace hcur := hcur.trans (hb9.mono hcur.size)); clear hb9)
    | (go_at_call 22; (with_reducible refine (HD.out _ hcur).mono ?_); rintro e9 w7 ⟨b7, c7, rfl, y7, hb7⟩))
  replace hcur := hcur.trans (hb7.mono hcur.size)
  have Y7 := Lib.hid y7
  clear hb7 y7
  go_upto_region 13 with (go_at_call 20; (with_reducible refine (HEM.out _ _ _ hcur Y7.out).mono ?_); rintro e9 w8 ⟨b8, c8, rfl, y8, hb8⟩)
  replace hcur := hcur.trans (hb8.mono hcur.size)
  have q1 := HCV.out _ _ _ y8
  have q2 := HCV.out _ _ _ (HB.out.below hcur)
  clear hb8 y8 Y7
  go_upto_region 15 with (fail)
  clear q1 q2
  go_upto_region 16 with (go_at_call 27; (with_reducible refine (HPS.out _).mono ?_); rintro e9 w10 ⟨b10, c10, rfl, y10, hb10⟩)
  replace hcur := hcur.trans (hb10.mono hcur.size)
  have Y10 := Lib.hid y10
  clear hb10 y10
  go_wp2_with ((go_at_call 13; (with_reducible refine (HLv.out _ hcur).mono ?_); rintro e9 w9 ⟨rfl, hb9⟩; (replace hcur := hcur.trans (hb9.mono hcur.size)); clear hb9))
  go_ret
  exact ⟨rfl, hcur⟩

set_option maxHeartbeats 3200000 in
theorem pback_001 {w : World} {a a' : Option Addr} {n cap n' cap' : Nat} {l : List Grp} {b : List UInt8} (s : List UInt8) (hl : Grs w a n cap l) (hs : ∀ g ∈ l, g.1.length ≤ 9223372036854775807) (hb : Bys w a' n' cap' b) (hT : TabW w)
    (h1 : ¬ 1000 < n) (h2 : ¬ 1000 < n') (h3 : ¬ 1000 < s.length) (hz : pgoodS l ≠ 0) (hd : (pdecS b).2 ≠ 0) (hp : (pparseS s).2 = 0) :
    Calls Tryd.prog 6 #[.slice a n cap, .slice a' n' cap', .string (text s)] w (Tells (.bool true) w) := by
  have hln := hl.len
  have hbn := hb.len
  have hle := hl.le
  have hmx := hl.max
  have hle' := hb.le
  have hmx' := hb.max
  have h1i : ¬ (1000 : Int) < (n : Int) := by omega
  have h2i : ¬ (1000 : Int) < (n' : Int) := by omega
  have h3i : ¬ (1000 : Int) < (s.length : Int) := by omega
  have hsz : ((text s).size : Int) = s.length := by rw [text_len]
  have HLv := Lib.hid (fun W (h : Below w.heap.size w W) => plives_c (hT.below h))
  have HL := Lib.hid hl
  have HB := Lib.hid hb
  have hG := fun W (h : Below w.heap.size w W) => pgood_c (hl.below h) hs
  obtain ⟨z, hzz⟩ : ∃ q, pgoodS l = q := ⟨_, rfl⟩
  rw [hzz] at hG hz
  have hzb : (z == 0) = false := by simpa using hz
  clear hzz
  have HG := Lib.hid hG
  have hD := fun W (h : Below w.heap.size w W) => pdecode_c (hb.below h)
  have hgd := fun m (h : pdecS b = (m, 0)) => dec_good h
  obtain ⟨⟨m, f⟩, hm⟩ : ∃ q, pdecS b = q := ⟨_, rfl⟩
  rw [hm] at hD hgd hd
  simp only at hd
  have hfb : (f == 0) = false := by simpa using hd
  obtain ⟨mn, hmn⟩ : ∃ q, m.length = q := ⟨_, rfl⟩
  have HD := Lib.hid (fun W h => by have := dposted (hD W h); rwa [hmn] at this)
  clear hmn
  have hPS := fun W => pparse_c s (by omega) W
  have hgp := fun m (h : pparseS s = (m, 0)) => parse_good h
  obtain ⟨⟨m2, f2⟩, hm2⟩ : ∃ q, pparseS s = q := ⟨_, rfl⟩
  rw [hm2] at hPS hgp hp
  simp only at hp
  subst hp
  obtain ⟨hpg, hps⟩ := hgp m2 rfl
  have hPM := fun (W : World) (a : Option Addr) (c : Nat) (h : Grs W a m2.length c m2) => by have := pprint_c h (good_lens hpg); rwa [hpg, if_pos rfl, hps] at this
  have htb2 : ((text s).toList == (text s).toList) = true := by simp
  obtain ⟨S, hS⟩ : ∃ q, text s = q := ⟨_, rfl⟩
  rw [hS] at hPM htb2 hPS hsz ⊢
  obtain ⟨mn2, hmn2⟩ : ∃ q, m2.length = q := ⟨_, rfl⟩
  rw [hmn2] at hPM
  have HPM := Lib.hid hPM
  have HPS := Lib.hid (fun W => by have := dposted (hPS W); rwa [hmn2] at this)
  clear hPM hS hmn2 hpg hps
  have hcur := Below.refl w.heap.size w
  obtain ⟨L, hL⟩ : ∃ q, s.length = q := ⟨_, rfl⟩
  rw [hL] at hsz h3i
  clear hG hD hgd hPS hgp hm hm2 hl hs hb hT h1 h2 h3 hL hln hbn hz hd
  go_enter Tryd.func6, Tryd.ntmps6
  go_upto_region 11 with (first
    | (go_at_call 18; (with_reducible refine (HG.out _ hcur).mono ?_); rintro e9 w9 ⟨rfl, hb9⟩; (replace hcur := hcur.trans (hb9.mono hcur.size)); clear hb9)
    | (go_at_call 22; (with_reducible refine (HD.out _ hcur).mono ?_); rintro e9 w7 ⟨b7, c7, rfl, y7, hb7⟩))
  replace hcur := hcur.trans (hb7.mono hcur.size)
  have Y7 := Lib.hid y7
  clear hb7 y7
  go_upto_region 15 with (fail)
  go_upto_region 16 with (go_at_call 27; (with_reducible refine (HPS.out _).mono ?_); rintro e9 w10 ⟨b10, c10, rfl, y10, hb10⟩)
  replace hcur := hcur.trans (hb10.mono hcur.size)
  have Y10 := Lib.hid y10
  clear hb10 y10
  go_wp2_with (first
    | (go_at_call 25; (with_reducible refine (HPM.out _ _ _ Y10.out).mono ?_); rintro e9 w11 ⟨rfl, hb11⟩; (replace hcur := hcur.trans (hb11.mono hcur.size)); clear hb11)
    | (go_at_call 13; (with_reducible refine (HLv.out _ hcur).mono ?_); rintro e9 w9 ⟨rfl, hb9⟩; (replace hcur := hcur.trans (hb9.mono hcur.size)); clear hb9))
  go_ret
  exact ⟨rfl, hcur⟩

set_option maxHeartbeats 3200000 in
theorem pback_000 {w : World} {a a' : Option Addr} {n cap n' cap' : Nat} {l : List Grp} {b : List UInt8} (s : List UInt8) (hl : Grs w a n cap l) (hs : ∀ g ∈ l, g.1.length ≤ 9223372036854775807) (hb : Bys w a' n' cap' b) (hT : TabW w)
    (h1 : ¬ 1000 < n) (h2 : ¬ 1000 < n') (h3 : ¬ 1000 < s.length) (hz : pgoodS l ≠ 0) (hd : (pdecS b).2 ≠ 0) (hp : (pparseS s).2 ≠ 0) :
    Calls Tryd.prog 6 #[.slice a n cap, .slice a' n' cap', .string (text s)] w (Tells (.bool true) w) := by
  have hln := hl.len
  have hbn := hb.len
  have hle := hl.le
  have hmx := hl.max
  have hle' := hb.le
  have hmx' := hb.max
  have h1i : ¬ (1000 : Int) < (n : Int) := by omega
  have h2i : ¬ (1000 : Int) < (n' : Int) := by omega
  have h3i : ¬ (1000 : Int) < (s.length : Int) := by omega
  have hsz : ((text s).size : Int) = s.length := by rw [text_len]
  have HLv := Lib.hid (fun W (h : Below w.heap.size w W) => plives_c (hT.below h))
  have HL := Lib.hid hl
  have HB := Lib.hid hb
  have hG := fun W (h : Below w.heap.size w W) => pgood_c (hl.below h) hs
  obtain ⟨z, hzz⟩ : ∃ q, pgoodS l = q := ⟨_, rfl⟩
  rw [hzz] at hG hz
  have hzb : (z == 0) = false := by simpa using hz
  clear hzz
  have HG := Lib.hid hG
  have hD := fun W (h : Below w.heap.size w W) => pdecode_c (hb.below h)
  have hgd := fun m (h : pdecS b = (m, 0)) => dec_good h
  obtain ⟨⟨m, f⟩, hm⟩ : ∃ q, pdecS b = q := ⟨_, rfl⟩
  rw [hm] at hD hgd hd
  simp only at hd
  have hfb : (f == 0) = false := by simpa using hd
  obtain ⟨mn, hmn⟩ : ∃ q, m.length = q := ⟨_, rfl⟩
  have HD := Lib.hid (fun W h => by have := dposted (hD W h); rwa [hmn] at this)
  clear hmn
  have hPS := fun W => pparse_c s (by omega) W
  have hgp := fun m (h : pparseS s = (m, 0)) => parse_good h
  obtain ⟨⟨m2, f2⟩, hm2⟩ : ∃ q, pparseS s = q := ⟨_, rfl⟩
  rw [hm2] at hPS hgp hp
  simp only at hp
  have hfb2 : (f2 == 0) = false := by simpa using hp
  obtain ⟨S, hS⟩ : ∃ q, text s = q := ⟨_, rfl⟩
  rw [hS] at hPS hsz ⊢
  obtain ⟨mn2, hmn2⟩ : ∃ q, m2.length = q := ⟨_, rfl⟩
  have HPS := Lib.hid (fun W => by have := dposted (hPS W); rwa [hmn2] at this)
  clear hS hmn2
  have hcur := Below.refl w.heap.size w
  obtain ⟨L, hL⟩ : ∃ q, s.length = q := ⟨_, rfl⟩
  rw [hL] at hsz h3i
  clear hG hD hgd hPS hgp hm hm2 hl hs hb hT h1 h2 h3 hL hln hbn hz hd hp
  go_enter Tryd.func6, Tryd.ntmps6
  go_upto_region 11 with (first
    | (go_at_call 18; (with_reducible refine (HG.out _ hcur).mono ?_); rintro e9 w9 ⟨rfl, hb9⟩; (replace hcur := hcur.trans (hb9.mono hcur.size)); clear hb9)
    | (go_at_call 22; (with_reducible refine (HD.out _ hcur).mono ?_); rintro e9 w7 ⟨b7, c7, rfl, y7, hb7⟩))
  replace hcur := hcur.trans (hb7.mono hcur.size)
  have Y7 := Lib.hid y7
  clear hb7 y7
  go_upto_region 15 with (fail)
  go_upto_region 16 with (go_at_call 27; (with_reducible refine (HPS.out _).mono ?_); rintro e9 w10 ⟨b10, c10, rfl, y10, hb10⟩)
  replace hcur := hcur.trans (hb10.mono hcur.size)
  have Y10 := Lib.hid y10
  clear hb10 y10
  go_wp2_with ((go_at_call 13; (with_reducible refine (HLv.out _ hcur).mono ?_); rintro e9 w9 ⟨rfl, hb9⟩; (replace hcur := hcur.trans (hb9.mono hcur.size)); clear hb9))
  go_ret
  exact ⟨rfl, hcur⟩

set_option maxHeartbeats 1600000 in
theorem pback_big {w : World} {a a' : Option Addr} {n cap n' cap' : Nat} (s : List UInt8) (hle : n ≤ cap) (hmx : cap ≤ 9223372036854775807) (hle' : n' ≤ cap') (hmx' : cap' ≤ 9223372036854775807) (hT : TabW w)
    (h : 1000 < n ∨ 1000 < n' ∨ 1000 < s.length) :
    Calls Tryd.prog 6 #[.slice a n cap, .slice a' n' cap', .string (text s)] w (Tells (.bool true) w) := by
  have hsz : ((text s).size : Int) = s.length := by rw [text_len]
  have HLv := Lib.hid (fun W (h : Below w.heap.size w W) => plives_c (hT.below h))
  obtain ⟨S, hS⟩ : ∃ q, text s = q := ⟨_, rfl⟩
  obtain ⟨L, hL⟩ : ∃ q, s.length = q := ⟨_, rfl⟩
  rw [hL] at hsz h
  rw [hS] at hsz ⊢
  have hcur := Below.refl w.heap.size w
  clear hS hL hT
  by_cases h1 : 1000 < n
  · have h1i : (1000 : Int) < (n : Int) := by omega
    clear h
    go_enter Tryd.func6, Tryd.ntmps6
    go_wp2_with ((go_at_call 13; (with_reducible refine (HLv.out _ hcur).mono ?_); rintro e9 w9 ⟨rfl, hb9⟩; (replace hcur := hcur.trans (hb9.mono hcur.size)); clear hb9))
    go_ret
    exact ⟨rfl, hcur⟩
  · have h1i : ¬ (1000 : Int) < (n : Int) := by omega
    by_cases h2 : 1000 < n'
    · have h2i : (1000 : Int) < (n' : Int) := by omega
      clear h
      go_enter Tryd.func6, Tryd.ntmps6
      go_wp2_with ((go_at_call 13; (with_reducible refine (HLv.out _ hcur).mono ?_); rintro e9 w9 ⟨rfl, hb9⟩; (replace hcur := hcur.trans (hb9.mono hcur.size)); clear hb9))
      go_ret
      exact ⟨rfl, hcur⟩
    · have h2i : ¬ (1000 : Int) < (n' : Int) := by omega
      have h3i : (1000 : Int) < (L : Int) := by omega
      clear h
      go_enter Tryd.func6, Tryd.ntmps6
      go_wp2_with ((go_at_call 13; (with_reducible refine (HLv.out _ hcur).mono ?_); rintro e9 w9 ⟨rfl, hb9⟩; (replace hcur := hcur.trans (hb9.mono hcur.size)); clear hb9))
      go_ret
      exact ⟨rfl, hcur⟩

theorem pback_walk {w : World} {a a' : Option Addr} {n cap n' cap' : Nat} {l : List Grp} {b : List UInt8} (s : List UInt8) (hl : Grs w a n cap l) (hs : ∀ g ∈ l, g.1.length ≤ 9223372036854775807) (hb : Bys w a' n' cap' b) (hT : TabW w) :
    Calls Tryd.prog 6 #[.slice a n cap, .slice a' n' cap', .string (text s)] w (Tells (.bool true) w) := by
  by_cases h : 1000 < n ∨ 1000 < n' ∨ 1000 < s.length
  · exact pback_big s hl.le hl.max hb.le hb.max hT h
  · have h1 : ¬ 1000 < n := fun x => h (.inl x)
    have h2 : ¬ 1000 < n' := fun x => h (.inr (.inl x))
    have h3 : ¬ 1000 < s.length := fun x => h (.inr (.inr x))
    by_cases hz : pgoodS l = 0 <;> by_cases hd : (pdecS b).2 = 0 <;> by_cases hp : (pparseS s).2 = 0
    · exact pback_111 s hl hs hb hT h1 h2 h3 hz hd hp
    · exact pback_110 s hl hs hb hT h1 h2 h3 hz hd hp
    · exact pback_101 s hl hs hb hT h1 h2 h3 hz hd hp
    · exact pback_100 s hl hs hb hT h1 h2 h3 hz hd hp
    · exact pback_011 s hl hs hb hT h1 h2 h3 hz hd hp
    · exact pback_010 s hl hs hb hT h1 h2 h3 hz hd hp
    · exact pback_001 s hl hs hb hT h1 h2 h3 hz hd hp
    · exact pback_000 s hl hs hb hT h1 h2 h3 hz hd hp
end Go.Proofs.YtkhihfpdghjfmaaDoor
