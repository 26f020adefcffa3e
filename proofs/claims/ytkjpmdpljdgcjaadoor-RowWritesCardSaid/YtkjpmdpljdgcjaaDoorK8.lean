/-
  Cell: the reference's Get.
-/
import Derived.Test.YtkjpmdpljdgcjaaDoorK7
namespace Go.Proofs.YtkjpmdpljdgcjaaDoor
open Go.RowKit Go Go.Sort
set_option linter.unusedVariables false
set_option maxRecDepth 20000

theorem rcread_x {w : World} {ad : Option Addr} {m cap : Nat} {l : List UInt8} (hl : Bys w ad m cap l) : Calls Tryd.prog 83 #[.slice ad m cap] w (fun e9 w' => ∃ (n s a b : Int) (g : Bool) (t : List UInt8) (d e k : Int) (ok : Bool),
    e9 = .returned (.tuple #[.agg #[.int .i64 n, .int .i64 s, .int .i64 a, .int .i64 b, .bool g, .string (text t), .int .i64 d, .int .i64 e], .int .i64 k, .bool ok]) ∧ t.length ≤ 64 ∧ (ok = true → ∃ q : Nat, k = (q : Int) ∧ q ≤ l.length ∧ readS l = some (⟨n, s, a, b, g, t, d, e⟩, q)) ∧ (ok = false → readS l = none) ∧ Below w.heap.size w w') := by
  refine (rcread_c hl).mono fun e9 w' h => ?_
  obtain ⟨⟨n, s, a, b, g, t, d, e⟩, k, ok, h1, h2, h3, h4, h5⟩ := h
  exact ⟨n, s, a, b, g, t, d, e, k, ok, h1, h2, h3, h4, h5⟩
theorem cget_none {l : List UInt8} {p : Int} (h : readS l = none) : cgetS l p = (Cl.zero, 0, 80) := by unfold cgetS; rw [h]
theorem cget_some {l : List UInt8} {p : Int} {c : Cl} {q : Nat} (h : readS l = some (c, q)) : cgetS l p = if c.good p = true ∧ layS [] c = l.take q then (c, (q : Int), 0) else (Cl.zero, 0, 80) := by unfold cgetS; rw [h]
theorem slice_to {W : World} {ad : Option Addr} {m cap : Nat} {l : List UInt8} (h : Bys W ad m cap l) {q : Nat} (hq : q ≤ m) : ∀ W', (Instr.slice 59 (.slice ad m cap) none (some (.int .i64 (q : Int))) none).run Tryd.prog W' = .ok (.slice ad q cap) W' := by
  intro W'
  have := h.le
  obtain ⟨i0, hi, hz0, hz1, hz2⟩ := info_parts Tryd.info5
  have he : Tryd.prog.elem 59 = 5 := by kernel_rfl
  have hsz : (sizeOf 5).run Tryd.prog W' = .ok 1 W' := by simp [sizeOf, typeInfo, hi, hz1, go_sem]
  rw [run_slice_h W' 59 ad m cap (by kernel_rfl) .i64 (q : Int) (by omega) (by omega), Int.toNat_natCast, he, hsz]
  simp only [Result.andThen_ok, sliced, Nat.zero_mul, Nat.sub_zero]
  cases ad <;> simp [Addr.add]

/-- A cell, how many bytes, an error. -/
def CGetPost (r : Cl × Int × Int) (w : World) (e : Ending) (w' : World) : Prop := Tells (.tuple #[.agg r.1.arr, .int .i64 r.2.1, .int .i64 r.2.2]) w e w'

set_option maxRecDepth 100000 in
set_option maxHeartbeats 12800000 in
theorem rcget_c {w : World} {ad : Option Addr} {m cap : Nat} {l : List UInt8} (hl : Bys w ad m cap l) (p : Int) : Calls Tryd.prog 54 #[.slice ad m cap, .int .i64 p] w (CGetPost (cgetS l p) w) := by
  have hlen := hl.len
  have hle := hl.le
  have hmx := hl.max
  have hnil : text ([] : List UInt8) = ⟨#[]⟩ := rfl
  have hr0 := Cel.new w 0 0 0 0 false [] 0 0
  have hB0 := alloc_below w (.cells #[.int .i64 0, .int .i64 0, .int .i64 0, .int .i64 0, .bool false, .string (text []), .int .i64 0, .int .i64 0] 50)
  rw [hnil] at hr0 hB0
  have HL := Lib.hid (fun W (h : Below w.heap.size w W) => hl.below h)
  have HRD := Lib.hid (fun W (h : Below w.heap.size w W) => rcread_x (hl.below h))
  have hN := @cget_none l p
  have hS := @cget_some l p
  clear hl hnil
  go_enter Tryd.func54, Tryd.ntmps54
  go_upto_region 1 with (fail)
  generalize w.alloc (.cells #[.int .i64 0, .int .i64 0, .int .i64 0, .int .i64 0, .bool false, .string ⟨#[]⟩, .int .i64 0, .int .i64 0] 50) = W1 at *
  have HR := Lib.hid hr0
  have HB := Lib.hid hB0
  clear hr0 hB0
  go_upto_region 2 with (go_at_call 83; (with_reducible refine (HRD.out _ HB.out).mono ?_); rintro e9 w2 ⟨n, s, a, b, g, t, d, e, k, ok, rfl, htl, hok, hno, hb2⟩)
  have HR := Lib.hid ((HR.out.kept hb2).alloc (.cells #[.int .i64 n, .int .i64 s, .int .i64 a, .int .i64 b, .bool g, .string (text t), .int .i64 d, .int .i64 e] 50))
  have HC := Lib.hid (Cel.new w2 n s a b g t d e)
  have HB := Lib.hid ((HB.out.trans (hb2.mono HB.out.size)).alloc (Nat.le_trans HB.out.size hb2.size) (.cells #[.int .i64 n, .int .i64 s, .int .i64 a, .int .i64 b, .bool g, .string (text t), .int .i64 d, .int .i64 e] 50))
  obtain ⟨gc, hgc⟩ : ∃ q, w2.heap.size = q := ⟨_, rfl⟩
  rw [hgc] at HC ⊢
  clear hgc hb2 HRD
  generalize w2.alloc (.cells #[.int .i64 n, .int .i64 s, .int .i64 a, .int .i64 b, .bool g, .string (text t), .int .i64 d, .int .i64 e] 50) = W2 at *
  have HCW := Lib.hid (fun W (h : Below W2.heap.size W2 W) => (HC.out.kept h).cs)
  have HRW := Lib.hid (fun W (h : Below W2.heap.size W2 W) => HR.out.kept h)
  cases ok with
  | false =>
    have HV := Lib.hid (hN (hno rfl))
    clear hN hS hno hok
    refine wp_region_flow [none, none, none, none, none, none, none, none, none, none, none, none, none, none, none, none, some 0, some 1, some 2, some 3, some 4, some 5, some 6, some 7, some 8, some 9, some 10, some 11, some 12, some 13, some 14, some 15, some 16, some 17, some 18, none, none, none] (fun i => [undef, undef, undef, undef, undef, undef, undef, undef, undef, undef, undef, undef, undef, undef, undef, undef, undef, undef, undef].getD i undef) [(fun v _ => v = .bool false), (fun v _ => v = .bool true), (fun v _ => v = .bool true), (fun v _ => v = undef), (fun v _ => v = undef), (fun v _ => v = undef), (fun v _ => v = undef), (fun v _ => v = .bool true), (fun v _ => v = .bool true), (fun v _ => v = undef), (fun v _ => v = undef), (fun v _ => v = undef), (fun v _ => v = undef), (fun v _ => v = undef), (fun v _ => v = undef), (fun v _ => v = undef), (fun v _ => v = undef), (fun v _ => v = undef), (fun v _ => v = .bool true)] (by kernel_rfl) (by kernel_rfl) rfl rfl rfl ?_ ?_ ?_
    · intro g hg v X Y hX hY hv
      simp only [List.mem_cons, List.not_mem_nil, or_false] at hg
      rcases hg with rfl | rfl | rfl | rfl | rfl | rfl | rfl | rfl | rfl | rfl | rfl | rfl | rfl | rfl | rfl | rfl | rfl | rfl | rfl
      all_goals first
        | exact hv
        | exact hv.kept hY
    · simp only [flowOps, and_true]
      refine ⟨?_, ?_, ?_, ?_, ?_, ?_, ?_, ?_, ?_, ?_, ?_, ?_, ?_, ?_, ?_, ?_, ?_, ?_, ?_⟩
      · intro xs W hW hn
        simp only [flowAct, List.zipWith_cons_cons, List.zipWith_nil_left]
        go_wp2_with (fail)
        exact ⟨rfl, _, rfl, Below.refl _ _, rfl⟩
      · intro xs W hW hn
        simp [flowNeeds, Region.binds] at hn
        simp only [flowAct, List.zipWith_cons_cons, List.zipWith_nil_left]
        try simp only [hn]
        go_wp2_with (fail)
        exact ⟨rfl, _, rfl, Below.refl _ _, rfl⟩
      · intro xs W hW hn
        simp [flowNeeds, Region.binds] at hn
        simp only [flowAct, List.zipWith_cons_cons, List.zipWith_nil_left]
        try simp only [hn]
        go_wp2_with (fail)
        exact ⟨rfl, _, rfl, Below.refl _ _, rfl⟩
      · intro xs W hW hn
        simp [flowNeeds, Region.binds] at hn
        simp only [flowAct, List.zipWith_cons_cons, List.zipWith_nil_left]
        try simp only [hn]
        go_wp2_with (fail)
        exact ⟨rfl, _, rfl, Below.refl _ _, rfl⟩
      · intro xs W hW hn
        simp [flowNeeds, Region.binds] at hn
        simp only [flowAct, List.zipWith_cons_cons, List.zipWith_nil_left]
        try simp only [hn]
        go_wp2_with (fail)
        exact ⟨rfl, _, rfl, Below.refl _ _, rfl⟩
      · intro xs W hW hn
        simp [flowNeeds, Region.binds] at hn
        simp only [flowAct, List.zipWith_cons_cons, List.zipWith_nil_left]
        try simp only [hn]
        go_wp2_with (fail)
        exact ⟨rfl, _, rfl, Below.refl _ _, rfl⟩
      · intro xs W hW hn
        simp [flowNeeds, Region.binds] at hn
        simp only [flowAct, List.zipWith_cons_cons, List.zipWith_nil_left]
        try simp only [hn]
        go_wp2_with (fail)
        exact ⟨rfl, _, rfl, Below.refl _ _, rfl⟩
      · intro xs W hW hn
        simp [flowNeeds, Region.binds] at hn
        simp only [flowAct, List.zipWith_cons_cons, List.zipWith_nil_left]
        try simp only [hn]
        go_wp2_with (fail)
        exact ⟨rfl, _, rfl, Below.refl _ _, rfl⟩
      · intro xs W hW hn
        simp [flowNeeds, Region.binds] at hn
        simp only [flowAct, List.zipWith_cons_cons, List.zipWith_nil_left]
        try simp only [hn]
        go_wp2_with (fail)
        exact ⟨rfl, _, rfl, Below.refl _ _, rfl⟩
      · intro xs W hW hn
        simp [flowNeeds, Region.binds] at hn
        simp only [flowAct, List.zipWith_cons_cons, List.zipWith_nil_left]
        try simp only [hn]
        go_wp2_with (fail)
        exact ⟨rfl, _, rfl, Below.refl _ _, rfl⟩
      · intro xs W hW hn
        simp [flowNeeds, Region.binds] at hn
        simp only [flowAct, List.zipWith_cons_cons, List.zipWith_nil_left]
        try simp only [hn]
        go_wp2_with (fail)
        exact ⟨rfl, _, rfl, Below.refl _ _, rfl⟩
      · intro xs W hW hn
        simp [flowNeeds, Region.binds] at hn
        simp only [flowAct, List.zipWith_cons_cons, List.zipWith_nil_left]
        try simp only [hn]
        go_wp2_with (fail)
        exact ⟨rfl, _, rfl, Below.refl _ _, rfl⟩
      · intro xs W hW hn
        simp [flowNeeds, Region.binds] at hn
        simp only [flowAct, List.zipWith_cons_cons, List.zipWith_nil_left]
        try simp only [hn]
        go_wp2_with (fail)
        exact ⟨rfl, _, rfl, Below.refl _ _, rfl⟩
      · intro xs W hW hn
        simp [flowNeeds, Region.binds] at hn
        simp only [flowAct, List.zipWith_cons_cons, List.zipWith_nil_left]
        try simp only [hn]
        go_wp2_with (fail)
        exact ⟨rfl, _, rfl, Below.refl _ _, rfl⟩
      · intro xs W hW hn
        simp [flowNeeds, Region.binds] at hn
        simp only [flowAct, List.zipWith_cons_cons, List.zipWith_nil_left]
        try simp only [hn]
        go_wp2_with (fail)
        exact ⟨rfl, _, rfl, Below.refl _ _, rfl⟩
      · intro xs W hW hn
        simp [flowNeeds, Region.binds] at hn
        simp only [flowAct, List.zipWith_cons_cons, List.zipWith_nil_left]
        try simp only [hn]
        go_wp2_with (fail)
        exact ⟨rfl, _, rfl, Below.refl _ _, rfl⟩
      · intro xs W hW hn
        simp [flowNeeds, Region.binds] at hn
        simp only [flowAct, List.zipWith_cons_cons, List.zipWith_nil_left]
        try simp only [hn]
        go_wp2_with (fail)
        exact ⟨rfl, _, rfl, Below.refl _ _, rfl⟩
      · intro xs W hW hn
        simp [flowNeeds, Region.binds] at hn
        simp only [flowAct, List.zipWith_cons_cons, List.zipWith_nil_left]
        try simp only [hn]
        go_wp2_with (fail)
        exact ⟨rfl, _, rfl, Below.refl _ _, rfl⟩
      · intro xs W hW hn
        simp [flowNeeds, Region.binds] at hn
        simp only [flowAct, List.zipWith_cons_cons, List.zipWith_nil_left]
        try simp only [hn]
        go_wp2_with (fail)
        exact ⟨rfl, _, rfl, Below.refl _ _, rfl⟩
    · intro xs W hW hall
      simp only [flowAll, and_true, Nat.zero_add, Nat.reduceAdd] at hall
      obtain ⟨-, -, -, -, -, -, -, -, -, -, -, -, -, -, -, -, -, -, e18⟩ := hall
      simp only [flowAct, List.zipWith_cons_cons, List.zipWith_nil_left, e18]
      obtain ⟨c0, c1, c2, c3, c4, c5, c6, c7⟩ := HCW.out W hW
      obtain ⟨r0, r1, r2, r3, r4, r5, r6, r7⟩ := (HRW.out W hW).cs
      have zr := (HRW.out W hW).fz
      go_wp2
      refine bodyPost_ret (res_cell_tmp2 rfl _ _ w.heap.size 50 _ (0, 0) _ (.int .i64 0) (.int .i64 80) rfl rfl rfl ((HRW.out W hW).put 0 0 0 0 false [] 0 0) Tryd.underlying50 rfl (sizeC _ _ _ _ _ _ _ _)) rfl ⟨by rw [HV.out]; rfl, put_below (HB.out.trans (hW.mono HB.out.size)) (Nat.le_refl _) _ _ _ _ _ _ _ _⟩
  | true =>
    obtain ⟨q, rfl, hql, hrd⟩ := hok rfl
    have hqm : q ≤ m := by omega
    have hsl := slice_to (HL.out _ HB.out) (q := q) hqm
    have hSS := hS hrd
    have hG := fun W => rcgood_c p n s a b g t d e (by omega) W
    have hPT := fun W => rcput_c (w := W) (ad := none) (m := 0) (cap := 0) (l := []) ⟨rfl, Nat.le_refl _, by omega, .inl rfl⟩ (by omega) p n s a b g t d e (by omega)
    have hcp := (show cputS [] p ⟨n, s, a, b, g, t, d, e⟩ = if cgoodS p n s a b g t d e = true then layS [] ⟨n, s, a, b, g, t, d, e⟩ else [] from rfl)
    change cgetS l p = if cgoodS p n s a b g t d e = true ∧ layS [] ⟨n, s, a, b, g, t, d, e⟩ = l.take q then (⟨n, s, a, b, g, t, d, e⟩, (q : Int), 0) else (Cl.zero, 0, 80) at hSS
    have hcv := fun (W : World) (a3 : Option Addr) (c3 : Nat) (m3 : List UInt8) (n3 : Nat) (h3 : Bys W a3 n3 c3 m3) => conv_bys (P := Tryd.prog) h3 Tryd.underlying59 Tryd.underlying5 Tryd.underlying9
    have HCV := Lib.hid hcv
    cases hg : cgoodS p n s a b g t d e with
    | false =>
      rw [hg] at hG hSS
      have HGD := Lib.hid hG
      have HV := Lib.hid (show cgetS l p = (Cl.zero, 0, 80) by rw [hSS, if_neg (fun h => by cases h.1)])
      clear hN hS hno hok hSS hG hPT hcp hcv hrd hg
      refine wp_region_flow [none, none, none, none, none, none, none, none, none, none, none, none, none, none, none, none, some 0, some 1, some 2, some 3, some 4, some 5, some 6, some 7, some 8, some 9, some 10, some 11, some 12, some 13, some 14, some 15, some 16, some 17, some 18, none, none, none] (fun i => [undef, undef, undef, undef, undef, undef, undef, undef, undef, undef, undef, undef, undef, undef, undef, undef, undef, undef, undef].getD i undef) [(fun v _ => v = .bool true), (fun v _ => v = .bool false), (fun v _ => v = .bool false), (fun v _ => v = .int .i64 p), (fun v _ => v = .agg #[.int .i64 n, .int .i64 s, .int .i64 a, .int .i64 b, .bool g, .string (text t), .int .i64 d, .int .i64 e]), (fun v _ => v = .bool false), (fun v _ => v = .bool true), (fun v _ => v = .bool true), (fun v _ => v = .bool true), (fun v _ => v = undef), (fun v _ => v = undef), (fun v _ => v = undef), (fun v _ => v = undef), (fun v _ => v = undef), (fun v _ => v = undef), (fun v _ => v = undef), (fun v _ => v = undef), (fun v _ => v = undef), (fun v _ => v = .bool true)] (by kernel_rfl) (by kernel_rfl) rfl rfl rfl ?_ ?_ ?_
      · intro g hg v X Y hX hY hv
        simp only [List.mem_cons, List.not_mem_nil, or_false] at hg
        rcases hg with rfl | rfl | rfl | rfl | rfl | rfl | rfl | rfl | rfl | rfl | rfl | rfl | rfl | rfl | rfl | rfl | rfl | rfl | rfl
        all_goals first
          | exact hv
          | exact hv.kept hY
      · simp only [flowOps, and_true]
        refine ⟨?_, ?_, ?_, ?_, ?_, ?_, ?_, ?_, ?_, ?_, ?_, ?_, ?_, ?_, ?_, ?_, ?_, ?_, ?_⟩
        · intro xs W hW hn
          simp only [flowAct, List.zipWith_cons_cons, List.zipWith_nil_left]
          go_wp2_with (fail)
          exact ⟨rfl, _, rfl, Below.refl _ _, rfl⟩
        · intro xs W hW hn
          simp [flowNeeds, Region.binds] at hn
          simp only [flowAct, List.zipWith_cons_cons, List.zipWith_nil_left]
          try simp only [hn]
          go_wp2_with (fail)
          exact ⟨rfl, _, rfl, Below.refl _ _, rfl⟩
        · intro xs W hW hn
          simp [flowNeeds, Region.binds] at hn
          simp only [flowAct, List.zipWith_cons_cons, List.zipWith_nil_left]
          try simp only [hn]
          go_wp2_with (fail)
          exact ⟨rfl, _, rfl, Below.refl _ _, rfl⟩
        · intro xs W hW hn
          simp [flowNeeds, Region.binds] at hn
          simp only [flowAct, List.zipWith_cons_cons, List.zipWith_nil_left]
          try simp only [hn]
          go_wp2_with (fail)
          exact ⟨rfl, _, rfl, Below.refl _ _, rfl⟩
        · intro xs W hW hn
          obtain ⟨c0, c1, c2, c3, c4, c5, c6, c7⟩ := HCW.out W hW
          simp [flowNeeds, Region.binds] at hn
          simp only [flowAct, List.zipWith_cons_cons, List.zipWith_nil_left]
          try simp only [hn]
          go_wp2_with (fail)
          exact ⟨rfl, _, rfl, Below.refl _ _, rfl⟩
        · intro xs W hW hn
          simp [flowNeeds, Region.binds] at hn
          simp only [flowAct, List.zipWith_cons_cons, List.zipWith_nil_left]
          simp only [hn]
          go_wp2_with (go_at_call 43; (with_reducible refine (HGD.out _).mono ?_); rintro e9 w9 ⟨rfl, hb9⟩)
          exact ⟨rfl, _, rfl, hb9, rfl⟩
        · intro xs W hW hn
          simp [flowNeeds, Region.binds] at hn
          simp only [flowAct, List.zipWith_cons_cons, List.zipWith_nil_left]
          try simp only [hn]
          go_wp2_with (fail)
          exact ⟨rfl, _, rfl, Below.refl _ _, rfl⟩
        · intro xs W hW hn
          simp [flowNeeds, Region.binds] at hn
          simp only [flowAct, List.zipWith_cons_cons, List.zipWith_nil_left]
          try simp only [hn]
          go_wp2_with (fail)
          exact ⟨rfl, _, rfl, Below.refl _ _, rfl⟩
        · intro xs W hW hn
          simp [flowNeeds, Region.binds] at hn
          simp only [flowAct, List.zipWith_cons_cons, List.zipWith_nil_left]
          try simp only [hn]
          go_wp2_with (fail)
          exact ⟨rfl, _, rfl, Below.refl _ _, rfl⟩
        · intro xs W hW hn
          simp [flowNeeds, Region.binds] at hn
          simp only [flowAct, List.zipWith_cons_cons, List.zipWith_nil_left]
          try simp only [hn]
          go_wp2_with (fail)
          exact ⟨rfl, _, rfl, Below.refl _ _, rfl⟩
        · intro xs W hW hn
          simp [flowNeeds, Region.binds] at hn
          simp only [flowAct, List.zipWith_cons_cons, List.zipWith_nil_left]
          try simp only [hn]
          go_wp2_with (fail)
          exact ⟨rfl, _, rfl, Below.refl _ _, rfl⟩
        · intro xs W hW hn
          simp [flowNeeds, Region.binds] at hn
          simp only [flowAct, List.zipWith_cons_cons, List.zipWith_nil_left]
          try simp only [hn]
          go_wp2_with (fail)
          exact ⟨rfl, _, rfl, Below.refl _ _, rfl⟩
        · intro xs W hW hn
          simp [flowNeeds, Region.binds] at hn
          simp only [flowAct, List.zipWith_cons_cons, List.zipWith_nil_left]
          try simp only [hn]
          go_wp2_with (fail)
          exact ⟨rfl, _, rfl, Below.refl _ _, rfl⟩
        · intro xs W hW hn
          simp [flowNeeds, Region.binds] at hn
          simp only [flowAct, List.zipWith_cons_cons, List.zipWith_nil_left]
          try simp only [hn]
          go_wp2_with (fail)
          exact ⟨rfl, _, rfl, Below.refl _ _, rfl⟩
        · intro xs W hW hn
          simp [flowNeeds, Region.binds] at hn
          simp only [flowAct, List.zipWith_cons_cons, List.zipWith_nil_left]
          try simp only [hn]
          go_wp2_with (fail)
          exact ⟨rfl, _, rfl, Below.refl _ _, rfl⟩
        · intro xs W hW hn
          simp [flowNeeds, Region.binds] at hn
          simp only [flowAct, List.zipWith_cons_cons, List.zipWith_nil_left]
          try simp only [hn]
          go_wp2_with (fail)
          exact ⟨rfl, _, rfl, Below.refl _ _, rfl⟩
        · intro xs W hW hn
          simp [flowNeeds, Region.binds] at hn
          simp only [flowAct, List.zipWith_cons_cons, List.zipWith_nil_left]
          try simp only [hn]
          go_wp2_with (fail)
          exact ⟨rfl, _, rfl, Below.refl _ _, rfl⟩
        · intro xs W hW hn
          simp [flowNeeds, Region.binds] at hn
          simp only [flowAct, List.zipWith_cons_cons, List.zipWith_nil_left]
          try simp only [hn]
          go_wp2_with (fail)
          exact ⟨rfl, _, rfl, Below.refl _ _, rfl⟩
        · intro xs W hW hn
          simp [flowNeeds, Region.binds] at hn
          simp only [flowAct, List.zipWith_cons_cons, List.zipWith_nil_left]
          try simp only [hn]
          go_wp2_with (fail)
          exact ⟨rfl, _, rfl, Below.refl _ _, rfl⟩
      · intro xs W hW hall
        simp only [flowAll, and_true, Nat.zero_add, Nat.reduceAdd] at hall
        obtain ⟨-, -, -, -, -, -, -, -, -, -, -, -, -, -, -, -, -, -, e18⟩ := hall
        simp only [flowAct, List.zipWith_cons_cons, List.zipWith_nil_left, e18]
        obtain ⟨c0, c1, c2, c3, c4, c5, c6, c7⟩ := HCW.out W hW
        obtain ⟨r0, r1, r2, r3, r4, r5, r6, r7⟩ := (HRW.out W hW).cs
        have zr := (HRW.out W hW).fz
        go_wp2
        refine bodyPost_ret (res_cell_tmp2 rfl _ _ w.heap.size 50 _ (0, 0) _ (.int .i64 0) (.int .i64 80) rfl rfl rfl ((HRW.out W hW).put 0 0 0 0 false [] 0 0) Tryd.underlying50 rfl (sizeC _ _ _ _ _ _ _ _)) rfl ⟨by rw [HV.out]; rfl, put_below (HB.out.trans (hW.mono HB.out.size)) (Nat.le_refl _) _ _ _ _ _ _ _ _⟩
    | true =>
      rw [hg] at hG hSS hcp
      rw [if_pos rfl] at hcp
      obtain ⟨X, hX⟩ : ∃ X, layS [] ⟨n, s, a, b, g, t, d, e⟩ = X := ⟨_, rfl⟩
      rw [hX] at hSS hcp
      rw [hcp] at hPT
      have HGD := Lib.hid hG
      have HPT := Lib.hid hPT
      have hts : ((text X).toList == (text (l.take q)).toList) = decide (X = l.take q) := by rw [text_toList, text_toList, Bool.eq_iff_iff]; simp
      by_cases he : X = l.take q
      · have HV := Lib.hid (show cgetS l p = (⟨n, s, a, b, g, t, d, e⟩, (q : Int), 0) by rw [hSS, if_pos ⟨rfl, he⟩])
        rw [decide_eq_true he] at hts
        clear hN hS hno hok hSS hG hPT hcp hcv hrd hg hX he
        refine wp_region_flow [none, none, none, none, none, none, none, none, none, none, none, none, none, none, none, none, some 0, some 1, some 2, some 3, some 4, some 5, some 6, some 7, some 8, some 9, some 10, some 11, some 12, some 13, some 14, some 15, some 16, some 17, some 18, none, none, none] (fun i => [undef, undef, undef, undef, undef, undef, undef, undef, undef, undef, undef, undef, undef, undef, undef, undef, undef, undef, undef].getD i undef) [(fun v _ => v = .bool true), (fun v _ => v = .bool false), (fun v _ => v = .bool false), (fun v _ => v = .int .i64 p), (fun v _ => v = .agg #[.int .i64 n, .int .i64 s, .int .i64 a, .int .i64 b, .bool g, .string (text t), .int .i64 d, .int .i64 e]), (fun v _ => v = .bool true), (fun v _ => v = .bool false), (fun v _ => v = .bool false), (fun v _ => v = .bool false), (fun v _ => v = .int .i64 p), (fun v _ => v = .agg #[.int .i64 n, .int .i64 s, .int .i64 a, .int .i64 b, .bool g, .string (text t), .int .i64 d, .int .i64 e]), (fun v W => OwnB W 0 5 v X), (fun v _ => v = .string (text X)), (fun v _ => v = .slice ad m cap), (fun v _ => v = .int .i64 (q : Int)), (fun v _ => v = .slice ad q cap), (fun v _ => v = .string (text (l.take q))), (fun v _ => v = .bool false), (fun v _ => v = .bool false)] (by kernel_rfl) (by kernel_rfl) rfl rfl rfl ?_ ?_ ?_
        · intro g hg v X Y hX hY hv
          simp only [List.mem_cons, List.not_mem_nil, or_false] at hg
          rcases hg with rfl | rfl | rfl | rfl | rfl | rfl | rfl | rfl | rfl | rfl | rfl | rfl | rfl | rfl | rfl | rfl | rfl | rfl | rfl
          all_goals first
            | exact hv
            | exact hv.kept hY
        · simp only [flowOps, and_true]
          refine ⟨?_, ?_, ?_, ?_, ?_, ?_, ?_, ?_, ?_, ?_, ?_, ?_, ?_, ?_, ?_, ?_, ?_, ?_, ?_⟩
          · intro xs W hW hn
            simp only [flowAct, List.zipWith_cons_cons, List.zipWith_nil_left]
            go_wp2_with (fail)
            exact ⟨rfl, _, rfl, Below.refl _ _, rfl⟩
          · intro xs W hW hn
            simp [flowNeeds, Region.binds] at hn
            simp only [flowAct, List.zipWith_cons_cons, List.zipWith_nil_left]
            try simp only [hn]
            go_wp2_with (fail)
            exact ⟨rfl, _, rfl, Below.refl _ _, rfl⟩
          · intro xs W hW hn
            simp [flowNeeds, Region.binds] at hn
            simp only [flowAct, List.zipWith_cons_cons, List.zipWith_nil_left]
            try simp only [hn]
            go_wp2_with (fail)
            exact ⟨rfl, _, rfl, Below.refl _ _, rfl⟩
          · intro xs W hW hn
            simp [flowNeeds, Region.binds] at hn
            simp only [flowAct, List.zipWith_cons_cons, List.zipWith_nil_left]
            try simp only [hn]
            go_wp2_with (fail)
            exact ⟨rfl, _, rfl, Below.refl _ _, rfl⟩
          · intro xs W hW hn
            obtain ⟨c0, c1, c2, c3, c4, c5, c6, c7⟩ := HCW.out W hW
            simp [flowNeeds, Region.binds] at hn
            simp only [flowAct, List.zipWith_cons_cons, List.zipWith_nil_left]
            try simp only [hn]
            go_wp2_with (fail)
            exact ⟨rfl, _, rfl, Below.refl _ _, rfl⟩
          · intro xs W hW hn
            simp [flowNeeds, Region.binds] at hn
            simp only [flowAct, List.zipWith_cons_cons, List.zipWith_nil_left]
            simp only [hn]
            go_wp2_with (go_at_call 43; (with_reducible refine (HGD.out _).mono ?_); rintro e9 w9 ⟨rfl, hb9⟩)
            exact ⟨rfl, _, rfl, hb9, rfl⟩
          · intro xs W hW hn
            simp [flowNeeds, Region.binds] at hn
            simp only [flowAct, List.zipWith_cons_cons, List.zipWith_nil_left]
            try simp only [hn]
            go_wp2_with (fail)
            exact ⟨rfl, _, rfl, Below.refl _ _, rfl⟩
          · intro xs W hW hn
            simp [flowNeeds, Region.binds] at hn
            simp only [flowAct, List.zipWith_cons_cons, List.zipWith_nil_left]
            try simp only [hn]
            go_wp2_with (fail)
            exact ⟨rfl, _, rfl, Below.refl _ _, rfl⟩
          · intro xs W hW hn
            simp [flowNeeds, Region.binds] at hn
            simp only [flowAct, List.zipWith_cons_cons, List.zipWith_nil_left]
            try simp only [hn]
            go_wp2_with (fail)
            exact ⟨rfl, _, rfl, Below.refl _ _, rfl⟩
          · intro xs W hW hn
            simp [flowNeeds, Region.binds] at hn
            simp only [flowAct, List.zipWith_cons_cons, List.zipWith_nil_left]
            try simp only [hn]
            go_wp2_with (fail)
            exact ⟨rfl, _, rfl, Below.refl _ _, rfl⟩
          · intro xs W hW hn
            obtain ⟨c0, c1, c2, c3, c4, c5, c6, c7⟩ := HCW.out W hW
            simp [flowNeeds, Region.binds] at hn
            simp only [flowAct, List.zipWith_cons_cons, List.zipWith_nil_left]
            try simp only [hn]
            go_wp2_with (fail)
            exact ⟨rfl, _, rfl, Below.refl _ _, rfl⟩
          · intro xs W hW hn
            simp [flowNeeds, Region.binds] at hn
            simp only [flowAct, List.zipWith_cons_cons, List.zipWith_nil_left]
            simp only [hn]
            go_wp2_with (go_at_call 58; (with_reducible refine (HPT.out _).mono ?_); rintro e9 w9 ⟨v9, rfl, ho9, hb9⟩)
            exact ⟨rfl, _, rfl, hb9, ho9.mono (Nat.zero_le _)⟩
          · intro xs W hW hn
            simp [flowNeeds, Region.binds] at hn
            simp only [flowAct, List.zipWith_cons_cons, List.zipWith_nil_left]
            obtain ⟨ho3, e5⟩ := hn
            obtain ⟨a3, c3, e3, hy3⟩ := ho3.bys
            have hcv := HCV.out _ _ _ _ _ hy3
            simp only [e3, e5]
            go_wp2_with (fail)
            exact ⟨rfl, _, rfl, Below.refl _ _, rfl⟩
          · intro xs W hW hn
            simp [flowNeeds, Region.binds] at hn
            simp only [flowAct, List.zipWith_cons_cons, List.zipWith_nil_left]
            try simp only [hn]
            go_wp2_with (fail)
            exact ⟨rfl, _, rfl, Below.refl _ _, rfl⟩
          · intro xs W hW hn
            simp [flowNeeds, Region.binds] at hn
            simp only [flowAct, List.zipWith_cons_cons, List.zipWith_nil_left]
            try simp only [hn]
            go_wp2_with (fail)
            exact ⟨rfl, _, rfl, Below.refl _ _, rfl⟩
          · intro xs W hW hn
            simp [flowNeeds, Region.binds] at hn
            simp only [flowAct, List.zipWith_cons_cons, List.zipWith_nil_left]
            try simp only [hn]
            go_wp2_with (fail)
            exact ⟨rfl, _, rfl, Below.refl _ _, rfl⟩
          · intro xs W hW hn
            simp [flowNeeds, Region.binds] at hn
            simp only [flowAct, List.zipWith_cons_cons, List.zipWith_nil_left]
            have hcv := HCV.out _ _ _ _ _ ((HL.out W (HB.out.trans (hW.mono HB.out.size))).take hqm)
            simp only [hn]
            go_wp2_with (fail)
            exact ⟨rfl, _, rfl, Below.refl _ _, rfl⟩
          · intro xs W hW hn
            simp [flowNeeds, Region.binds] at hn
            simp only [flowAct, List.zipWith_cons_cons, List.zipWith_nil_left]
            try simp only [hn]
            go_wp2_with (fail)
            exact ⟨rfl, _, rfl, Below.refl _ _, rfl⟩
          · intro xs W hW hn
            simp [flowNeeds, Region.binds] at hn
            simp only [flowAct, List.zipWith_cons_cons, List.zipWith_nil_left]
            try simp only [hn]
            go_wp2_with (fail)
            exact ⟨rfl, _, rfl, Below.refl _ _, rfl⟩
        · intro xs W hW hall
          simp only [flowAll, and_true, Nat.zero_add, Nat.reduceAdd] at hall
          obtain ⟨-, -, -, -, -, -, -, -, -, -, -, -, -, -, -, -, -, -, e18⟩ := hall
          simp only [flowAct, List.zipWith_cons_cons, List.zipWith_nil_left, e18]
          obtain ⟨c0, c1, c2, c3, c4, c5, c6, c7⟩ := HCW.out W hW
          obtain ⟨r0, r1, r2, r3, r4, r5, r6, r7⟩ := (HRW.out W hW).cs
          have zr := (HRW.out W hW).fz
          go_wp2
          refine bodyPost_ret (res_cell_tmp2 rfl _ _ w.heap.size 50 _ (0, 0) _ (.int .i64 (q : Int)) (.int .i64 0) rfl rfl rfl ((HRW.out W hW).put n s a b g t d e) Tryd.underlying50 rfl (sizeC _ _ _ _ _ _ _ _)) rfl ⟨by rw [HV.out]; rfl, put_below (HB.out.trans (hW.mono HB.out.size)) (Nat.le_refl _) _ _ _ _ _ _ _ _⟩
      · have HV := Lib.hid (show cgetS l p = (Cl.zero, 0, 80) by rw [hSS, if_neg (fun h => he h.2)])
        rw [decide_eq_false he] at hts
        clear hN hS hno hok hSS hG hPT hcp hcv hrd hg hX he
        refine wp_region_flow [none, none, none, none, none, none, none, none, none, none, none, none, none, none, none, none, some 0, some 1, some 2, some 3, some 4, some 5, some 6, some 7, some 8, some 9, some 10, some 11, some 12, some 13, some 14, some 15, some 16, some 17, some 18, none, none, none] (fun i => [undef, undef, undef, undef, undef, undef, undef, undef, undef, undef, undef, undef, undef, undef, undef, undef, undef, undef, undef].getD i undef) [(fun v _ => v = .bool true), (fun v _ => v = .bool false), (fun v _ => v = .bool false), (fun v _ => v = .int .i64 p), (fun v _ => v = .agg #[.int .i64 n, .int .i64 s, .int .i64 a, .int .i64 b, .bool g, .string (text t), .int .i64 d, .int .i64 e]), (fun v _ => v = .bool true), (fun v _ => v = .bool false), (fun v _ => v = .bool false), (fun v _ => v = .bool false), (fun v _ => v = .int .i64 p), (fun v _ => v = .agg #[.int .i64 n, .int .i64 s, .int .i64 a, .int .i64 b, .bool g, .string (text t), .int .i64 d, .int .i64 e]), (fun v W => OwnB W 0 5 v X), (fun v _ => v = .string (text X)), (fun v _ => v = .slice ad m cap), (fun v _ => v = .int .i64 (q : Int)), (fun v _ => v = .slice ad q cap), (fun v _ => v = .string (text (l.take q))), (fun v _ => v = .bool true), (fun v _ => v = .bool true)] (by kernel_rfl) (by kernel_rfl) rfl rfl rfl ?_ ?_ ?_
        · intro g hg v X Y hX hY hv
          simp only [List.mem_cons, List.not_mem_nil, or_false] at hg
          rcases hg with rfl | rfl | rfl | rfl | rfl | rfl | rfl | rfl | rfl | rfl | rfl | rfl | rfl | rfl | rfl | rfl | rfl | rfl | rfl
          all_goals first
            | exact hv
            | exact hv.kept hY
        · simp only [flowOps, and_true]
          refine ⟨?_, ?_, ?_, ?_, ?_, ?_, ?_, ?_, ?_, ?_, ?_, ?_, ?_, ?_, ?_, ?_, ?_, ?_, ?_⟩
          · intro xs W hW hn
            simp only [flowAct, List.zipWith_cons_cons, List.zipWith_nil_left]
            go_wp2_with (fail)
            exact ⟨rfl, _, rfl, Below.refl _ _, rfl⟩
          · intro xs W hW hn
            simp [flowNeeds, Region.binds] at hn
            simp only [flowAct, List.zipWith_cons_cons, List.zipWith_nil_left]
            try simp only [hn]
            go_wp2_with (fail)
            exact ⟨rfl, _, rfl, Below.refl _ _, rfl⟩
          · intro xs W hW hn
            simp [flowNeeds, Region.binds] at hn
            simp only [flowAct, List.zipWith_cons_cons, List.zipWith_nil_left]
            try simp only [hn]
            go_wp2_with (fail)
            exact ⟨rfl, _, rfl, Below.refl _ _, rfl⟩
          · intro xs W hW hn
            simp [flowNeeds, Region.binds] at hn
            simp only [flowAct, List.zipWith_cons_cons, List.zipWith_nil_left]
            try simp only [hn]
            go_wp2_with (fail)
            exact ⟨rfl, _, rfl, Below.refl _ _, rfl⟩
          · intro xs W hW hn
            obtain ⟨c0, c1, c2, c3, c4, c5, c6, c7⟩ := HCW.out W hW
            simp [flowNeeds, Region.binds] at hn
            simp only [flowAct, List.zipWith_cons_cons, List.zipWith_nil_left]
            try simp only [hn]
            go_wp2_with (fail)
            exact ⟨rfl, _, rfl, Below.refl _ _, rfl⟩
          · intro xs W hW hn
            simp [flowNeeds, Region.binds] at hn
            simp only [flowAct, List.zipWith_cons_cons, List.zipWith_nil_left]
            simp only [hn]
            go_wp2_with (go_at_call 43; (with_reducible refine (HGD.out _).mono ?_); rintro e9 w9 ⟨rfl, hb9⟩)
            exact ⟨rfl, _, rfl, hb9, rfl⟩
          · intro xs W hW hn
            simp [flowNeeds, Region.binds] at hn
            simp only [flowAct, List.zipWith_cons_cons, List.zipWith_nil_left]
            try simp only [hn]
            go_wp2_with (fail)
            exact ⟨rfl, _, rfl, Below.refl _ _, rfl⟩
          · intro xs W hW hn
            simp [flowNeeds, Region.binds] at hn
            simp only [flowAct, List.zipWith_cons_cons, List.zipWith_nil_left]
            try simp only [hn]
            go_wp2_with (fail)
            exact ⟨rfl, _, rfl, Below.refl _ _, rfl⟩
          · intro xs W hW hn
            simp [flowNeeds, Region.binds] at hn
            simp only [flowAct, List.zipWith_cons_cons, List.zipWith_nil_left]
            try simp only [hn]
            go_wp2_with (fail)
            exact ⟨rfl, _, rfl, Below.refl _ _, rfl⟩
          · intro xs W hW hn
            simp [flowNeeds, Region.binds] at hn
            simp only [flowAct, List.zipWith_cons_cons, List.zipWith_nil_left]
            try simp only [hn]
            go_wp2_with (fail)
            exact ⟨rfl, _, rfl, Below.refl _ _, rfl⟩
          · intro xs W hW hn
            obtain ⟨c0, c1, c2, c3, c4, c5, c6, c7⟩ := HCW.out W hW
            simp [flowNeeds, Region.binds] at hn
            simp only [flowAct, List.zipWith_cons_cons, List.zipWith_nil_left]
            try simp only [hn]
            go_wp2_with (fail)
            exact ⟨rfl, _, rfl, Below.refl _ _, rfl⟩
          · intro xs W hW hn
            simp [flowNeeds, Region.binds] at hn
            simp only [flowAct, List.zipWith_cons_cons, List.zipWith_nil_left]
            simp only [hn]
            go_wp2_with (go_at_call 58; (with_reducible refine (HPT.out _).mono ?_); rintro e9 w9 ⟨v9, rfl, ho9, hb9⟩)
            exact ⟨rfl, _, rfl, hb9, ho9.mono (Nat.zero_le _)⟩
          · intro xs W hW hn
            simp [flowNeeds, Region.binds] at hn
            simp only [flowAct, List.zipWith_cons_cons, List.zipWith_nil_left]
            obtain ⟨ho3, e5⟩ := hn
            obtain ⟨a3, c3, e3, hy3⟩ := ho3.bys
            have hcv := HCV.out _ _ _ _ _ hy3
            simp only [e3, e5]
            go_wp2_with (fail)
            exact ⟨rfl, _, rfl, Below.refl _ _, rfl⟩
          · intro xs W hW hn
            simp [flowNeeds, Region.binds] at hn
            simp only [flowAct, List.zipWith_cons_cons, List.zipWith_nil_left]
            try simp only [hn]
            go_wp2_with (fail)
            exact ⟨rfl, _, rfl, Below.refl _ _, rfl⟩
          · intro xs W hW hn
            simp [flowNeeds, Region.binds] at hn
            simp only [flowAct, List.zipWith_cons_cons, List.zipWith_nil_left]
            try simp only [hn]
            go_wp2_with (fail)
            exact ⟨rfl, _, rfl, Below.refl _ _, rfl⟩
          · intro xs W hW hn
            simp [flowNeeds, Region.binds] at hn
            simp only [flowAct, List.zipWith_cons_cons, List.zipWith_nil_left]
            try simp only [hn]
            go_wp2_with (fail)
            exact ⟨rfl, _, rfl, Below.refl _ _, rfl⟩
          · intro xs W hW hn
            simp [flowNeeds, Region.binds] at hn
            simp only [flowAct, List.zipWith_cons_cons, List.zipWith_nil_left]
            have hcv := HCV.out _ _ _ _ _ ((HL.out W (HB.out.trans (hW.mono HB.out.size))).take hqm)
            simp only [hn]
            go_wp2_with (fail)
            exact ⟨rfl, _, rfl, Below.refl _ _, rfl⟩
          · intro xs W hW hn
            simp [flowNeeds, Region.binds] at hn
            simp only [flowAct, List.zipWith_cons_cons, List.zipWith_nil_left]
            try simp only [hn]
            go_wp2_with (fail)
            exact ⟨rfl, _, rfl, Below.refl _ _, rfl⟩
          · intro xs W hW hn
            simp [flowNeeds, Region.binds] at hn
            simp only [flowAct, List.zipWith_cons_cons, List.zipWith_nil_left]
            try simp only [hn]
            go_wp2_with (fail)
            exact ⟨rfl, _, rfl, Below.refl _ _, rfl⟩
        · intro xs W hW hall
          simp only [flowAll, and_true, Nat.zero_add, Nat.reduceAdd] at hall
          obtain ⟨-, -, -, -, -, -, -, -, -, -, -, -, -, -, -, -, -, -, e18⟩ := hall
          simp only [flowAct, List.zipWith_cons_cons, List.zipWith_nil_left, e18]
          obtain ⟨c0, c1, c2, c3, c4, c5, c6, c7⟩ := HCW.out W hW
          obtain ⟨r0, r1, r2, r3, r4, r5, r6, r7⟩ := (HRW.out W hW).cs
          have zr := (HRW.out W hW).fz
          go_wp2
          refine bodyPost_ret (res_cell_tmp2 rfl _ _ w.heap.size 50 _ (0, 0) _ (.int .i64 0) (.int .i64 80) rfl rfl rfl ((HRW.out W hW).put 0 0 0 0 false [] 0 0) Tryd.underlying50 rfl (sizeC _ _ _ _ _ _ _ _)) rfl ⟨by rw [HV.out]; rfl, put_below (HB.out.trans (hW.mono HB.out.size)) (Nat.le_refl _) _ _ _ _ _ _ _ _⟩
end Go.Proofs.YtkjpmdpljdgcjaaDoor
