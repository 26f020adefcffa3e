/-
  Stamp: the walk of StampBytes over contracts of the program's functions.
-/
import Derived.Test.YtjlolljlhoclhaaDoorW6
import Derived.Test.YtjlolljlhoclhaaDoorDF
namespace Go.Proofs.YtjlolljlhoclhaaDoor
open Go.RowKit Go Go.Sort
set_option linter.unusedVariables false

/-- What the program's functions of bytes are to tell. -/
structure StampOkB : Prop where
  put : ∀ {w : World} {a : Option Addr} {m cap : Nat} {l : List UInt8}, Bys w a m cap l → m ≤ 1000000 → TabW w → ∀ (n s : Int), Calls Tryd.prog 21 #[.slice a m cap, .agg #[.int .i64 n, .int .i64 s]] w (BytesPost (sputS l n s) w)
  get : ∀ {w : World} {a : Option Addr} {m cap : Nat} {l : List UInt8}, Bys w a m cap l → Calls Tryd.prog 19 #[.slice a m cap] w (Tells (.tuple #[.agg #[.int .i64 (sgetS l).1.1, .int .i64 (sgetS l).1.2], .int .i64 (sgetS l).2.1, .int .i64 (sgetS l).2.2]) w)

theorem posted {P : Program} {f : FuncId} {args : Array Value} {w : World} {l : List UInt8} (h : Calls P f args w (BytesPost l w)) :
    Calls P f args w fun e w' => ∃ b c, e = .returned (.slice b l.length c) ∧ Bys w' b l.length c l ∧ Below w.heap.size w w' := by
  refine h.mono fun e w' hh => ?_
  obtain ⟨v, rfl, ho, hb⟩ := hh
  obtain ⟨b, c, rfl, hy⟩ := ho.bys
  exact ⟨b, c, rfl, hy, hb⟩

set_option maxRecDepth 100000 in
set_option maxHeartbeats 6400000 in
theorem sbytes_walk (K : StampOk) (KB : StampOkB) (n s : Int) {a : Option Addr} {m cap : Nat} {l : List UInt8} {w : World} (hl : Bys w a m cap l) (hT : TabW w) :
    Calls Tryd.prog 5 #[.slice a m cap, .agg #[.int .i64 n, .int .i64 s]] w (Tells (.bool true) w) := by
  have hp := Pair.new w 23 n s
  have hb := alloc_below w (.cells #[.int .i64 n, .int .i64 s] 23)
  have hEQ := stamp_eql
  have hEG := stamp_eqg
  have hmx := hl.max
  have hle := hl.le
  have HLv := Lib.hid (slives_c K)
  have HL := Lib.hid (hl.below hb)
  have HTb := Lib.hid (hT.below hb)
  have HP := Lib.hid hp
  have HB := Lib.hid hb
  have N1 := fun (W : World) (h : Bys W a m cap l) => KB.get h
  have N2 := fun (W : World) (h : Bys W a m cap l) => rsget_c h
  obtain ⟨⟨⟨x, y⟩, k, f⟩, hx⟩ : ∃ q, sgetS l = q := ⟨_, rfl⟩
  simp only [hx] at N1 N2
  have HN1 := Lib.hid N1
  have HN2 := Lib.hid N2
  clear N1 N2 hp hb hx hl hT
  by_cases h1 : 1000 < m
  · have hd : decide ((1000 : Int) < (m : Int)) = true := by simp; omega
    go_enter Tryd.func5, Tryd.ntmps5
    go_wp2_with (go_at_call 10; (with_reducible refine (HLv.out _).mono ?_); rintro e w1 ⟨rfl, hb1⟩)
    go_ret
    exact ⟨rfl, HB.out.trans (hb1.mono HB.out.size)⟩
  · have hd : decide ((1000 : Int) < (m : Int)) = false := by simp; omega
    go_enter Tryd.func5, Tryd.ntmps5
    go_upto_region 3 with (fail)
    generalize w.alloc (.cells #[.int .i64 n, .int .i64 s] 23) = W1 at *
    go_upto_region 4 with (go_at_call 19; (with_reducible refine (HN1.out _ HL.out).mono ?_); rintro e w2 ⟨rfl, hb2⟩)
    have HP2 := Lib.hid ((HP.out.kept hb2).alloc (.cells #[.int .i64 x, .int .i64 y] 23))
    have HX2 := Lib.hid (Pair.new w2 23 x y)
    have HB2 := Lib.hid ((HB.out.trans (hb2.mono HB.out.size)).alloc (Nat.le_trans HB.out.size hb2.size) (.cells #[.int .i64 x, .int .i64 y] 23))
    have HL2 := Lib.hid ((HL.out.below hb2).below (alloc_below w2 (.cells #[.int .i64 x, .int .i64 y] 23)))
    have HT2 := Lib.hid ((HTb.out.below hb2).below (alloc_below w2 (.cells #[.int .i64 x, .int .i64 y] 23)))
    obtain ⟨gx, hgx⟩ : ∃ g, w2.heap.size = g := ⟨_, rfl⟩
    rw [hgx] at HX2 ⊢
    clear hb2 hgx HP HB HL HTb
    generalize w2.alloc (.cells #[.int .i64 x, .int .i64 y] 23) = W2 at *
    go_upto_region 5 with (go_at_call 20; (with_reducible refine (HN2.out _ HL2.out).mono ?_); rintro e w3 ⟨rfl, hb3⟩)
    have HP3 := Lib.hid ((HP2.out.kept hb3).alloc (.cells #[.int .i64 x, .int .i64 y] 23))
    have HX3 := Lib.hid ((HX2.out.kept hb3).alloc (.cells #[.int .i64 x, .int .i64 y] 23))
    have HY3 := Lib.hid (Pair.new w3 23 x y)
    have HB3 := Lib.hid ((HB2.out.trans (hb3.mono HB2.out.size)).alloc (Nat.le_trans HB2.out.size hb3.size) (.cells #[.int .i64 x, .int .i64 y] 23))
    have HL3 := Lib.hid ((HL2.out.below hb3).below (alloc_below w3 (.cells #[.int .i64 x, .int .i64 y] 23)))
    have HT3 := Lib.hid ((HT2.out.below hb3).below (alloc_below w3 (.cells #[.int .i64 x, .int .i64 y] 23)))
    obtain ⟨gy, hgy⟩ : ∃ g, w3.heap.size = g := ⟨_, rfl⟩
    rw [hgy] at HY3 ⊢
    clear hb3 hgy HP2 HX2 HB2 HL2 HT2 HN1 HN2
    generalize w3.alloc (.cells #[.int .i64 x, .int .i64 y] 23) = W3 at *
    have hm6 : m ≤ 1000000 := by omega
    have HPut := Lib.hid (fun W (h : Below W3.heap.size W3 W) => posted (KB.put (HL3.out.below h) hm6 (HT3.out.below h) n s))
    have HRef := Lib.hid (fun W (h : Below W3.heap.size W3 W) => posted (rsput_c (HL3.out.below h) hm6 n s))
    have HC := Lib.hid (fun W (h : Below W3.heap.size W3 W) => (And.intro (HP3.out.kept h).c0 (And.intro (HP3.out.kept h).c1 (And.intro (HX3.out.kept h).c0 (And.intro (HX3.out.kept h).c1 (And.intro (HY3.out.kept h).c0 (HY3.out.kept h).c1))))))
    have hcv := fun {W : World} {b : Option Addr} {c : Nat} (h : Bys W b (sputS l n s).length c (sputS l n s)) => conv_bys (P := Tryd.prog) h Tryd.underlying37 Tryd.underlying5 Tryd.underlying9
    have HCV := Lib.hid (fun (W : World) (b : Option Addr) (c : Nat) (h : Bys W b (sputS l n s).length c (sputS l n s)) => hcv h)
    clear hcv
    have htb : ((text (sputS l n s)).toList == (text (sputS l n s)).toList) = true := by simp
    refine wp_region_flow [none, none, none, none, some 27, none, none, none, none, none, none, none, none, none, none, none, none, none, none, none, none, none, none, none, none, none, none, some 0, some 1, some 2, some 3, some 4, some 5, some 6, some 7, some 8, some 9, some 10, some 11, some 12, some 13, some 14, some 15, some 16, some 17, some 18, some 19, some 20, some 21, some 22, some 23, some 24, some 25, some 26] (fun i => if i = 27 then .bool false else undef) [(fun v _ => v = .slice a m cap), (fun v _ => v = .agg #[.int .i64 n, .int .i64 s]), (fun v W => ∃ b c, v = .slice b (sputS l n s).length c ∧ Bys W b (sputS l n s).length c (sputS l n s)), (fun v _ => v = .string (text (sputS l n s))), (fun v _ => v = .slice a m cap), (fun v _ => v = .agg #[.int .i64 n, .int .i64 s]), (fun v W => ∃ b c, v = .slice b (sputS l n s).length c ∧ Bys W b (sputS l n s).length c (sputS l n s)), (fun v _ => v = .string (text (sputS l n s))), (fun v _ => v = .bool true), (fun v _ => v = .bool true), (fun v _ => v = .agg #[.int .i64 x, .int .i64 y]), (fun v _ => v = .agg #[.int .i64 x, .int .i64 y]), (fun v _ => v = .bool true), (fun v _ => v = .bool true), (fun v _ => v = .bool true), (fun v _ => v = .int .i64 k), (fun v _ => v = .int .i64 k), (fun v _ => v = .bool true), (fun v _ => v = .bool true), (fun v _ => v = .bool true), (fun v _ => v = .int .i64 f), (fun v _ => v = .int .i64 f), (fun v _ => v = .bool true), (fun v _ => v = .bool true), (fun v _ => v = .bool true), (fun v _ => v = .bool true), (fun v _ => v = .bool true), (fun v _ => v = .bool true)] (by kernel_rfl) (by kernel_rfl) rfl rfl rfl ?_ ?_ ?_
    · intro g hg v X Y hX hY hv
      simp only [List.mem_cons, List.not_mem_nil, or_false] at hg
      rcases hg with rfl | rfl | rfl | rfl | rfl | rfl | rfl | rfl | rfl | rfl | rfl | rfl | rfl | rfl | rfl | rfl | rfl | rfl | rfl | rfl | rfl | rfl | rfl | rfl | rfl | rfl | rfl | rfl
      all_goals first
        | exact hv
        | (obtain ⟨b, c, h1, h2⟩ := hv; exact ⟨b, c, h1, h2.below hY⟩)
    · simp only [flowOps, and_true]
      refine ⟨?_, ?_, ?_, ?_, ?_, ?_, ?_, ?_, ?_, ?_, ?_, ?_, ?_, ?_, ?_, ?_, ?_, ?_, ?_, ?_, ?_, ?_, ?_, ?_, ?_, ?_, ?_, ?_⟩
      · intro xs W hW hn
        obtain ⟨p0, p1, x0, x1, y0, y1⟩ := HC.out W hW
        simp only [flowAct, List.zipWith_cons_cons, List.zipWith_nil_left]
        go_wp2_with (fail)
        exact ⟨rfl, _, rfl, Below.refl _ _, rfl⟩
      · intro xs W hW hn
        obtain ⟨p0, p1, x0, x1, y0, y1⟩ := HC.out W hW
        simp only [flowAct, List.zipWith_cons_cons, List.zipWith_nil_left]
        go_wp2_with (fail)
        exact ⟨rfl, _, rfl, Below.refl _ _, rfl⟩
      · intro xs W hW hn
        obtain ⟨p0, p1, x0, x1, y0, y1⟩ := HC.out W hW
        simp [flowNeeds, Region.binds] at hn
        simp only [flowAct, List.zipWith_cons_cons, List.zipWith_nil_left]
        simp only [hn]
        go_wp2_with (go_at_call 21; (with_reducible refine (HPut.out _ hW).mono ?_); rintro e w9 ⟨b, c, rfl, hy, hb9⟩)
        exact ⟨rfl, _, rfl, hb9, b, c, rfl, hy⟩
      · intro xs W hW hn
        obtain ⟨p0, p1, x0, x1, y0, y1⟩ := HC.out W hW
        simp [flowNeeds, Region.binds] at hn
        simp only [flowAct, List.zipWith_cons_cons, List.zipWith_nil_left]
        obtain ⟨b, c, e1, hy⟩ := hn; have kc := HCV.out _ _ _ hy; simp only [e1]
        go_wp2_with (fail)
        exact ⟨rfl, _, rfl, Below.refl _ _, rfl⟩
      · intro xs W hW hn
        obtain ⟨p0, p1, x0, x1, y0, y1⟩ := HC.out W hW
        simp only [flowAct, List.zipWith_cons_cons, List.zipWith_nil_left]
        go_wp2_with (fail)
        exact ⟨rfl, _, rfl, Below.refl _ _, rfl⟩
      · intro xs W hW hn
        obtain ⟨p0, p1, x0, x1, y0, y1⟩ := HC.out W hW
        simp only [flowAct, List.zipWith_cons_cons, List.zipWith_nil_left]
        go_wp2_with (fail)
        exact ⟨rfl, _, rfl, Below.refl _ _, rfl⟩
      · intro xs W hW hn
        obtain ⟨p0, p1, x0, x1, y0, y1⟩ := HC.out W hW
        simp [flowNeeds, Region.binds] at hn
        simp only [flowAct, List.zipWith_cons_cons, List.zipWith_nil_left]
        simp only [hn]
        go_wp2_with (go_at_call 22; (with_reducible refine (HRef.out _ hW).mono ?_); rintro e w9 ⟨b, c, rfl, hy, hb9⟩)
        exact ⟨rfl, _, rfl, hb9, b, c, rfl, hy⟩
      · intro xs W hW hn
        obtain ⟨p0, p1, x0, x1, y0, y1⟩ := HC.out W hW
        simp [flowNeeds, Region.binds] at hn
        simp only [flowAct, List.zipWith_cons_cons, List.zipWith_nil_left]
        obtain ⟨b, c, e1, hy⟩ := hn; have kc := HCV.out _ _ _ hy; simp only [e1]
        go_wp2_with (fail)
        exact ⟨rfl, _, rfl, Below.refl _ _, rfl⟩
      · intro xs W hW hn
        obtain ⟨p0, p1, x0, x1, y0, y1⟩ := HC.out W hW
        simp [flowNeeds, Region.binds] at hn
        simp only [flowAct, List.zipWith_cons_cons, List.zipWith_nil_left]
        simp only [hn]
        go_wp2_with (fail)
        exact ⟨rfl, _, rfl, Below.refl _ _, rfl⟩
      · intro xs W hW hn
        obtain ⟨p0, p1, x0, x1, y0, y1⟩ := HC.out W hW
        simp [flowNeeds, Region.binds] at hn
        simp only [flowAct, List.zipWith_cons_cons, List.zipWith_nil_left]
        simp only [hn]
        go_wp2_with (fail)
        exact ⟨rfl, _, rfl, Below.refl _ _, rfl⟩
      · intro xs W hW hn
        obtain ⟨p0, p1, x0, x1, y0, y1⟩ := HC.out W hW
        simp [flowNeeds, Region.binds] at hn
        simp only [flowAct, List.zipWith_cons_cons, List.zipWith_nil_left]
        simp only [hn]
        go_wp2_with (fail)
        exact ⟨rfl, _, rfl, Below.refl _ _, rfl⟩
      · intro xs W hW hn
        obtain ⟨p0, p1, x0, x1, y0, y1⟩ := HC.out W hW
        simp [flowNeeds, Region.binds] at hn
        simp only [flowAct, List.zipWith_cons_cons, List.zipWith_nil_left]
        simp only [hn]
        go_wp2_with (fail)
        exact ⟨rfl, _, rfl, Below.refl _ _, rfl⟩
      · intro xs W hW hn
        obtain ⟨p0, p1, x0, x1, y0, y1⟩ := HC.out W hW
        simp [flowNeeds, Region.binds] at hn
        simp only [flowAct, List.zipWith_cons_cons, List.zipWith_nil_left]
        simp only [hn]
        go_wp2_with (fail)
        exact ⟨rfl, _, rfl, Below.refl _ _, rfl⟩
      · intro xs W hW hn
        obtain ⟨p0, p1, x0, x1, y0, y1⟩ := HC.out W hW
        simp [flowNeeds, Region.binds] at hn
        simp only [flowAct, List.zipWith_cons_cons, List.zipWith_nil_left]
        simp only [hn]
        go_wp2_with (fail)
        exact ⟨rfl, _, rfl, Below.refl _ _, rfl⟩
      · intro xs W hW hn
        obtain ⟨p0, p1, x0, x1, y0, y1⟩ := HC.out W hW
        simp [flowNeeds, Region.binds] at hn
        simp only [flowAct, List.zipWith_cons_cons, List.zipWith_nil_left]
        simp only [hn]
        go_wp2_with (fail)
        exact ⟨rfl, _, rfl, Below.refl _ _, rfl⟩
      · intro xs W hW hn
        obtain ⟨p0, p1, x0, x1, y0, y1⟩ := HC.out W hW
        simp [flowNeeds, Region.binds] at hn
        simp only [flowAct, List.zipWith_cons_cons, List.zipWith_nil_left]
        simp only [hn]
        go_wp2_with (fail)
        exact ⟨rfl, _, rfl, Below.refl _ _, rfl⟩
      · intro xs W hW hn
        obtain ⟨p0, p1, x0, x1, y0, y1⟩ := HC.out W hW
        simp [flowNeeds, Region.binds] at hn
        simp only [flowAct, List.zipWith_cons_cons, List.zipWith_nil_left]
        simp only [hn]
        go_wp2_with (fail)
        exact ⟨rfl, _, rfl, Below.refl _ _, rfl⟩
      · intro xs W hW hn
        obtain ⟨p0, p1, x0, x1, y0, y1⟩ := HC.out W hW
        simp [flowNeeds, Region.binds] at hn
        simp only [flowAct, List.zipWith_cons_cons, List.zipWith_nil_left]
        simp only [hn]
        go_wp2_with (fail)
        exact ⟨rfl, _, rfl, Below.refl _ _, rfl⟩
      · intro xs W hW hn
        obtain ⟨p0, p1, x0, x1, y0, y1⟩ := HC.out W hW
        simp [flowNeeds, Region.binds] at hn
        simp only [flowAct, List.zipWith_cons_cons, List.zipWith_nil_left]
        simp only [hn]
        go_wp2_with (fail)
        exact ⟨rfl, _, rfl, Below.refl _ _, rfl⟩
      · intro xs W hW hn
        obtain ⟨p0, p1, x0, x1, y0, y1⟩ := HC.out W hW
        simp [flowNeeds, Region.binds] at hn
        simp only [flowAct, List.zipWith_cons_cons, List.zipWith_nil_left]
        simp only [hn]
        go_wp2_with (fail)
        exact ⟨rfl, _, rfl, Below.refl _ _, rfl⟩
      · intro xs W hW hn
        obtain ⟨p0, p1, x0, x1, y0, y1⟩ := HC.out W hW
        simp [flowNeeds, Region.binds] at hn
        simp only [flowAct, List.zipWith_cons_cons, List.zipWith_nil_left]
        simp only [hn]
        go_wp2_with (fail)
        exact ⟨rfl, _, rfl, Below.refl _ _, rfl⟩
      · intro xs W hW hn
        obtain ⟨p0, p1, x0, x1, y0, y1⟩ := HC.out W hW
        simp [flowNeeds, Region.binds] at hn
        simp only [flowAct, List.zipWith_cons_cons, List.zipWith_nil_left]
        simp only [hn]
        go_wp2_with (fail)
        exact ⟨rfl, _, rfl, Below.refl _ _, rfl⟩
      · intro xs W hW hn
        obtain ⟨p0, p1, x0, x1, y0, y1⟩ := HC.out W hW
        simp [flowNeeds, Region.binds] at hn
        simp only [flowAct, List.zipWith_cons_cons, List.zipWith_nil_left]
        simp only [hn]
        go_wp2_with (fail)
        exact ⟨rfl, _, rfl, Below.refl _ _, rfl⟩
      · intro xs W hW hn
        obtain ⟨p0, p1, x0, x1, y0, y1⟩ := HC.out W hW
        simp [flowNeeds, Region.binds] at hn
        simp only [flowAct, List.zipWith_cons_cons, List.zipWith_nil_left]
        simp only [hn]
        go_wp2_with (fail)
        exact ⟨rfl, _, rfl, Below.refl _ _, rfl⟩
      · intro xs W hW hn
        obtain ⟨p0, p1, x0, x1, y0, y1⟩ := HC.out W hW
        simp [flowNeeds, Region.binds] at hn
        simp only [flowAct, List.zipWith_cons_cons, List.zipWith_nil_left]
        simp only [hn]
        go_wp2_with (fail)
        exact ⟨rfl, _, rfl, Below.refl _ _, rfl⟩
      · intro xs W hW hn
        obtain ⟨p0, p1, x0, x1, y0, y1⟩ := HC.out W hW
        simp [flowNeeds, Region.binds] at hn
        simp only [flowAct, List.zipWith_cons_cons, List.zipWith_nil_left]
        simp only [hn]
        go_wp2_with (go_at_call 10; (with_reducible refine (HLv.out _).mono ?_); rintro e w9 ⟨rfl, hb9⟩)
        exact ⟨rfl, _, rfl, hb9, rfl⟩
      · intro xs W hW hn
        obtain ⟨p0, p1, x0, x1, y0, y1⟩ := HC.out W hW
        simp [flowNeeds, Region.binds] at hn
        simp only [flowAct, List.zipWith_cons_cons, List.zipWith_nil_left]
        simp only [hn]
        go_wp2_with (fail)
        exact ⟨rfl, _, rfl, Below.refl _ _, rfl⟩
      · intro xs W hW hn
        obtain ⟨p0, p1, x0, x1, y0, y1⟩ := HC.out W hW
        simp [flowNeeds, Region.binds] at hn
        simp only [flowAct, List.zipWith_cons_cons, List.zipWith_nil_left]
        simp only [hn]
        go_wp2_with (fail)
        exact ⟨rfl, _, rfl, Below.refl _ _, rfl⟩
    · intro xs W hW hall
      simp only [flowAll, and_true, Nat.zero_add, Nat.reduceAdd] at hall
      obtain ⟨-, -, -, -, -, -, -, -, -, -, -, -, -, -, -, -, -, -, -, -, -, -, -, -, -, -, -, e27⟩ := hall
      simp only [flowAct, List.zipWith_cons_cons, List.zipWith_nil_left, e27]
      go_wp2
      go_ret
      exact ⟨rfl, HB3.out.trans (hW.mono HB3.out.size)⟩
end Go.Proofs.YtjlolljlhoclhaaDoor
