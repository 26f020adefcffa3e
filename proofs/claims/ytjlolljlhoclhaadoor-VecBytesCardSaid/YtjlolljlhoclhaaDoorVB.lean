/-
  Vec: the bytes of counts; Put of the program and of the reference.
-/
import Derived.Test.YtjlolljlhoclhaaDoorDV
import Derived.Test.YtjlolljlhoclhaaDoorDF
import Derived.Test.YtjlolljlhoclhaaDoorRP
import Derived.Test.YtjlolljlhoclhaaDoorNR
import Derived.Test.YtjlolljlhoclhaaDoorNG
import Derived.Test.YtjlolljlhoclhaaDoorBM
import Derived.Test.YtjlolljlhoclhaaDoorOM
namespace Go.Proofs.YtjlolljlhoclhaaDoor
open Go.RowKit Go Go.Sort
set_option linter.unusedVariables false

def vputS (l : List UInt8) (a b : Int) : List UInt8 := if vgood a b = true then l ++ numB a ++ numB b else l
theorem vgood_bd {a b : Int} (h : vgood a b = true) : 0 ≤ a ∧ a ≤ 1099511627776 ∧ 0 ≤ b ∧ b ≤ 1099511627776 := by simpa [vgood] using h

set_option maxRecDepth 100000 in
set_option maxHeartbeats 3200000 in
theorem vput_c {w : World} {a : Option Addr} {m cap : Nat} {l : List UInt8} (hl : Bys w a m cap l) (hn : m ≤ 100000) (hT : TabW w) (x y : Int) :
    Calls Tryd.prog 30 #[.slice a m cap, .agg #[.int .i64 x, .int .i64 y]] w (BytesPost (vputS l x y) w) := by
  obtain ⟨i0, hi, hz0, hz1, hz2⟩ := info_parts Tryd.info5
  have hp := Pair.new w 51 x y
  have hb := alloc_below w (.cells #[.int .i64 x, .int .i64 y] 51)
  have hln := hl.len
  have HL := Lib.hid (hl.below hb)
  have HTb := Lib.hid (hT.below hb)
  have HP := Lib.hid hp
  have HB := Lib.hid hb
  have G := vgood_c x y
  have HV := Lib.hid (show vputS l x y = if vgood x y = true then l ++ numB x ++ numB y else l from rfl)
  have l0 := HP.out.c0
  have l1 := HP.out.c1
  clear hp hb hl
  cases hg : vgood x y with
  | false =>
    rw [hg] at G
    have HG := Lib.hid G
    have hv : vputS l x y = l := by rw [HV.out, if_neg (by simp [hg])]
    rw [hv]
    clear hv HV G hg
    have HPut := Lib.hid (fun (W : World) (h : Bys W a m cap l) (hT : TabW W) => put_c h (show m ≤ 1000000 by omega) (-1) (by omega) (by omega) hT)
    rw [numB_none (.inl (by decide)), List.append_nil] at HPut
    go_enter Tryd.func30, Tryd.ntmps30
    go_upto_region 1 with (fail)
    generalize w.alloc (.cells #[.int .i64 x, .int .i64 y] 51) = W1 at *
    go_wp2_with (first
      | (go_at_call 32; (with_reducible refine (HG.out _).mono ?_); rintro e w2 ⟨rfl, hb2⟩)
      | (go_at_call 37; (with_reducible refine (HPut.out _ (HL.out.below hb2) (HTb.out.below hb2)).mono ?_); rintro e w3 ⟨v, rfl, ho, hb3⟩))
    go_ret
    have h2 := HB.out.trans (hb2.mono HB.out.size)
    exact ⟨_, rfl, ho.mono h2.size, h2.trans (hb3.mono h2.size)⟩
  | true =>
    rw [hg] at G
    have HG := Lib.hid G
    have hv : vputS l x y = l ++ numB x ++ numB y := by rw [HV.out, if_pos (by simp [hg])]
    rw [hv]
    obtain ⟨x0, x1, y0, y1⟩ := vgood_bd hg
    have hx8 := numB_length x
    obtain ⟨lx, hlx⟩ : ∃ q, l ++ numB x = q := ⟨_, rfl⟩
    have hxl : lx.length ≤ 1000000 := by rw [← hlx, List.length_append]; omega
    obtain ⟨ly, hly⟩ : ∃ q, lx ++ numB y = q := ⟨_, rfl⟩
    rw [hlx, hly]
    clear hv HV G hg
    go_enter Tryd.func30, Tryd.ntmps30
    go_upto_region 1 with (fail)
    generalize w.alloc (.cells #[.int .i64 x, .int .i64 y] 51) = W1 at *
    go_upto_region 3 with (go_at_call 32; (with_reducible refine (HG.out _).mono ?_); rintro e w2 ⟨rfl, hb2⟩)
    have HP2 := Lib.hid (HP.out.kept hb2)
    have HL2 := Lib.hid (HL.out.below hb2)
    have HT2 := Lib.hid (HTb.out.below hb2)
    have HB2 := Lib.hid (HB.out.trans (hb2.mono HB.out.size))
    clear l0 l1 hb2 HP HL HB
    have HC := Lib.hid (fun W (h : Below w2.heap.size w2 W) => And.intro (HP2.out.kept h).c0 (HP2.out.kept h).c1)
    have HPut := Lib.hid (fun W (h : Below w2.heap.size w2 W) => put_c (HL2.out.below h) (show m ≤ 1000000 by omega) x (by omega) (by omega) (HT2.out.below h))
    rw [hlx] at HPut
    have HPut2 := Lib.hid (fun (W : World) (h : Below w2.heap.size w2 W) (a' : Option Addr) (c' : Nat) (hy : Bys W a' lx.length c' lx) => put_c hy hxl y (by omega) (by omega) (HT2.out.below h))
    rw [hly] at HPut2
    clear hlx hly hln
    refine wp_region_flow [none, none, none, none, some 7, none, none, none, none, none, some 0, some 1, some 2, some 3, some 4, some 5, some 6] (fun i => if i = 7 then .slice none 0 0 else undef) [(fun v _ => v = .slice a m cap), (fun v _ => v = .pointer (some ⟨w.heap.size, 0, none⟩)), (fun v _ => v = .int .i64 x), (fun v W => OwnB W w.heap.size 5 v lx), (fun v _ => v = .pointer (some ⟨w.heap.size, 1, none⟩)), (fun v _ => v = .int .i64 y), (fun v W => OwnB W w.heap.size 5 v ly), (fun v W => OwnB W w.heap.size 5 v ly)] (by kernel_rfl) (by kernel_rfl) rfl rfl rfl ?_ ?_ ?_
    · intro g hg v X Y hX hY hv
      simp only [List.mem_cons, List.not_mem_nil, or_false] at hg
      rcases hg with rfl | rfl | rfl | rfl | rfl | rfl | rfl | rfl
      all_goals first
        | exact hv
        | exact hv.kept hY
    · simp only [flowOps, and_true]
      refine ⟨?_, ?_, ?_, ?_, ?_, ?_, ?_, ?_⟩
      · intro xs W hW hn
        simp only [flowAct, List.zipWith_cons_cons, List.zipWith_nil_left]
        go_wp2_with (fail)
        exact ⟨rfl, _, rfl, Below.refl _ _, rfl⟩
      · intro xs W hW hn
        obtain ⟨p0, p1⟩ := HC.out W hW
        simp only [flowAct, List.zipWith_cons_cons, List.zipWith_nil_left]
        go_wp2_with (fail)
        exact ⟨rfl, _, rfl, Below.refl _ _, rfl⟩
      · intro xs W hW hn
        obtain ⟨p0, p1⟩ := HC.out W hW
        simp [flowNeeds, Region.binds] at hn
        simp only [flowAct, List.zipWith_cons_cons, List.zipWith_nil_left, hn]
        go_wp2_with (fail)
        exact ⟨rfl, _, rfl, Below.refl _ _, rfl⟩
      · intro xs W hW hn
        simp [flowNeeds, Region.binds] at hn
        simp only [flowAct, List.zipWith_cons_cons, List.zipWith_nil_left, hn]
        go_wp2_with (go_at_call 37; (with_reducible refine (HPut.out _ hW).mono ?_); rintro e w9 ⟨v, rfl, ho, hb9⟩)
        exact ⟨rfl, _, rfl, hb9, ho.mono (Nat.le_trans HB2.out.size hW.size)⟩
      · intro xs W hW hn
        obtain ⟨p0, p1⟩ := HC.out W hW
        simp only [flowAct, List.zipWith_cons_cons, List.zipWith_nil_left]
        go_wp2_with (fail)
        exact ⟨rfl, _, rfl, Below.refl _ _, rfl⟩
      · intro xs W hW hn
        obtain ⟨p0, p1⟩ := HC.out W hW
        simp [flowNeeds, Region.binds] at hn
        simp only [flowAct, List.zipWith_cons_cons, List.zipWith_nil_left, hn]
        go_wp2_with (fail)
        exact ⟨rfl, _, rfl, Below.refl _ _, rfl⟩
      · intro xs W hW hn
        simp [flowNeeds, Region.binds] at hn
        obtain ⟨ho3, e5⟩ := hn
        obtain ⟨a', c', e3, hy3⟩ := ho3.bys
        simp only [flowAct, List.zipWith_cons_cons, List.zipWith_nil_left, e3, e5]
        go_wp2_with (go_at_call 37; (with_reducible refine (HPut2.out _ hW _ _ hy3).mono ?_); rintro e w9 ⟨v, rfl, ho, hb9⟩)
        exact ⟨rfl, _, rfl, hb9, ho.mono (Nat.le_trans HB2.out.size hW.size)⟩
      · intro xs W hW hn
        simp [flowNeeds, Region.binds] at hn
        simp only [flowAct, List.zipWith_cons_cons, List.zipWith_nil_left]
        go_wp2_with (fail)
        exact ⟨rfl, _, rfl, Below.refl _ _, hn.1⟩
    · intro xs W hW hall
      simp only [flowAll, and_true, Nat.zero_add, Nat.reduceAdd] at hall
      obtain ⟨-, -, -, -, -, -, -, e7⟩ := hall
      simp only [flowAct, List.zipWith_cons_cons, List.zipWith_nil_left]
      go_wp2
      go_ret
      exact ⟨_, rfl, e7, HB2.out.trans (hW.mono HB2.out.size)⟩

set_option maxRecDepth 100000 in
set_option maxHeartbeats 3200000 in
theorem rvput_c {w : World} {a : Option Addr} {m cap : Nat} {l : List UInt8} (hl : Bys w a m cap l) (hn : m ≤ 100000)  (x y : Int) :
    Calls Tryd.prog 31 #[.slice a m cap, .agg #[.int .i64 x, .int .i64 y]] w (BytesPost (vputS l x y) w) := by
  obtain ⟨i0, hi, hz0, hz1, hz2⟩ := info_parts Tryd.info5
  have hp := Pair.new w 51 x y
  have hb := alloc_below w (.cells #[.int .i64 x, .int .i64 y] 51)
  have hln := hl.len
  have HL := Lib.hid (hl.below hb)
  have HP := Lib.hid hp
  have HB := Lib.hid hb
  have G := rvgood_c x y
  have HV := Lib.hid (show vputS l x y = if vgood x y = true then l ++ numB x ++ numB y else l from rfl)
  have l0 := HP.out.c0
  have l1 := HP.out.c1
  clear hp hb hl
  cases hg : vgood x y with
  | false =>
    rw [hg] at G
    have HG := Lib.hid G
    have hv : vputS l x y = l := by rw [HV.out, if_neg (by simp [hg])]
    rw [hv]
    clear hv HV G hg
    go_enter Tryd.func31, Tryd.ntmps31
    go_upto_region 1 with (fail)
    generalize w.alloc (.cells #[.int .i64 x, .int .i64 y] 51) = W1 at *
    go_upto_region 2 with (go_at_call 47; (with_reducible refine (HG.out _).mono ?_); rintro e w1 ⟨rfl, hb1⟩)
    have HB1 := Lib.hid (HB.out.trans (hb1.mono HB.out.size))
    have hla := (HL.out.below hb1).below (alloc_below w1 (.cells #[] 5))
    have hoe := OwnB.empty w1 w1.heap.size 5 (Nat.le_refl _)
    clear hb1 l0 l1 HP HL HB
    go_wp2_with (at_builtin; refine wpList_append_bys rfl (.tmp 8) (.tmp 9) 37 rfl Tryd.underlying37 hi hz0 hz1 hz2 rfl rfl hoe rfl hla (by simp; omega) (by simp) ?_; intro v1 w2 ho1 hg1)
    have b1 : Below w1.heap.size w1 w2 := ((Below.refl w1.heap.size w1).alloc (Nat.le_refl _) (.cells #[] 5)).grown hg1 (by simp) (fun k hk => (hoe.lt k hk).1)
    rw [List.nil_append] at ho1
    go_ret
    exact ⟨_, rfl, ho1.mono HB1.out.size, HB1.out.trans (b1.mono HB1.out.size)⟩
  | true =>
    rw [hg] at G
    have HG := Lib.hid G
    have hv : vputS l x y = l ++ numB x ++ numB y := by rw [HV.out, if_pos (by simp [hg])]
    rw [hv]
    obtain ⟨x0, x1, y0, y1⟩ := vgood_bd hg
    have hx8 := numB_length x
    obtain ⟨lx, hlx⟩ : ∃ q, l ++ numB x = q := ⟨_, rfl⟩
    have hxl : lx.length ≤ 1000000 := by rw [← hlx, List.length_append]; omega
    obtain ⟨ly, hly⟩ : ∃ q, lx ++ numB y = q := ⟨_, rfl⟩
    rw [hlx, hly]
    clear hv HV G hg
    go_enter Tryd.func31, Tryd.ntmps31
    go_upto_region 1 with (fail)
    generalize w.alloc (.cells #[.int .i64 x, .int .i64 y] 51) = W1 at *
    go_upto_region 3 with (go_at_call 47; (with_reducible refine (HG.out _).mono ?_); rintro e w2 ⟨rfl, hb2⟩)
    have HP2 := Lib.hid (HP.out.kept hb2)
    have HL2 := Lib.hid (HL.out.below hb2)
    have HB2 := Lib.hid (HB.out.trans (hb2.mono HB.out.size))
    clear l0 l1 hb2 HP HL HB
    have HC := Lib.hid (fun W (h : Below w2.heap.size w2 W) => And.intro (HP2.out.kept h).c0 (HP2.out.kept h).c1)
    have HPut := Lib.hid (fun W (h : Below w2.heap.size w2 W) => rput_c (HL2.out.below h) (show m ≤ 1000000 by omega) x (by omega) (by omega) )
    rw [hlx] at HPut
    have HPut2 := Lib.hid (fun (W : World) (h : Below w2.heap.size w2 W) (a' : Option Addr) (c' : Nat) (hy : Bys W a' lx.length c' lx) => rput_c hy hxl y (by omega) (by omega) )
    rw [hly] at HPut2
    clear hlx hly hln
    refine wp_region_flow [none, none, none, none, some 7, none, none, none, none, none, none, some 0, some 1, some 2, some 3, some 4, some 5, some 6] (fun i => if i = 7 then .slice none 0 0 else undef) [(fun v _ => v = .slice a m cap), (fun v _ => v = .pointer (some ⟨w.heap.size, 0, none⟩)), (fun v _ => v = .int .i64 x), (fun v W => OwnB W w.heap.size 5 v lx), (fun v _ => v = .pointer (some ⟨w.heap.size, 1, none⟩)), (fun v _ => v = .int .i64 y), (fun v W => OwnB W w.heap.size 5 v ly), (fun v W => OwnB W w.heap.size 5 v ly)] (by kernel_rfl) (by kernel_rfl) rfl rfl rfl ?_ ?_ ?_
    · intro g hg v X Y hX hY hv
      simp only [List.mem_cons, List.not_mem_nil, or_false] at hg
      rcases hg with rfl | rfl | rfl | rfl | rfl | rfl | rfl | rfl
      all_goals first
        | exact hv
        | exact hv.kept hY
    · simp only [flowOps, and_true]
      refine ⟨?_, ?_, ?_, ?_, ?_, ?_, ?_, ?_⟩
      · intro xs W hW hn
        simp only [flowAct, List.zipWith_cons_cons, List.zipWith_nil_left]
        go_wp2_with (fail)
        exact ⟨rfl, _, rfl, Below.refl _ _, rfl⟩
      · intro xs W hW hn
        obtain ⟨p0, p1⟩ := HC.out W hW
        simp only [flowAct, List.zipWith_cons_cons, List.zipWith_nil_left]
        go_wp2_with (fail)
        exact ⟨rfl, _, rfl, Below.refl _ _, rfl⟩
      · intro xs W hW hn
        obtain ⟨p0, p1⟩ := HC.out W hW
        simp [flowNeeds, Region.binds] at hn
        simp only [flowAct, List.zipWith_cons_cons, List.zipWith_nil_left, hn]
        go_wp2_with (fail)
        exact ⟨rfl, _, rfl, Below.refl _ _, rfl⟩
      · intro xs W hW hn
        simp [flowNeeds, Region.binds] at hn
        simp only [flowAct, List.zipWith_cons_cons, List.zipWith_nil_left, hn]
        go_wp2_with (go_at_call 39; (with_reducible refine (HPut.out _ hW).mono ?_); rintro e w9 ⟨v, rfl, ho, hb9⟩)
        exact ⟨rfl, _, rfl, hb9, ho.mono (Nat.le_trans HB2.out.size hW.size)⟩
      · intro xs W hW hn
        obtain ⟨p0, p1⟩ := HC.out W hW
        simp only [flowAct, List.zipWith_cons_cons, List.zipWith_nil_left]
        go_wp2_with (fail)
        exact ⟨rfl, _, rfl, Below.refl _ _, rfl⟩
      · intro xs W hW hn
        obtain ⟨p0, p1⟩ := HC.out W hW
        simp [flowNeeds, Region.binds] at hn
        simp only [flowAct, List.zipWith_cons_cons, List.zipWith_nil_left, hn]
        go_wp2_with (fail)
        exact ⟨rfl, _, rfl, Below.refl _ _, rfl⟩
      · intro xs W hW hn
        simp [flowNeeds, Region.binds] at hn
        obtain ⟨ho3, e5⟩ := hn
        obtain ⟨a', c', e3, hy3⟩ := ho3.bys
        simp only [flowAct, List.zipWith_cons_cons, List.zipWith_nil_left, e3, e5]
        go_wp2_with (go_at_call 39; (with_reducible refine (HPut2.out _ hW _ _ hy3).mono ?_); rintro e w9 ⟨v, rfl, ho, hb9⟩)
        exact ⟨rfl, _, rfl, hb9, ho.mono (Nat.le_trans HB2.out.size hW.size)⟩
      · intro xs W hW hn
        simp [flowNeeds, Region.binds] at hn
        simp only [flowAct, List.zipWith_cons_cons, List.zipWith_nil_left]
        go_wp2_with (fail)
        exact ⟨rfl, _, rfl, Below.refl _ _, hn.1⟩
    · intro xs W hW hall
      simp only [flowAll, and_true, Nat.zero_add, Nat.reduceAdd] at hall
      obtain ⟨-, -, -, -, -, -, -, e7⟩ := hall
      simp only [flowAct, List.zipWith_cons_cons, List.zipWith_nil_left]
      go_wp2
      go_ret
      exact ⟨_, rfl, e7, HB2.out.trans (hW.mono HB2.out.size)⟩

end Go.Proofs.YtjlolljlhoclhaaDoor
