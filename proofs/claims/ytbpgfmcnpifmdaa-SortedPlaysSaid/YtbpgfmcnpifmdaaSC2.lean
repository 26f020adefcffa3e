/-
  Merged: S4 S5 S6 S7 S8 O1 O2 O3 O4 O6 O5 O7 O8 O9 OA OB OC A6 OD OE OF OG AE.
-/
import Derived.Deep.QuietTactic
import Derived.StillTail
import Derived.Lib.QuietBelow
import Derived.Test.YtbpgfmcnpifmdaaRows
import Derived.OrdersIn
import Derived.TacticsIn
import Derived.RangeFuncNested
import Derived.RangeFuncBound
import Derived.RangeFuncCalls
import Derived.RangeFuncLeaves
import Derived.WalkKit
import Derived.Lib.Hide
import Derived.BigQuiet
import Derived.BigRegion
import Derived.Deep.Cut
import Derived.Deep.MidRow
import Derived.Great.BuildSlice
import Derived.Outline
import Derived.OwnWalk
import Derived.Laws.Rows
import Derived.ChangeKeysEq
import Derived.Laws.StructEq
import Derived.WalkSpells
import Derived.WalkLawsBesides
import Derived.Laws.CopyOwn
import Derived.WalkSmall
import Derived.Lib.LaidTab
import Derived.Deep.RegionWith
import Derived.Lib.MinMax
import Derived.WideShapes
import Derived.ChangeSame
import Derived.OpenShut
import Derived.Deep.Slices
import Derived.Deep.AppendSrc
import Derived.Lib.AppendZerosOnto
import Derived.Lib.SliceRun
import Derived.Lib.Walk
import Derived.Lib.OthersKept
import Derived.Laws.RangeAny
import Derived.Maps.OwnOps
import Derived.Maps.Views
import Derived.ChangeSlices
import Derived.ChangeArms
import Derived.Deep.DeepAppendWide
import Derived.Maps.AppendAt
import Derived.Shelf.Abstract
import Derived.OwnWalkIn
import Derived.TacticsInMore
import Derived.LoopNIn
import Derived.LoopIn
import Derived.Shelf.Spec.SlicesInsertGrow
import Derived.Test.YtbpgfmcnpifmdaaSC1

section
namespace Go.Proofs.Ytbpgfmcnpifmdaa
open Go.RowKit Go Go.Sort
set_option linter.unusedVariables false
set_option maxRecDepth 20000

set_option maxHeartbeats 1600000 in
theorem find2_c {w : World} {q : Nat} {key : List UInt8} (hk : w.heap[q]? = some (.cells #[.string (text key)] 9 (0, 0))) (k : List UInt8) (v : Value) :
    Calls Try.prog 96 #[.agg #[.string (text k), v], .pointer (some ⟨q, 0, none⟩)] w (Tells (.bool (!Op.bytesLess k key)) w) := by
  have hal := alloc_below w (.cells #[.string (text k), v] 30)
  have hr := heap_alloc_new w (.cells #[.string (text k), v] 30)
  have hk2 := heap_below hk hal
  have htl := text_lssS k key
  obtain ⟨R, hR⟩ : ∃ r, Op.bytesLess k key = r := ⟨_, rfl⟩
  obtain ⟨u, hu⟩ : ∃ u, text k = u := ⟨_, rfl⟩
  obtain ⟨u', hu'⟩ : ∃ u, text key = u := ⟨_, rfl⟩
  rw [hR] at htl ⊢
  rw [hu, hu'] at htl
  rw [hu] at hal hr hk2 ⊢
  rw [hu'] at hk2
  have HB := Lib.hid hal
  clear hu hu' hR hk
  go_enter Try.func96, Try.ntmps96
  go_upto_region 1 with (fail)
  obtain ⟨B, hB⟩ : ∃ z, w.heap.size = z := ⟨_, rfl⟩
  rw [hB] at hr ⊢
  clear hB hal
  generalize w.alloc (.cells #[.string u, v] 30) = W1 at *
  have r0 : W1.cell? ⟨B, 0, none⟩ = some (.string u) := by rw [cell_of_row _ B 0 _ _ (0, 0) hr]; rfl
  have k0 : W1.cell? ⟨q, 0, none⟩ = some (.string u') := by rw [cell_of_row _ q 0 _ _ (0, 0) hk2]; rfl
  go_wp2
  go_ret
  exact ⟨rfl, HB.out⟩
set_option maxRecDepth 100000 in
set_option maxHeartbeats 3200000 in
theorem first1_c {w : World} {q1 q2 g : Nat} {lb : Array Value} {a : Option Addr} {n c i : Nat} {L : List Rw} {o : Bool} (hl : Ls 2 Rw.arr Rw.zero w a n c L) (hi : i < n) (eg : ∀ args w, (callFunc g args).run Try.prog w = .ok (.enter g args) w)
    (h1 : w.heap[q1]? = some (.cells #[.func (.func g) #[] lb] 136 (0, 0))) (h2 : w.heap[q2]? = some (.cells #[.slice a n c] 107 (0, 0)))
    (hc : ∀ W, Below w.heap.size w W → Calls Try.prog g (#[.agg #[.string (text (L.getD i Rw.zero).k), (L.getD i Rw.zero).u]] ++ lb) W (Tells (.bool o) W)) :
    Calls Try.prog 107 #[.int .i64 (i : Int), .pointer (some ⟨q1, 0, none⟩), .pointer (some ⟨q2, 0, none⟩)] w (Tells (.bool o) w) := by
  have hle := hl.le
  obtain ⟨bl, off, rfl, hat⟩ := hl.at hi
  have k1 : (i : Int) < (n : Int) := by omega
  have k2 : (i : Int) < (c : Int) := by omega
  have HAT := Lib.hid (fun W (h : Below w.heap.size w W) => And.intro (show W.cell? ⟨bl, off + i * 2, none⟩ = some (.string (text (L.getD i Rw.zero).k)) from hat W h 0 _ rfl) (show W.cell? ⟨bl, off + i * 2 + 1, none⟩ = some (L.getD i Rw.zero).u from hat W h 1 _ rfl))
  have HBX := Lib.hid (fun W (h : Below w.heap.size w W) => And.intro (show W.cell? ⟨q1, 0, none⟩ = some (.func (.func g) #[] lb) from by rw [cell_of_row _ q1 0 _ _ (0, 0) (heap_below h1 h)]; rfl) (show W.cell? ⟨q2, 0, none⟩ = some (.slice (some ⟨bl, off, none⟩) n c) from by rw [cell_of_row _ q2 0 _ _ (0, 0) (heap_below h2 h)]; rfl))
  have HC := Lib.hid hc
  clear hc hat hl h1 h2
  obtain ⟨⟨kk, uu, cc⟩, hy⟩ : ∃ y, L.getD i Rw.zero = y := ⟨_, rfl⟩
  rw [hy] at HAT HC
  dsimp only at HAT HC
  clear hy
  go_enter Try.func107, Try.ntmps107
  go_upto_region 1 with (fail)
  refine wp_region_flow [none, none, none, none, some 6, some 0, some 1, some 2, some 3, some 4, some 5] (fun i => [undef, undef, undef, undef, undef, undef, .bool false].getD i undef) [(fun v _ => v = .func (.func g) #[] lb), (fun v _ => v = .slice (some ⟨bl, off, none⟩) n c), (fun v _ => v = .int .i64 (i : Int)), (fun v _ => v = .pointer (some ⟨bl, off + i * 2, none⟩)), (fun v _ => v = .agg #[.string (text kk), uu]), (fun v _ => v = .bool o), (fun v _ => v = .bool o)] (by kernel_rfl) (by kernel_rfl) rfl rfl rfl ?_ ?_ ?_
  · intro g hg v X Y hX hY hv
    simp only [List.mem_cons, List.not_mem_nil, or_false] at hg
    rcases hg with rfl | rfl | rfl | rfl | rfl | rfl | rfl
    all_goals first
      | exact hv
      | exact hv.kept hY
  · simp only [flowOps, and_true]
    refine ⟨?_, ?_, ?_, ?_, ?_, ?_, ?_⟩
    · intro xs W hW hn
      have hz := HBX.out W hW
      obtain ⟨z0, z1⟩ := hz
      simp only [flowAct, List.zipWith_cons_cons, List.zipWith_nil_left]
      go_wp2_with (fail)
      exact ⟨rfl, _, rfl, Below.refl _ _, rfl⟩
    · intro xs W hW hn
      have hz := HBX.out W hW
      obtain ⟨z0, z1⟩ := hz
      simp only [flowAct, List.zipWith_cons_cons, List.zipWith_nil_left]
      go_wp2_with (fail)
      exact ⟨rfl, _, rfl, Below.refl _ _, rfl⟩
    · intro xs W hW hn
      simp only [flowAct, List.zipWith_cons_cons, List.zipWith_nil_left]
      go_wp2_with (fail)
      exact ⟨rfl, _, rfl, Below.refl _ _, rfl⟩
    · intro xs W hW hn
      simp [flowNeeds, Region.binds] at hn
      simp only [flowAct, List.zipWith_cons_cons, List.zipWith_nil_left]
      try simp only [hn]
      go_wp2_with (fail)
      exact ⟨rfl, _, rfl, Below.refl _ _, rfl⟩
    · intro xs W hW hn
      obtain ⟨c0, c1⟩ := HAT.out W hW
      simp [flowNeeds, Region.binds] at hn
      simp only [flowAct, List.zipWith_cons_cons, List.zipWith_nil_left]
      try simp only [hn]
      go_wp2_with (fail)
      exact ⟨rfl, _, rfl, Below.refl _ _, rfl⟩
    · intro xs W hW hn
      simp [flowNeeds, Region.binds] at hn
      simp only [flowAct, List.zipWith_cons_cons, List.zipWith_nil_left]
      try simp only [hn]
      go_wp2_with (go_at_fn g; (with_reducible refine (HC.out W hW).mono ?_); rintro e9 w9 ⟨rfl, hb9⟩)
      exact ⟨rfl, _, rfl, hb9, rfl⟩
    · intro xs W hW hn
      simp [flowNeeds, Region.binds] at hn
      simp only [flowAct, List.zipWith_cons_cons, List.zipWith_nil_left]
      try simp only [hn]
      go_wp2_with (fail)
      exact ⟨rfl, _, rfl, Below.refl _ _, rfl⟩
  · intro xs W hW hall
    simp only [flowAll, and_true, Nat.zero_add, Nat.reduceAdd] at hall
    obtain ⟨-, -, -, -, -, -, h6⟩ := hall
    simp only [flowAct, List.zipWith_cons_cons, List.zipWith_nil_left]
    simp only [h6]
    go_wp2
    go_ret
    exact ⟨rfl, hW⟩
end Go.Proofs.Ytbpgfmcnpifmdaa
end

section
namespace Go.Proofs.Ytbpgfmcnpifmdaa
open Go.RowKit Go Go.Sort
set_option linter.unusedVariables false
set_option maxRecDepth 20000

/-- What a search tells. -/
def FoundAt (n : Nat) (ok : Nat → Bool) (w : World) (e : Ending) (w' : World) : Prop := ∃ r : Nat, e = .returned (.int .i64 (r : Int)) ∧ r ≤ n ∧ (0 < r → ok (r - 1) = false) ∧ (r < n → ok r = true) ∧ Below w.heap.size w w'
set_option maxHeartbeats 1600000 in
theorem first_c {w : World} {g : Nat} {lb : Array Value} {a : Option Addr} {n c : Nat} {L : List Rw} (hl : Ls 2 Rw.arr Rw.zero w a n c L) (hn : n ≤ 4000000000) (ok : Nat → Bool) (eg : ∀ args w, (callFunc g args).run Try.prog w = .ok (.enter g args) w)
    (hc : ∀ W, Below w.heap.size w W → ∀ i, i < n → Calls Try.prog g (#[.agg #[.string (text (L.getD i Rw.zero).k), (L.getD i Rw.zero).u]] ++ lb) W (Tells (.bool (ok i)) W)) :
    Calls Try.prog 95 #[.slice a n c, .func (.func g) #[] lb] w (FoundAt n ok w) := by
  have hle := hl.le
  have hmax := hl.max
  have hal := (alloc_below w (.cells #[.slice a n c] 107)).alloc (by simp) (.cells #[.func (.func g) #[] lb] 136)
  have e1 := heap_alloc_new (w.alloc (.cells #[.slice a n c] 107)) (.cells #[.func (.func g) #[] lb] 136)
  have e2 := heap_below (heap_alloc_new w (.cells #[.slice a n c] 107)) (alloc_below _ (.cells #[.func (.func g) #[] lb] 136))
  rw [World.size_alloc] at e1
  have hs := search_c (w := (w.alloc (.cells #[.slice a n c] 107)).alloc (.cells #[.func (.func g) #[] lb] 136)) (g := 107) (lb := #[.pointer (some ⟨w.heap.size + 1, 0, none⟩), .pointer (some ⟨w.heap.size, 0, none⟩)]) (n := n) ok hn (enters_of Try.func107 (by kernel_rfl) rfl)
    (fun W hW i hi => first1_c (hl.below (hal.trans (hW.mono hal.size))) hi eg (heap_below e1 hW) (heap_below e2 hW) (fun W' hW' => hc W' (hal.trans ((hW.trans (hW'.mono hW.size)).mono hal.size)) i hi))
  have HS := Lib.hid hs
  have HB := Lib.hid hal
  clear hs e1 e2 hc hl hal
  go_enter Try.func95, Try.ntmps95
  go_wp2_with (go_at_call 105; (with_reducible refine HS.out.mono ?_); rintro e9 w9 ⟨r, rfl, h1, h2, h3, hb9⟩)
  go_ret
  exact ⟨r, rfl, h1, h2, h3, HB.out.trans (hb9.mono HB.out.size)⟩
end Go.Proofs.Ytbpgfmcnpifmdaa
end

section
namespace Go.Proofs.Ytbpgfmcnpifmdaa
open Go.RowKit Go Go.Sort
set_option linter.unusedVariables false
set_option maxRecDepth 20000

set_option maxRecDepth 100000 in
set_option maxHeartbeats 3200000 in
theorem first1b_c {w : World} {q1 q2 g : Nat} {lb : Array Value} {a : Option Addr} {n c i : Nat} {L : List Value} {o : Bool} (hl : Ls 1 (fun v : Value => #[v]) undef w a n c L) (hi : i < n) (eg : ∀ args w, (callFunc g args).run Try.prog w = .ok (.enter g args) w)
    (h1 : w.heap[q1]? = some (.cells #[.func (.func g) #[] lb] 134 (0, 0))) (h2 : w.heap[q2]? = some (.cells #[.slice a n c] 55 (0, 0)))
    (hc : ∀ W, Below w.heap.size w W → Calls Try.prog g (#[L.getD i undef] ++ lb) W (Tells (.bool o) W)) :
    Calls Try.prog 106 #[.int .i64 (i : Int), .pointer (some ⟨q1, 0, none⟩), .pointer (some ⟨q2, 0, none⟩)] w (Tells (.bool o) w) := by
  have hle := hl.le
  obtain ⟨bl, off, rfl, hat⟩ := hl.at hi
  have k1 : (i : Int) < (n : Int) := by omega
  have k2 : (i : Int) < (c : Int) := by omega
  have HAT := Lib.hid (fun W (h : Below w.heap.size w W) => (show W.cell? ⟨bl, off + i, none⟩ = some (L.getD i undef) from by
    have h9 := hat W h 0 _ rfl
    rw [Nat.mul_one, Nat.add_zero] at h9
    exact h9))
  have HBX := Lib.hid (fun W (h : Below w.heap.size w W) => And.intro (show W.cell? ⟨q1, 0, none⟩ = some (.func (.func g) #[] lb) from by rw [cell_of_row _ q1 0 _ _ (0, 0) (heap_below h1 h)]; rfl) (show W.cell? ⟨q2, 0, none⟩ = some (.slice (some ⟨bl, off, none⟩) n c) from by rw [cell_of_row _ q2 0 _ _ (0, 0) (heap_below h2 h)]; rfl))
  have HC := Lib.hid hc
  clear hc hat hl h1 h2
  obtain ⟨vv, hy⟩ : ∃ y, L.getD i undef = y := ⟨_, rfl⟩
  rw [hy] at HAT HC
  clear hy
  go_enter Try.func106, Try.ntmps106
  go_upto_region 1 with (fail)
  refine wp_region_flow [none, none, none, none, some 6, some 0, some 1, some 2, some 3, some 4, some 5] (fun i => [undef, undef, undef, undef, undef, undef, .bool false].getD i undef) [(fun v _ => v = .func (.func g) #[] lb), (fun v _ => v = .slice (some ⟨bl, off, none⟩) n c), (fun v _ => v = .int .i64 (i : Int)), (fun v _ => v = .pointer (some ⟨bl, off + i, none⟩)), (fun v _ => v = vv), (fun v _ => v = .bool o), (fun v _ => v = .bool o)] (by kernel_rfl) (by kernel_rfl) rfl rfl rfl ?_ ?_ ?_
  · intro g hg v X Y hX hY hv
    simp only [List.mem_cons, List.not_mem_nil, or_false] at hg
    rcases hg with rfl | rfl | rfl | rfl | rfl | rfl | rfl
    all_goals first
      | exact hv
      | exact hv.kept hY
  · simp only [flowOps, and_true]
    refine ⟨?_, ?_, ?_, ?_, ?_, ?_, ?_⟩
    · intro xs W hW hn
      have hz := HBX.out W hW
      obtain ⟨z0, z1⟩ := hz
      simp only [flowAct, List.zipWith_cons_cons, List.zipWith_nil_left]
      go_wp2_with (fail)
      exact ⟨rfl, _, rfl, Below.refl _ _, rfl⟩
    · intro xs W hW hn
      have hz := HBX.out W hW
      obtain ⟨z0, z1⟩ := hz
      simp only [flowAct, List.zipWith_cons_cons, List.zipWith_nil_left]
      go_wp2_with (fail)
      exact ⟨rfl, _, rfl, Below.refl _ _, rfl⟩
    · intro xs W hW hn
      simp only [flowAct, List.zipWith_cons_cons, List.zipWith_nil_left]
      go_wp2_with (fail)
      exact ⟨rfl, _, rfl, Below.refl _ _, rfl⟩
    · intro xs W hW hn
      simp [flowNeeds, Region.binds] at hn
      simp only [flowAct, List.zipWith_cons_cons, List.zipWith_nil_left]
      try simp only [hn]
      go_wp2_with (fail)
      exact ⟨rfl, _, rfl, Below.refl _ _, rfl⟩
    · intro xs W hW hn
      have c0 := HAT.out W hW
      simp [flowNeeds, Region.binds] at hn
      simp only [flowAct, List.zipWith_cons_cons, List.zipWith_nil_left]
      try simp only [hn]
      go_wp2_with (fail)
      exact ⟨rfl, _, rfl, Below.refl _ _, rfl⟩
    · intro xs W hW hn
      simp [flowNeeds, Region.binds] at hn
      simp only [flowAct, List.zipWith_cons_cons, List.zipWith_nil_left]
      try simp only [hn]
      go_wp2_with (go_at_fn g; (with_reducible refine (HC.out W hW).mono ?_); rintro e9 w9 ⟨rfl, hb9⟩)
      exact ⟨rfl, _, rfl, hb9, rfl⟩
    · intro xs W hW hn
      simp [flowNeeds, Region.binds] at hn
      simp only [flowAct, List.zipWith_cons_cons, List.zipWith_nil_left]
      try simp only [hn]
      go_wp2_with (fail)
      exact ⟨rfl, _, rfl, Below.refl _ _, rfl⟩
  · intro xs W hW hall
    simp only [flowAll, and_true, Nat.zero_add, Nat.reduceAdd] at hall
    obtain ⟨-, -, -, -, -, -, h6⟩ := hall
    simp only [flowAct, List.zipWith_cons_cons, List.zipWith_nil_left]
    simp only [h6]
    go_wp2
    go_ret
    exact ⟨rfl, hW⟩
set_option maxHeartbeats 1600000 in
theorem firstb_c {w : World} {g : Nat} {lb : Array Value} {a : Option Addr} {n c : Nat} {L : List Value} (hl : Ls 1 (fun v : Value => #[v]) undef w a n c L) (hn : n ≤ 4000000000) (ok : Nat → Bool) (eg : ∀ args w, (callFunc g args).run Try.prog w = .ok (.enter g args) w)
    (hc : ∀ W, Below w.heap.size w W → ∀ i, i < n → Calls Try.prog g (#[L.getD i undef] ++ lb) W (Tells (.bool (ok i)) W)) :
    Calls Try.prog 93 #[.slice a n c, .func (.func g) #[] lb] w (FoundAt n ok w) := by
  have hle := hl.le
  have hmax := hl.max
  have hal := (alloc_below w (.cells #[.slice a n c] 55)).alloc (by simp) (.cells #[.func (.func g) #[] lb] 134)
  have e1 := heap_alloc_new (w.alloc (.cells #[.slice a n c] 55)) (.cells #[.func (.func g) #[] lb] 134)
  have e2 := heap_below (heap_alloc_new w (.cells #[.slice a n c] 55)) (alloc_below _ (.cells #[.func (.func g) #[] lb] 134))
  rw [World.size_alloc] at e1
  have hs := search_c (w := (w.alloc (.cells #[.slice a n c] 55)).alloc (.cells #[.func (.func g) #[] lb] 134)) (g := 106) (lb := #[.pointer (some ⟨w.heap.size + 1, 0, none⟩), .pointer (some ⟨w.heap.size, 0, none⟩)]) (n := n) ok hn (enters_of Try.func106 (by kernel_rfl) rfl)
    (fun W hW i hi => first1b_c (hl.below (hal.trans (hW.mono hal.size))) hi eg (heap_below e1 hW) (heap_below e2 hW) (fun W' hW' => hc W' (hal.trans ((hW.trans (hW'.mono hW.size)).mono hal.size)) i hi))
  have HS := Lib.hid hs
  have HB := Lib.hid hal
  clear hs e1 e2 hc hl hal
  go_enter Try.func93, Try.ntmps93
  go_wp2_with (go_at_call 105; (with_reducible refine HS.out.mono ?_); rintro e9 w9 ⟨r, rfl, h1, h2, h3, hb9⟩)
  go_ret
  exact ⟨r, rfl, h1, h2, h3, HB.out.trans (hb9.mono HB.out.size)⟩
end Go.Proofs.Ytbpgfmcnpifmdaa
end

section
namespace Go.Proofs.Ytbpgfmcnpifmdaa
open Go.RowKit Go Go.Sort
set_option linter.unusedVariables false
set_option maxRecDepth 20000

/-- Blocks of rows that lie in memory, none of them empty. -/
structure BlksAt (W : World) (ab : Option Addr) (nb cb : Nat) (VS : List Value) (LS : List (List Rw)) : Prop where
  row : Ls 1 (fun v : Value => #[v]) undef W ab nb cb VS
  few : nb ≤ 1000000
  blk : ∀ i, i < nb → ∃ a c, VS.getD i undef = .slice a (LS.getD i []).length c ∧ 0 < (LS.getD i []).length ∧ (LS.getD i []).length ≤ 1000000 ∧ Ls 2 Rw.arr Rw.zero W a (LS.getD i []).length c (LS.getD i [])
theorem BlksAt.below {W W' : World} {ab : Option Addr} {nb cb : Nat} {VS : List Value} {LS : List (List Rw)} (h : BlksAt W ab nb cb VS LS) (hb : Below W.heap.size W W') : BlksAt W' ab nb cb VS LS :=
  ⟨h.row.below hb, h.few, fun i hi => by obtain ⟨a, c, e, h1, h2, h3⟩ := h.blk i hi; exact ⟨a, c, e, h1, h2, h3.below hb⟩⟩
/-- Is the last row of a block at or behind a key? -/
def lastOk (LS : List (List Rw)) (key : List UInt8) (i : Nat) : Bool := !Op.bytesLess ((LS.getD i []).getD ((LS.getD i []).length - 1) Rw.zero).k key
def rowOk (L : List Rw) (key : List UInt8) (i : Nat) : Bool := !Op.bytesLess (L.getD i Rw.zero).k key
/-- What find tells. -/
def FindAt (nb : Nat) (LS : List (List Rw)) (key : List UInt8) (w : World) (e : Ending) (w' : World) : Prop :=
  ∃ (at' i : Nat) (is : Bool), e = .returned (.tuple #[.int .i64 (at' : Int), .int .i64 (i : Int), .bool is]) ∧ at' ≤ nb ∧ (0 < at' → lastOk LS key (at' - 1) = false) ∧
    (at' = nb → i = 0 ∧ is = false) ∧
    (at' < nb → lastOk LS key at' = true ∧ i < (LS.getD at' []).length ∧ (0 < i → rowOk (LS.getD at' []) key (i - 1) = false) ∧ rowOk (LS.getD at' []) key i = true ∧ is = (((LS.getD at' []).getD i Rw.zero).k == key)) ∧ Below w.heap.size w w'
/-- A map in memory: its head. -/
theorem map_cells {W : World} {q : Nat} {x0 x1 x2 : Value} (h : W.heap[q]? = some (.cells #[x0, x1, x2] 57 (0, 0))) : W.cell? ⟨q, 0, none⟩ = some x0 ∧ W.cell? ⟨q, 1, none⟩ = some x1 ∧ W.cell? ⟨q, 2, none⟩ = some x2 ∧ ∀ i, W.frozen? ⟨q, i, none⟩ = false := by
  refine ⟨?_, ?_, ?_, fun i => frozen_of_row W q i _ _ h⟩ <;> (rw [cell_of_row W q _ _ _ (0, 0) h]; rfl)
set_option maxRecDepth 100000 in
set_option maxHeartbeats 6400000 in
theorem find_c {w : World} {q : Nat} {x0 x1 : Value} {ab : Option Addr} {nb cb : Nat} {VS : List Value} {LS : List (List Rw)} (hm : w.heap[q]? = some (.cells #[x0, x1, .slice ab nb cb] 57 (0, 0))) (hb : BlksAt w ab nb cb VS LS) (key : List UInt8) :
    Calls Try.prog 61 #[.pointer (some ⟨q, 0, none⟩), .string (text key)] w (FindAt nb LS key w) := by
  have hle := hb.row.le
  have hmax := hb.row.max
  have hfew := hb.few
  have hal := alloc_below w (.cells #[.string (text key)] 9)
  have e3 := heap_alloc_new w (.cells #[.string (text key)] 9)
  have hs1 := World.size_alloc w (.cells #[.string (text key)] 9)
  obtain ⟨W1, hW1⟩ : ∃ X, w.alloc (.cells #[.string (text key)] 9) = X := ⟨_, rfl⟩
  rw [hW1] at hal e3 hs1
  have HM := Lib.hid (fun W (h : Below W1.heap.size W1 W) => map_cells (heap_below hm (hal.trans (h.mono hal.size))))
  have HK := Lib.hid (fun W (h : Below W1.heap.size W1 W) => heap_below e3 h)
  have HBL := Lib.hid (fun W (h : Below W1.heap.size W1 W) => hb.below (hal.trans (h.mono hal.size)))
  have HB1 := Lib.hid hal
  have hF1 := firstb_c (w := W1) (g := 94) (lb := #[.pointer (some ⟨w.heap.size, 0, none⟩)]) (hb.row.below hal) (by omega) (lastOk LS key) (enters_of Try.func94 (by kernel_rfl) rfl)
    (fun W hW i hi => by
      obtain ⟨a, c, e, h1, h2, h3⟩ := (hb.below (hal.trans (hW.mono hal.size))).blk i hi
      rw [e]
      exact find1_c h3 h1 (heap_below e3 hW))
  have HF1 := Lib.hid hF1
  obtain ⟨m0, m1, m2, mf⟩ := HM.out W1 (Below.refl _ _)
  clear hm hb hal e3 hs1 hF1
  go_enter Try.func61, Try.ntmps61
  go_upto_region 1 with (fail)
  try rw [hW1]
  clear hW1
  go_upto_region 2 with (go_at_call 93; (with_reducible refine HF1.out.mono ?_); rintro e2 w2 ⟨r, rfl, hr1, hr2, hr3, hb2⟩)
  have HB2 := Lib.hid (HB1.out.trans (hb2.mono HB1.out.size))
  have HW2 := Lib.hid hb2
  have HR2 := Lib.hid hr2
  have HR3 := Lib.hid hr3
  clear hb2 hr2 hr3 m0 m1 m2 mf HF1
  obtain ⟨m0, m1, m2, mf⟩ := HM.out w2 HW2.out
  by_cases hrn : r = nb
  · subst hrn
    go_wp2
    go_ret3
    exact ⟨r, 0, false, rfl, by omega, HR2.out, fun _ => ⟨rfl, rfl⟩, fun h => absurd h (by omega), HB2.out⟩
  · have hlt : r < nb := by omega
    have hri : ((r : Int) == (nb : Int)) = false := by rw [beq_eq_false_iff_ne]; omega
    have hrl : (r : Int) < (nb : Int) := by omega
    have hrc : (r : Int) < (cb : Int) := by omega
    obtain ⟨a, c, ev, h1, h2, h3⟩ := (HBL.out w2 HW2.out).blk r hlt
    obtain ⟨bl, off, rfl, hat⟩ := (HBL.out w2 HW2.out).row.at hlt
    have c0 := hat w2 (Below.refl _ _) 0 _ rfl
    rw [Nat.mul_one, Nat.add_zero] at c0
    change w2.cell? ⟨bl, off + r, none⟩ = some (VS.getD r undef) at c0
    have HAT := Lib.hid (fun W (h : Below w2.heap.size w2 W) => (show W.cell? ⟨bl, off + r, none⟩ = some (VS.getD r undef) from by
      have h9 := hat W h 0 _ rfl
      rw [Nat.mul_one, Nat.add_zero] at h9
      exact h9))
    rw [ev] at c0 HAT
    have hle3 := h3.le
    have hF2 := first_c (w := w2) (g := 96) (lb := #[.pointer (some ⟨w.heap.size, 0, none⟩)]) h3 (by omega) (rowOk (LS.getD r []) key) (enters_of Try.func96 (by kernel_rfl) rfl)
      (fun W hW i hi => find2_c (HK.out W (HW2.out.trans (hW.mono HW2.out.size))) _ _)
    have HLast := Lib.hid (HR3.out hlt)
    have HLS := Lib.hid h3
    obtain ⟨L, hL⟩ : ∃ z, LS.getD r [] = z := ⟨_, rfl⟩
    have HLE := Lib.hid hL
    rw [hL] at h1 h2 c0 HAT hF2 HLS hle3
    obtain ⟨n, hn⟩ : ∃ z, L.length = z := ⟨_, rfl⟩
    have HN := Lib.hid hn
    rw [hn] at h1 h2 c0 HAT hF2 HLS hle3
    have HF2 := Lib.hid hF2
    clear hat ev h3 hF2 hL hn
    go_upto_region 5 with (go_at_call 95; (with_reducible refine HF2.out.mono ?_); rintro e3 w3 ⟨i, rfl, hi1, hi2, hi3, hb3⟩)
    have hin : i < n := by
      by_cases h : i = n
      · have h9 := hi2 (by omega)
        have h8 := HLast.out
        unfold lastOk at h8
        rw [HLE.out, HN.out] at h8
        unfold rowOk at h9
        rw [h, h8] at h9
        cases h9
      · omega
    have HW3 := Lib.hid (HW2.out.trans (hb3.mono HW2.out.size))
    have c1 := HAT.out w3 hb3
    clear m0 m1 m2 mf c0
    obtain ⟨m0, m1, m2, mf⟩ := HM.out w3 HW3.out
    have hil : (i : Int) < (n : Int) := by omega
    have hic : (i : Int) < (c : Int) := by omega
    obtain ⟨b4, off4, rfl, hat4⟩ := HLS.out.at hin
    have d0 := hat4 w3 hb3 0 _ rfl
    rw [Nat.add_zero] at d0
    change w3.cell? ⟨b4, off4 + i * 2, none⟩ = some (.string (text (L.getD i Rw.zero).k)) at d0
    have k0 : w3.cell? ⟨w.heap.size, 0, none⟩ = some (.string (text key)) := by rw [cell_of_row _ w.heap.size 0 _ _ (0, 0) (HK.out w3 HW3.out)]; rfl
    have HI2 := Lib.hid hi2
    have HI3 := Lib.hid (hi3 hin)
    have HB3 := Lib.hid (HB2.out.trans (hb3.mono HB2.out.size))
    have hte : ((text (L.getD i Rw.zero).k).toList == (text key).toList) = ((L.getD i Rw.zero).k == key) := by rw [text_toList, text_toList]
    obtain ⟨o, ho⟩ : ∃ o, ((L.getD i Rw.zero).k == key) = o := ⟨_, rfl⟩
    have HO := Lib.hid ho
    rw [ho] at hte
    obtain ⟨u, hu⟩ : ∃ u, text (L.getD i Rw.zero).k = u := ⟨_, rfl⟩
    obtain ⟨u', hu'⟩ : ∃ u, text key = u := ⟨_, rfl⟩
    rw [hu, hu'] at hte
    rw [hu] at d0
    rw [hu'] at k0
    clear hat4 hi2 hi3 hb3 ho hu hu'
    go_quiet (fail)
    go_wp2
    go_ret3
    refine ⟨r, i, o, rfl, by omega, HR2.out, fun h => absurd h hrn, fun _ => ⟨HLast.out, ?_, ?_, ?_, ?_⟩, below_drewN HB3.out _⟩
    · rw [HLE.out, HN.out]; exact hin
    · rw [HLE.out]; exact HI2.out
    · rw [HLE.out]; exact HI3.out
    · rw [HLE.out]; exact HO.out.symm
end Go.Proofs.Ytbpgfmcnpifmdaa
end

section
namespace Go.Proofs.Ytbpgfmcnpifmdaa
open Go.RowKit Go Go.Sort
set_option linter.unusedVariables false
set_option maxRecDepth 20000

theorem heap_setCells_at (g : Nat) (ty : TypeId) : ∀ (vs : List Value) (o : Nat) (w : World) (cur : Array Value), w.heap[g]? = some (.cells cur ty (0, 0)) → ∃ cur', (w.setCells g o vs).heap[g]? = some (.cells cur' ty (0, 0)) ∧ cur'.size = cur.size ∧
    (∀ j, j < vs.length → o + j < cur.size → cur'[o + j]? = vs[j]?) ∧ ∀ k, k < o ∨ o + vs.length ≤ k → cur'[k]? = cur[k]?
  | [], o, w, cur, h => ⟨cur, h, rfl, fun j hj => by simp at hj, fun _ _ => rfl⟩
  | v :: r, o, w, cur, h => by
    obtain ⟨cur', h1, h2, h3, h4⟩ := heap_setCells_at g ty r (o + 1) (w.setCell ⟨g, o, none⟩ v) _ (heap_setCell_same w g o _ _ v h)
    refine ⟨cur', h1, by rw [h2]; simp, fun j hj hs => ?_, fun k hk => ?_⟩
    · cases j with
      | zero =>
        rw [h4 (o + 0) (.inl (by omega)), Nat.add_zero, Array.getElem?_setIfInBounds, if_pos rfl, if_pos (by omega)]
        rfl
      | succ j =>
        have := h3 j (by simpa using hj) (by simp; omega)
        rw [show o + 1 + j = o + (j + 1) by omega] at this
        rw [this]
        rfl
    · rw [h4 k (by simp at hk; omega), Array.getElem?_setIfInBounds, if_neg (by simp at hk; omega)]
/-- Worlds that differ in a part of one block alone, and in new blocks. -/
structure Within (g lo hi : Nat) (w w' : World) : Prop where
  os : w'.os = w.os
  tape : w'.tape = w.tape
  output : w'.output = w.output
  size : w.heap.size ≤ w'.heap.size
  rest : ∀ k, k < w.heap.size → k ≠ g → w'.heap[k]? = w.heap[k]?
  blk : ∀ cur ty, w.heap[g]? = some (.cells cur ty (0, 0)) → ∃ cur', w'.heap[g]? = some (.cells cur' ty (0, 0)) ∧ cur'.size = cur.size ∧ ∀ k, k < lo ∨ hi ≤ k → cur'[k]? = cur[k]?
theorem Within.refl (g lo hi : Nat) (w : World) : Within g lo hi w w := ⟨rfl, rfl, rfl, Nat.le_refl _, fun _ _ _ => rfl, fun cur _ h => ⟨cur, h, rfl, fun _ _ => rfl⟩⟩
theorem Within.trans {g lo hi : Nat} {w w' w'' : World} (h : Within g lo hi w w') (h' : Within g lo hi w' w'') : Within g lo hi w w'' :=
  ⟨h'.os.trans h.os, h'.tape.trans h.tape, h'.output.trans h.output, Nat.le_trans h.size h'.size, fun k hk hn => (h'.rest k (Nat.lt_of_lt_of_le hk h.size) hn).trans (h.rest k hk hn), fun cur ty hc => by
    obtain ⟨c1, e1, s1, r1⟩ := h.blk cur ty hc
    obtain ⟨c2, e2, s2, r2⟩ := h'.blk c1 ty e1
    exact ⟨c2, e2, s2.trans s1, fun k hk => (r2 k hk).trans (r1 k hk)⟩⟩
theorem Within.of_below {g lo hi : Nat} {w w' : World} (hb : Below w.heap.size w w') : Within g lo hi w w' :=
  ⟨hb.os, hb.tape, hb.output, hb.size, fun k hk _ => hb.block k hk, fun cur ty h => ⟨cur, heap_below h hb, rfl, fun _ _ => rfl⟩⟩
theorem below_setCells_at {B g : Nat} (hg : B ≤ g) : ∀ (vs : List Value) (o : Nat) {a w : World}, Below B a w → Below B a (w.setCells g o vs)
  | [], _, _, _, h => h
  | v :: r, o, _, _, h => below_setCells_at hg r (o + 1) (h.setCell (p := ⟨g, o, none⟩) hg v)
theorem setCells_other (g : Nat) : ∀ (vs : List Value) (o : Nat) (w : World) (k : Nat), k ≠ g → (w.setCells g o vs).heap[k]? = w.heap[k]?
  | [], _, _, _, _ => rfl
  | v :: r, o, w, k, h => (setCells_other g r (o + 1) _ k h).trans (Below.heap_setCell w ⟨g, o, none⟩ v k h)
theorem setCells_size (g : Nat) : ∀ (vs : List Value) (o : Nat) (w : World), (w.setCells g o vs).heap.size = w.heap.size
  | [], _, _ => rfl
  | v :: r, o, w => by rw [World.setCells, setCells_size g r, World.size_setCell]
theorem Within.set (g lo hi o : Nat) (w : World) (vs : List Value) (h1 : lo ≤ o) (h2 : o + vs.length ≤ hi) : Within g lo hi w (w.setCells g o vs) := by
  have hb := below_setCells_at (B := 0) (g := g) (Nat.zero_le _) vs o (Below.refl 0 w)
  refine ⟨hb.os, hb.tape, hb.output, by rw [setCells_size]; exact Nat.le_refl _, fun k _ hn => setCells_other g vs o w k hn, fun cur ty hc => ?_⟩
  obtain ⟨c', e, s, -, r⟩ := heap_setCells_at g ty vs o w cur hc
  exact ⟨c', e, s, fun k hk => r k (by omega)⟩
section
variable {α : Type} {sz : Nat} {arr : α → Array Value} {z : α} {ty : TypeId}
/-- Elements in a part of a block of memory, with room behind them. -/
structure At (sz : Nat) (ty : TypeId) (arr : α → Array Value) (W : World) (g off cap : Nat) (l : List α) : Prop where
  le : l.length ≤ cap
  max : cap ≤ 9223372036854775807
  blk : ∃ cur : Array Value, W.heap[g]? = some (.cells cur ty (0, 0)) ∧ off + cap * sz ≤ cur.size ∧ ∀ j v, (lCells arr l)[j]? = some v → cur[off + j]? = some v
theorem At.lt {W : World} {g off cap : Nat} {l : List α} (h : At sz ty arr W g off cap l) : g < W.heap.size := by
  obtain ⟨cur, hg, -⟩ := h.blk
  exact (Array.getElem?_eq_some_iff.1 hg).1
theorem At.of_block {W W' : World} {g off cap : Nat} {l : List α} (h : At sz ty arr W g off cap l) (hb : W'.heap[g]? = W.heap[g]?) : At sz ty arr W' g off cap l := by
  obtain ⟨cur, hg, hs, hc⟩ := h.blk
  exact ⟨h.le, h.max, cur, hb.trans hg, hs, hc⟩
theorem At.below {W W' : World} {g off cap : Nat} {l : List α} (h : At sz ty arr W g off cap l) (hb : Below W.heap.size W W') : At sz ty arr W' g off cap l := h.of_block (hb.block g h.lt)
/-- What another part of the block, or another block, holds stays. -/
theorem At.within {W W' : World} {g off cap g' lo hi : Nat} {l : List α} (hs : ∀ c, (arr c).size = sz) (h : At sz ty arr W g off cap l) (hw : Within g' lo hi W W') (ha : g ≠ g' ∨ off + cap * sz ≤ lo ∨ hi ≤ off) : At sz ty arr W' g off cap l := by
  by_cases e : g = g'
  · subst e
    obtain ⟨cur, hg, hsz, hc⟩ := h.blk
    obtain ⟨c', e', s', r'⟩ := hw.blk cur ty hg
    refine ⟨h.le, h.max, c', e', by omega, fun j v hj => ?_⟩
    have hjl : j < l.length * sz := by
      have := (List.getElem?_eq_some_iff.1 hj).1
      rwa [lCells_length hs] at this
    have := Nat.mul_le_mul_right sz h.le
    rw [r' (off + j) (by omega)]
    exact hc j v hj
  · exact h.of_block (hw.rest g h.lt e)
theorem At.cell {W : World} {g off cap : Nat} {l : List α} (h : At sz ty arr W g off cap l) : ∀ j v, (lCells arr l)[j]? = some v → W.cell? ⟨g, off + j, none⟩ = some v := by
  obtain ⟨cur, hg, hs, hc⟩ := h.blk
  intro j v hj
  rw [cell_of_row W g _ cur _ (0, 0) hg]
  exact hc j v hj
theorem At.fz {W : World} {g off cap : Nat} {l : List α} (h : At sz ty arr W g off cap l) (i : Nat) : W.frozen? ⟨g, i, none⟩ = false := by
  obtain ⟨cur, hg, hs, hc⟩ := h.blk
  exact frozen_of_row _ g i _ _ hg
theorem At.spare {W : World} {g off cap : Nat} {l : List α} (h : At sz ty arr W g off cap l) {j : Nat} (hj : j < cap * sz) : (W.cell? ⟨g, off + j, none⟩).isSome = true := by
  obtain ⟨cur, hg, hs, hc⟩ := h.blk
  rw [cell_of_row W g _ cur _ (0, 0) hg, Array.getElem?_eq_getElem (by omega)]
  rfl
theorem At.ls {W : World} {g off cap : Nat} {l : List α} (hs : ∀ c, (arr c).size = sz) (h : At sz ty arr W g off cap l) : Ls sz arr z W (some ⟨g, off, none⟩) l.length cap l := by
  refine ⟨rfl, h.le, h.max, .inr ⟨g, off, rfl, fun i hi j v hj => ?_⟩⟩
  have hjs : j < sz := by have := (Array.getElem?_eq_some_iff.1 hj).1; rwa [hs] at this
  have c1 := lCells_get (z := z) hs l i j hi hjs
  rw [Nat.add_assoc]
  exact h.cell _ v (c1.trans hj)
theorem lCells_take (hs : ∀ c, (arr c).size = sz) (l : List α) (i : Nat) (hi : i ≤ l.length) : lCells arr (l.take i) = (lCells arr l).take (i * sz) := by
  have e := lCells_append (arr := arr) (l.take i) (l.drop i)
  rw [List.take_append_drop] at e
  rw [e, List.take_left' (by rw [lCells_length hs, List.length_take, Nat.min_eq_left hi])]
theorem lCells_drop (hs : ∀ c, (arr c).size = sz) (l : List α) (i : Nat) (hi : i ≤ l.length) : lCells arr (l.drop i) = (lCells arr l).drop (i * sz) := by
  have e := lCells_append (arr := arr) (l.take i) (l.drop i)
  rw [List.take_append_drop] at e
  rw [e, List.drop_left' (by rw [lCells_length hs, List.length_take, Nat.min_eq_left hi])]
theorem lCells_one (c : α) : lCells arr [c] = (arr c).toList := by simp [lCells]
/-- An element put between the others, where there is room. -/
theorem At.shift {W W1 W2 : World} {g off cap i : Nat} {l : List α} {r : α} (hs : ∀ c, (arr c).size = sz) (h : At sz ty arr W g off cap l) (hi : i ≤ l.length) (hr : l.length + 1 ≤ cap)
    (h1 : W1.heap = (W.setCells g (off + (i + 1) * sz) ((lCells arr l).drop (i * sz))).heap) (h2 : W2.heap = (W1.setCells g (off + i * sz) (arr r).toList).heap) : At sz ty arr W2 g off cap (l.take i ++ [r] ++ l.drop i) := by
  obtain ⟨cur, hg, hsz, hc⟩ := h.blk
  have hll := lCells_length (arr := arr) hs l
  have his := Nat.mul_le_mul_right sz hi
  have hcs := Nat.mul_le_mul_right sz hr
  rw [Nat.succ_mul] at hcs
  have e1 : (i + 1) * sz = i * sz + sz := Nat.succ_mul _ _
  obtain ⟨c1, g1, s1, a1, o1⟩ := heap_setCells_at g ty ((lCells arr l).drop (i * sz)) (off + (i + 1) * sz) W cur hg
  rw [← h1] at g1
  obtain ⟨c2, g2, s2, a2, o2⟩ := heap_setCells_at g ty (arr r).toList (off + i * sz) W1 c1 g1
  rw [← h2] at g2
  rw [List.length_drop, hll] at a1 o1
  rw [Array.length_toList, hs] at a2 o2
  have hlen : (l.take i ++ [r] ++ l.drop i).length = l.length + 1 := by simp; omega
  have hrr : (arr r).toList.length = sz := by rw [Array.length_toList, hs]
  refine ⟨by omega, h.max, c2, g2, by omega, fun j v hj => ?_⟩
  rw [lCells_append, lCells_append, lCells_take hs l i hi, lCells_drop hs l i hi, lCells_one] at hj
  have hj1 : j < (l.length + 1) * sz := by
    have := (List.getElem?_eq_some_iff.1 hj).1
    simp only [List.length_append, List.length_take, List.length_drop, hll, hrr] at this
    rw [Nat.succ_mul]
    omega
  rw [Nat.succ_mul] at hj1
  by_cases b1 : j < i * sz
  · rw [o2 _ (by omega), o1 _ (by omega)]
    rw [List.append_assoc, List.getElem?_append_left (by rw [List.length_take, hll]; omega), List.getElem?_take, if_pos b1] at hj
    exact hc j v hj
  · by_cases b2 : j < i * sz + sz
    · rw [show off + j = off + i * sz + (j - i * sz) by omega, a2 _ (by omega) (by omega)]
      rw [List.append_assoc, List.getElem?_append_right (by rw [List.length_take, hll]; omega), List.length_take, hll, Nat.min_eq_left his, List.getElem?_append_left (by rw [hrr]; omega)] at hj
      exact hj
    · rw [o2 _ (by omega), show off + j = off + (i + 1) * sz + (j - (i + 1) * sz) by omega, a1 _ (by omega) (by omega)]
      rw [List.getElem?_append_right (by rw [List.length_append, List.length_take, hll, hrr]; omega), List.length_append, List.length_take, hll, Nat.min_eq_left his, hrr] at hj
      rw [show j - (i + 1) * sz = j - (i * sz + sz) by omega]
      exact hj
end
end Go.Proofs.Ytbpgfmcnpifmdaa
end

section
namespace Go.Proofs.Ytbpgfmcnpifmdaa
open Go.RowKit Go Go.Sort
set_option linter.unusedVariables false
set_option maxRecDepth 20000

/-- A block of a map: where it lies, how much room it has, its rows. -/
structure Blk where
  g : Nat
  off : Nat
  cap : Nat
  rows : List Rw
def Blk.zero : Blk := ⟨0, 0, 0, []⟩
def Blk.val (b : Blk) : Value := .slice (some ⟨b.g, b.off, none⟩) b.rows.length b.cap
def Blk.arr (b : Blk) : Array Value := #[b.val]
theorem blk_size (b : Blk) : b.arr.size = 1 := rfl
def Blk.Apart (a b : Blk) : Prop := a.g ≠ b.g ∨ a.off + a.cap * 2 ≤ b.off ∨ b.off + b.cap * 2 ≤ a.off
theorem Blk.Apart.symm {a b : Blk} (h : a.Apart b) : b.Apart a := by
  rcases h with h | h | h
  · exact .inl (fun e => h e.symm)
  · exact .inr (.inr h)
  · exact .inr (.inl h)
def rowsOf (BS : List Blk) : List Rw := BS.flatMap Blk.rows
theorem rowsOf_append (A B : List Blk) : rowsOf (A ++ B) = rowsOf A ++ rowsOf B := by simp [rowsOf]
theorem rowsOf_cons (b : Blk) (B : List Blk) : rowsOf (b :: B) = b.rows ++ rowsOf B := by simp [rowsOf]
/-- The blocks of memory that a map turns. -/
def foot (q : Nat) (vb : Value) (BS : List Blk) (k : Nat) : Prop := k = q ∨ vb.ownBlock = some k ∨ ∃ b ∈ BS, b.g = k
/-- Those that it only reads. -/
def cellB (BS : List Blk) (k : Nat) : Prop := ∃ b ∈ BS, ∃ r ∈ b.rows, r.u.ownBlock = some k
/-- The blocks of a map, their rows, their cells. -/
structure MapB (W : World) (vb : Value) (BS : List Blk) : Prop where
  list : (vb = .slice none 0 0 ∧ BS = []) ∨ ∃ gl cb, vb = .slice (some ⟨gl, 0, none⟩) BS.length cb ∧ At 1 107 Blk.arr W gl 0 cb BS
  blk : ∀ b ∈ BS, 0 < b.rows.length ∧ At 2 30 Rw.arr W b.g b.off b.cap b.rows
  apart : BS.Pairwise Blk.Apart
  row : ∀ b ∈ BS, ∀ r ∈ b.rows, OwnC W 0 r.u r.cs ∧ r.cs.length ≤ 1000000
def HeadAt (W : World) (q n : Nat) (vb : Value) : Prop := W.heap[q]? = some (.cells #[.bool true, .int .i64 (n : Int), vb] 57 (0, 0))
structure MapIn (W : World) (q : Nat) (vb : Value) (BS : List Blk) : Prop where
  head : HeadAt W q (rowsOf BS).length vb
  body : MapB W vb BS
  asc : KAsc Op.bytesLess ((rowsOf BS).map Rw.pr)
theorem MapIn.new (w : World) : MapIn (w.alloc (.cells #[.bool true, .int .i64 0, .slice none 0 0] 57)) w.heap.size (.slice none 0 0) [] :=
  ⟨heap_alloc_new w _, ⟨.inl ⟨rfl, rfl⟩, fun b hb => (nomatch hb), List.Pairwise.nil, fun b hb => (nomatch hb)⟩, List.Pairwise.nil⟩
theorem MapB.keep {W W' : World} {vb : Value} {BS : List Blk} (h : MapB W vb BS) (h1 : ∀ k, vb.ownBlock = some k → W'.heap[k]? = W.heap[k]?) (h2 : ∀ b ∈ BS, W'.heap[b.g]? = W.heap[b.g]?) (h3 : ∀ k, cellB BS k → W'.heap[k]? = W.heap[k]?) : MapB W' vb BS := by
  refine ⟨?_, fun b hb => ⟨(h.blk b hb).1, (h.blk b hb).2.of_block (h2 b hb)⟩, h.apart,
    fun b hb r hr => ⟨(h.row b hb r hr).1.of_block fun g hg => h3 g ⟨b, hb, r, hr, hg⟩, (h.row b hb r hr).2⟩⟩
  rcases h.list with h4 | ⟨gl, cb, rfl, h4⟩
  · exact .inl h4
  · exact .inr ⟨gl, cb, rfl, h4.of_block (h1 gl rfl)⟩
theorem MapIn.keep {W W' : World} {q : Nat} {vb : Value} {BS : List Blk} (h : MapIn W q vb BS) (hk : ∀ k, foot q vb BS k ∨ cellB BS k → W'.heap[k]? = W.heap[k]?) : MapIn W' q vb BS :=
  ⟨(hk q (.inl (.inl rfl))).trans h.head, h.body.keep (fun k hv => hk k (.inl (.inr (.inl hv)))) (fun b hb => hk _ (.inl (.inr (.inr ⟨b, hb, rfl⟩)))) (fun k hc => hk k (.inr hc)), h.asc⟩
theorem MapB.ltv {W : World} {vb : Value} {BS : List Blk} (h : MapB W vb BS) {k : Nat} (hk : vb.ownBlock = some k) : k < W.heap.size := by
  rcases h.list with ⟨rfl, -⟩ | ⟨gl, cb, rfl, h1⟩
  · cases hk
  · injection hk with hk; subst hk; exact h1.lt
theorem MapB.ltc {W : World} {vb : Value} {BS : List Blk} (h : MapB W vb BS) {k : Nat} (hk : cellB BS k) : k < W.heap.size := by
  obtain ⟨b, hb, r, hr, hg⟩ := hk
  exact ((h.row b hb r hr).1.lt k hg).2
theorem MapIn.lt {W : World} {q : Nat} {vb : Value} {BS : List Blk} (h : MapIn W q vb BS) {k : Nat} (hk : foot q vb BS k ∨ cellB BS k) : k < W.heap.size := by
  rcases hk with (rfl | hk | ⟨b, hb, rfl⟩) | hk
  · exact (Array.getElem?_eq_some_iff.1 h.head).1
  · exact h.body.ltv hk
  · exact (h.body.blk b hb).2.lt
  · exact h.body.ltc hk
theorem MapIn.below {W W' : World} {q : Nat} {vb : Value} {BS : List Blk} (h : MapIn W q vb BS) (hb : Below W.heap.size W W') : MapIn W' q vb BS := h.keep fun k hk => hb.block k (h.lt hk)
theorem tne {W : World} {k : Nat} {c c' : Array Value} {t t' : TypeId} {f f' : Nat × Nat} (h1 : W.heap[k]? = some (.cells c t f)) (h2 : W.heap[k]? = some (.cells c' t' f')) : t = t' := by
  rw [h1] at h2; injection h2 with h2; injection h2
theorem MapB.vty {W : World} {vb : Value} {BS : List Blk} (h : MapB W vb BS) {k : Nat} (hk : vb.ownBlock = some k) : ∃ cur, W.heap[k]? = some (.cells cur 107 (0, 0)) := by
  rcases h.list with ⟨rfl, -⟩ | ⟨gl, cb, rfl, h1⟩
  · cases hk
  · injection hk with hk; subst hk
    obtain ⟨cur, hg, -⟩ := h1.blk
    exact ⟨cur, hg⟩
theorem MapB.bty {W : World} {vb : Value} {BS : List Blk} (h : MapB W vb BS) {b : Blk} (hb : b ∈ BS) : ∃ cur, W.heap[b.g]? = some (.cells cur 30 (0, 0)) := by
  obtain ⟨cur, hg, -⟩ := (h.blk b hb).2.blk
  exact ⟨cur, hg⟩
/-- Each kind of block has its own type. -/
theorem MapB.kinds {W : World} {vb : Value} {BS : List Blk} (h : MapB W vb BS) {b : Blk} (hb : b ∈ BS) : vb.ownBlock ≠ some b.g := fun e => by
  obtain ⟨cur, hg⟩ := h.bty hb
  obtain ⟨cur', hg'⟩ := h.vty e
  exact absurd (tne hg hg') (by decide)
theorem own_not {W : World} {B : Nat} {u : Value} {cs : List Cl} (h : OwnC W B u cs) {k : Nat} (hk : u.ownBlock = some k) {cur : Array Value} {ty : TypeId} {f : Nat × Nat} (hc : W.heap[k]? = some (.cells cur ty f)) (hn : ty ≠ 103) : False := by
  obtain ⟨cur', fr, hc'⟩ := own_block h hk
  exact hn (tne hc hc')
theorem MapIn.kinds {W : World} {q : Nat} {vb : Value} {BS : List Blk} (h : MapIn W q vb BS) : (∀ b ∈ BS, b.g ≠ q ∧ vb.ownBlock ≠ some b.g) ∧ vb.ownBlock ≠ some q ∧ (∀ k, cellB BS k → ¬ foot q vb BS k) := by
  refine ⟨fun b hbm => ⟨fun e => ?_, h.body.kinds hbm⟩, fun e => ?_, fun k hk hf => ?_⟩
  · obtain ⟨cur, hg⟩ := h.body.bty hbm
    rw [e] at hg
    exact absurd (tne hg h.head) (by decide)
  · obtain ⟨cur', hg'⟩ := h.body.vty e
    exact absurd (tne hg' h.head) (by decide)
  · obtain ⟨b, hbm, r, hr, hq⟩ := hk
    have ho := (h.body.row b hbm r hr).1
    rcases hf with rfl | hf | ⟨b', hb', rfl⟩
    · exact own_not ho hq h.head (by decide)
    · obtain ⟨cur', hg'⟩ := h.body.vty hf
      exact own_not ho hq hg' (by decide)
    · obtain ⟨cur', hg'⟩ := h.body.bty hb'
      exact own_not ho hq hg' (by decide)
theorem len_rowsOf {BS : List Blk} (h : ∀ b ∈ BS, 0 < b.rows.length) : BS.length ≤ (rowsOf BS).length := by
  induction BS with
  | nil => simp
  | cons b B ih =>
    rw [rowsOf_cons, List.length_append, List.length_cons]
    have h1 := h b (List.mem_cons_self ..)
    have h2 := ih fun x hx => h x (List.mem_cons_of_mem _ hx)
    omega
theorem rows_le {BS : List Blk} {b : Blk} (h : b ∈ BS) : b.rows.length ≤ (rowsOf BS).length := by
  obtain ⟨A, C, rfl⟩ := List.append_of_mem h
  rw [rowsOf_append, rowsOf_cons]
  simp only [List.length_append]
  omega
theorem getD_mapB {β : Type} (f : Blk → β) (z : β) {BS : List Blk} {i : Nat} (hi : i < BS.length) : (BS.map f).getD i z = f (BS.getD i Blk.zero) := by
  simp [hi]
theorem blk_mem {BS : List Blk} {i : Nat} (hi : i < BS.length) : BS.getD i Blk.zero ∈ BS := by
  rw [List.getD_eq_getElem?_getD, List.getElem?_eq_getElem hi]; exact List.getElem_mem hi
/-- The blocks as find reads them. -/
theorem MapIn.blks {W : World} {q : Nat} {vb : Value} {BS : List Blk} (h : MapIn W q vb BS) (hf : (rowsOf BS).length ≤ 1000000) : ∃ ab cb, vb = .slice ab BS.length cb ∧ BlksAt W ab BS.length cb (BS.map Blk.val) (BS.map Blk.rows) := by
  have hn : BS.length ≤ 1000000 := Nat.le_trans (len_rowsOf fun b hb => (h.body.blk b hb).1) hf
  have hblk : ∀ i, i < BS.length → ∃ a c, (BS.map Blk.val).getD i undef = .slice a ((BS.map Blk.rows).getD i []).length c ∧ 0 < ((BS.map Blk.rows).getD i []).length ∧ ((BS.map Blk.rows).getD i []).length ≤ 1000000 ∧ Ls 2 Rw.arr Rw.zero W a ((BS.map Blk.rows).getD i []).length c ((BS.map Blk.rows).getD i []) := fun i hi => by
    rw [getD_mapB _ _ hi, getD_mapB _ _ hi]
    have hm := blk_mem hi
    exact ⟨_, _, rfl, (h.body.blk _ hm).1, Nat.le_trans (rows_le hm) hf, (h.body.blk _ hm).2.ls rw_size⟩
  rcases h.body.list with ⟨rfl, rfl⟩ | ⟨gl, cb, rfl, h1⟩
  · exact ⟨none, 0, rfl, ⟨rfl, Nat.le_refl _, by omega, .inl rfl⟩, by simp, hblk⟩
  · refine ⟨_, _, rfl, ⟨by simp, h1.le, h1.max, .inr ⟨gl, 0, rfl, fun i hi j v hj => ?_⟩⟩, hn, hblk⟩
    rw [getD_mapB _ _ hi] at hj
    have hl := h1.ls (z := Blk.zero) blk_size
    rcases hl.adr with h4 | ⟨b, off, e, hc⟩
    · have := h1.le; omega
    · injection e with e; injection e with e1 e2; subst e1 e2
      exact hc i hi j v hj
/-- find, of a map. -/
theorem mfind_c {w : World} {q : Nat} {vb : Value} {BS : List Blk} (h : MapIn w q vb BS) (hf : (rowsOf BS).length ≤ 1000000) (key : List UInt8) :
    Calls Try.prog 61 #[.pointer (some ⟨q, 0, none⟩), .string (text key)] w (FindAt BS.length (BS.map Blk.rows) key w) := by
  obtain ⟨ab, cb, rfl, hb⟩ := h.blks hf
  exact find_c h.head hb key
end Go.Proofs.Ytbpgfmcnpifmdaa
end

section
namespace Go.Proofs.Ytbpgfmcnpifmdaa
open Go.RowKit Go Go.Sort Go.Lib
set_option linter.unusedVariables false
set_option maxRecDepth 20000

theorem run_copy_sz {P : Program} (w : World) (dT sT ty elem : TypeId) (b o dLen dCap : Nat) (a : Addr) (sLen sCap : Nat) (cs : List Value) (size : Nat)
    (hu : P.underlying dT = some (.slice elem)) (hs : (P.info? elem).map (·.size) = some size) (hn : cs.length = Nat.min sLen dLen * size)
    (hsrc : ∀ j v, cs[j]? = some v → w.cell? (a.add j) = some v) (hc : ∀ j, j < cs.length → (w.cell? ⟨b, o + j, none⟩).isSome = true) (hf : ∀ j, j < cs.length → w.frozen? ⟨b, o + j, none⟩ = false) (h1 : ∀ v ∈ cs, v.oneCell' = true) :
    (Builtin.copy_ #[dT, sT] ty #[.slice (some ⟨b, o, none⟩) dLen dCap, .slice (some a) sLen sCap]).run P w = .ok (goInt (Nat.min sLen dLen)) (w.setCells b o cs) := by
  have hl := run_loadCells_list (P := P) w a cs hsrc
  have hst := run_storeCells_cells (P := P) b o cs 0 w (by simpa using hc) (by simpa using hf) h1
  cases hq : P.info? elem with
  | none => simp [hq] at hs
  | some i =>
    have hi : i.size = size := by simpa [hq] using hs
    simp [Builtin.copy_, run_underlying hu, Builtin.lenOf, Builtin.firstCells, sizeOf, typeInfo, hq, hi, ← hn, hl, hst]
theorem run_clear_sz {P : Program} (w : World) (t e ty : TypeId) (z : Value) (zs : List Value) (ht : P.underlying t = some (.slice e)) (hv : ∀ w, (zeroValue e).run P w = .ok z w) (hz : z.cells.toList = zs) (h1 : ∀ u ∈ zs, u.oneCell' = true) (b o c : Nat)
    (hc : ∀ j, j < zs.length → (w.cell? ⟨b, o + j, none⟩).isSome = true) (hf : ∀ j, j < zs.length → w.frozen? ⟨b, o + j, none⟩ = false) :
    (Builtin.clear_ #[t] ty #[.slice (some ⟨b, o, none⟩) 1 c]).run P w = .ok (.tuple #[]) (w.setCells b o zs) := by
  have hzc : (Builtin.zeroCells z.cells 1).toList = zs := by
    subst hz
    have e : Builtin.zeroCells z.cells 1 = z.cells := by
      apply Array.ext
      · simp [Builtin.zeroCells]
      · intro i h1 h2
        simp [Builtin.zeroCells, Nat.mod_eq_of_lt h2, h2]
    rw [e]
  have hst := run_storeCells_cells (P := P) b o zs 0 w (by simpa using hc) (by simpa using hf) h1
  simp only [Nat.add_zero] at hst
  simp [Builtin.clear_, run_underlying ht, hv, hzc, hst]
theorem shape_row {W : World} {g : Nat} {cur : Array Value} {ty : TypeId} (h : W.heap[g]? = some (.cells cur ty (0, 0))) : W.shape? g = some (ty, cur.size) := by
  simp [World.shape?, h]
theorem wpList_copy_run {P : Program} (w : World) {ops : Array Oper} {rest : List Oper} {o : Oper} {a : Act} {Q : Exit → Act → World → Prop} (hgd : o.guard = none) (d s : Operand) (t t' : TypeId)
    (ho : o.op = .call { callee := .builtin .copy, args := #[d, s], argTypes := #[t, t'] }) (v u : Value) (hd : a.eval d = v) (hs : a.eval s = u) {v' : Value} {w' : World}
    (hr : (Builtin.copy_ #[t, t'] o.type #[v, u]).run P w = .ok v' w') (h : wpList P ops Q rest (a.put o.dst v') w') : wpList P ops Q (o :: rest) a w := wpList_copy_runI w hgd d s t t' ho v u hd hs hr h
theorem setCells_os (g : Nat) : ∀ (vs : List Value) (o : Nat) (w : World), (w.setCells g o vs).os = w.os := fun vs o w => (below_setCells_at (Nat.zero_le g) vs o (Below.refl 0 w)).os
theorem setCells_tape (g : Nat) : ∀ (vs : List Value) (o : Nat) (w : World), (w.setCells g o vs).tape = w.tape := fun vs o w => (below_setCells_at (Nat.zero_le g) vs o (Below.refl 0 w)).tape
theorem setCells_output (g : Nat) : ∀ (vs : List Value) (o : Nat) (w : World), (w.setCells g o vs).output = w.output := fun vs o w => (below_setCells_at (Nat.zero_le g) vs o (Below.refl 0 w)).output
section
variable {α : Type} {sz : Nat} {arr : α → Array Value} {ty : TypeId}
/-- A new block that holds what Insert makes: at its end. -/
theorem At.fresh {W : World} {g cap : Nat} {l : List α} {zs : Array Value} (hs : ∀ c, (arr c).size = sz) (hg : W.heap[g]? = some (.cells ((lCells arr l).toArray ++ Builtin.zeroCells zs (cap - l.length)) ty (0, 0))) (hz : zs.size = sz) (hc : l.length ≤ cap) (hm : cap ≤ 9223372036854775807) : At sz ty arr W g 0 cap l := by
  have hll := lCells_length (arr := arr) hs l
  refine ⟨hc, hm, _, hg, ?_, fun j v hj => ?_⟩
  · rw [Array.size_append, List.size_toArray, hll, size_zeroCells, hz, Nat.zero_add, ← Nat.add_mul]
    exact Nat.mul_le_mul_right _ (by omega)
  · have hjl := (List.getElem?_eq_some_iff.1 hj).1
    rw [Nat.zero_add, Array.getElem?_append_left (by simpa using hjl)]
    simpa using hj
/-- .. in its midst. -/
theorem At.grown {W W1 W2 : World} {g cap i : Nat} {l : List α} {r : α} {zs : Array Value} (hs : ∀ c, (arr c).size = sz) (hi : i < l.length) (hz : zs.size = sz) (hc : l.length + 1 ≤ cap) (hm : cap ≤ 9223372036854775807)
    (hg : W.heap[g]? = some (.cells (((lCells arr l).take (i * sz)).toArray ++ Builtin.zeroCells zs (l.length + 1 - i) ++ Builtin.zeroCells zs (cap - (l.length + 1))) ty (0, 0)))
    (h1 : W1.heap = (W.setCells g (i * sz) (arr r).toList).heap) (h2 : W2.heap = (W1.setCells g ((i + 1) * sz) ((lCells arr l).drop (i * sz))).heap) : At sz ty arr W2 g 0 cap (l.take i ++ [r] ++ l.drop i) := by
  have hll := lCells_length (arr := arr) hs l
  have his : i * sz ≤ l.length * sz := Nat.mul_le_mul_right sz (by omega)
  have e1 : (i + 1) * sz = i * sz + sz := Nat.succ_mul _ _
  obtain ⟨cur, hcur⟩ : ∃ cur, ((lCells arr l).take (i * sz)).toArray ++ Builtin.zeroCells zs (l.length + 1 - i) ++ Builtin.zeroCells zs (cap - (l.length + 1)) = cur := ⟨_, rfl⟩
  have hsz : cur.size = cap * sz := by
    rw [← hcur, Array.size_append, Array.size_append, List.size_toArray, List.length_take, hll, size_zeroCells, size_zeroCells, hz, Nat.min_eq_left his, ← Nat.add_mul, ← Nat.add_mul]
    congr 1
    omega
  have hlo : ∀ j, j < i * sz → cur[j]? = (lCells arr l)[j]? := fun j hj => by
    rw [← hcur, Array.append_assoc, Array.getElem?_append_left (by rw [List.size_toArray, List.length_take, hll]; omega)]
    simp [hj]
  rw [hcur] at hg
  clear hcur
  obtain ⟨c1, g1, s1, a1, o1⟩ := heap_setCells_at g ty (arr r).toList (i * sz) W cur hg
  rw [← h1] at g1
  obtain ⟨c2, g2, s2, a2, o2⟩ := heap_setCells_at g ty ((lCells arr l).drop (i * sz)) ((i + 1) * sz) W1 c1 g1
  rw [← h2] at g2
  rw [List.length_drop, hll] at a2 o2
  rw [Array.length_toList, hs] at a1 o1
  have hcs := Nat.mul_le_mul_right sz hc
  rw [Nat.succ_mul] at hcs
  have hlen : (l.take i ++ [r] ++ l.drop i).length = l.length + 1 := by simp; omega
  have hrr : (arr r).toList.length = sz := by rw [Array.length_toList, hs]
  refine ⟨by omega, hm, c2, g2, by omega, fun j v hj => ?_⟩
  rw [lCells_append, lCells_append, lCells_take hs l i (by omega), lCells_drop hs l i (by omega), lCells_one] at hj
  have hj1 : j < (l.length + 1) * sz := by
    have := (List.getElem?_eq_some_iff.1 hj).1
    simp only [List.length_append, List.length_take, List.length_drop, hll, hrr] at this
    rw [Nat.succ_mul]
    omega
  rw [Nat.succ_mul] at hj1
  rw [Nat.zero_add]
  by_cases b1 : j < i * sz
  · rw [o2 _ (by omega), o1 _ (by omega), hlo j b1]
    rw [List.append_assoc, List.getElem?_append_left (by rw [List.length_take, hll]; omega), List.getElem?_take, if_pos b1] at hj
    exact hj
  · by_cases b2 : j < i * sz + sz
    · rw [o2 _ (by omega), show j = i * sz + (j - i * sz) by omega, a1 _ (by omega) (by omega)]
      rw [List.append_assoc, List.getElem?_append_right (by rw [List.length_take, hll]; omega), List.length_take, hll, Nat.min_eq_left his, List.getElem?_append_left (by rw [hrr]; omega)] at hj
      exact hj
    · rw [show j = (i + 1) * sz + (j - (i + 1) * sz) by omega, a2 _ (by omega) (by omega)]
      rw [List.getElem?_append_right (by rw [List.length_append, List.length_take, hll, hrr]; omega), List.length_append, List.length_take, hll, Nat.min_eq_left his, hrr] at hj
      rw [show j - (i + 1) * sz = j - (i * sz + sz) by omega]
      exact hj
/-- An element taken out. -/
theorem At.out {W W1 W2 : World} {g off cap i : Nat} {l : List α} {zs : List Value} (hs : ∀ c, (arr c).size = sz) (h : At sz ty arr W g off cap l) (hi : i < l.length) (hz : zs.length = sz)
    (h1 : W1.heap = (W.setCells g (off + i * sz) ((lCells arr l).drop ((i + 1) * sz))).heap) (h2 : W2.heap = (W1.setCells g (off + (l.length - 1) * sz) zs).heap) : At sz ty arr W2 g off cap (l.take i ++ l.drop (i + 1)) := by
  obtain ⟨cur, hg, hsz, hc⟩ := h.blk
  have hll := lCells_length (arr := arr) hs l
  have his : (i + 1) * sz ≤ l.length * sz := Nat.mul_le_mul_right sz hi
  have hcs := Nat.mul_le_mul_right sz h.le
  have e1 : (i + 1) * sz = i * sz + sz := Nat.succ_mul _ _
  have e2 : l.length * sz = (l.length - 1) * sz + sz := by rw [← Nat.succ_mul]; congr 1; omega
  obtain ⟨c1, g1, s1, a1, o1⟩ := heap_setCells_at g ty ((lCells arr l).drop ((i + 1) * sz)) (off + i * sz) W cur hg
  rw [← h1] at g1
  obtain ⟨c2, g2, s2, a2, o2⟩ := heap_setCells_at g ty zs (off + (l.length - 1) * sz) W1 c1 g1
  rw [← h2] at g2
  rw [List.length_drop, hll] at a1 o1
  have hlen : (l.take i ++ l.drop (i + 1)).length = l.length - 1 := by simp; omega
  have hle := h.le
  refine ⟨by omega, h.max, c2, g2, by omega, fun j v hj => ?_⟩
  rw [lCells_append, lCells_take hs l i (by omega), lCells_drop hs l (i + 1) (by omega)] at hj
  have hj1 : j < (l.length - 1) * sz := by
    have := (List.getElem?_eq_some_iff.1 hj).1
    simp only [List.length_append, List.length_take, List.length_drop, hll] at this
    omega
  rw [o2 _ (by omega)]
  by_cases b1 : j < i * sz
  · rw [o1 _ (by omega)]
    rw [List.getElem?_append_left (by rw [List.length_take, hll]; omega), List.getElem?_take, if_pos b1] at hj
    exact hc j v hj
  · rw [show off + j = off + i * sz + (j - i * sz) by omega, a1 _ (by omega) (by omega)]
    rw [List.getElem?_append_right (by rw [List.length_take, hll]; omega), List.length_take, hll, Nat.min_eq_left (by omega)] at hj
    exact hj
end
end Go.Proofs.Ytbpgfmcnpifmdaa
end

section
namespace Go.Proofs.Ytbpgfmcnpifmdaa
open Go.RowKit Go Go.Sort Go.Lib
set_option linter.unusedVariables false
set_option maxRecDepth 20000

/-- What Insert tells. -/
def InsPost {α : Type} (sz : Nat) (ty : TypeId) (arr : α → Array Value) (g off c : Nat) (l : List α) (i : Nat) (r : α) (w : World) (e : Ending) (w' : World) : Prop :=
  ∃ g' off' c', e = .returned (.slice (some ⟨g', off', none⟩) (l.length + 1) c') ∧ At sz ty arr w' g' off' c' (l.take i ++ [r] ++ l.drop i) ∧ Within g off (off + c * sz) w w' ∧ ((g' = g ∧ off' = off ∧ c' = c) ∨ (w.heap.size ≤ g' ∧ off' = 0))
theorem lCells_one_of {α : Type} {arr : α → Array Value} {l : List α} (h1 : ∀ x ∈ l, ∀ u ∈ (arr x).toList, u.oneCell' = true) : ∀ u ∈ lCells arr l, u.oneCell' = true := by
  intro u hu
  obtain ⟨c, hm, hc⟩ := List.mem_flatMap.1 hu
  exact h1 c hm u hc
theorem setCells_heap {g : Nat} : ∀ {w w' : World}, w.heap = w'.heap → ∀ (o : Nat) (vs : List Value), (w.setCells g o vs).heap = (w'.setCells g o vs).heap := by
  intro w w' h o vs
  induction vs generalizing o w w' with
  | nil => exact h
  | cons v r ih =>
    rw [World.setCells, World.setCells]
    refine ih ?_ _
    unfold World.setCell
    rw [h]
theorem set2_drew {X Y : World} (h : X.heap = Y.heap) (g o : Nat) (vs : List Value) (o2 : Nat) (vs2 : List Value) : ((X.setCells g o vs).drew.setCells g o2 vs2).heap = ((Y.setCells g o vs).setCells g o2 vs2).heap :=
  setCells_heap (w := (X.setCells g o vs).drew) (w' := Y.setCells g o vs) (by show (X.setCells g o vs).heap = _; exact setCells_heap h _ _) _ _
theorem within_alloc {g lo hi : Nat} {w W : World} {o : Obj} (h : W.heap = (w.alloc o).heap) (h1 : W.os = w.os) (h2 : W.tape = w.tape) (h3 : W.output = w.output) : Within g lo hi w W :=
  Within.of_below ⟨h1, h2, h3, by rw [h, World.size_alloc]; omega, fun k hk => by rw [h]; exact Below.heap_alloc w o k hk⟩
theorem below_drew_alloc (w : World) (o : Obj) : Below w.heap.size w (w.drew.alloc o) :=
  ⟨rfl, rfl, rfl, by rw [World.size_alloc]; exact Nat.le_succ _, fun k hk => Below.heap_alloc w.drew o k hk⟩

section
variable {w : World} {g off c i vb : Nat} {l : List Rw} {r : Rw} {tv : TypeId}
set_option maxHeartbeats 4000000 in
set_option maxRecDepth 100000 in
theorem insRw_shift (h : At 2 30 Rw.arr w g off c l) (hi : i < l.length) (hroom : l.length + 1 ≤ c) (hfew : l.length ≤ 1000000) (hv : w.heap[vb]? = some (.cells (Rw.arr r) tv (0, 0))) (hne : vb ≠ g)
    (h1 : ∀ x ∈ l, ∀ u ∈ (Rw.arr x).toList, u.oneCell' = true) (h1r : ∀ u ∈ (Rw.arr r).toList, u.oneCell' = true) :
    Calls Try.prog 97 #[.slice (some ⟨g, off, none⟩) l.length c, .int .i64 (i : Int), .slice (some ⟨vb, 0, none⟩) 1 1] w (InsPost 2 30 Rw.arr g off c l i r w) := by
  have mixed : Try.prog.follows .mixedOrders = true := by kernel_rfl
  have hmax := h.max
  have hsz : (Try.prog.info? 30).map (·.size) = some 2 := by
    obtain ⟨i0, hi0, h0, hz1, h2⟩ := info_parts Try.infoRw
    rw [hi0]; simp [hz1]
  have hll := lCells_length (arr := Rw.arr) (sz := 2) (fun _ => rfl) l
  obtain ⟨cs, hcs⟩ : ∃ z, lCells Rw.arr l = z := ⟨_, rfl⟩
  obtain ⟨vs, hvs⟩ : ∃ z, (Rw.arr r).toList = z := ⟨_, rfl⟩
  have hvl : vs.length = 2 := by rw [← hvs]; rfl
  have hone := lCells_one_of h1
  obtain ⟨n, hn⟩ : ∃ z, l.length = z := ⟨_, rfl⟩
  have hcell := h.cell
  have hfz := h.fz
  have hsp := fun j (hj : j < c * 2) => h.spare hj
  rw [hcs] at hll hcell hone
  rw [hvs] at h1r
  rw [hn] at hll hi hroom hfew ⊢
  obtain ⟨p, hp⟩ : ∃ z, i + 1 = z := ⟨_, rfl⟩
  obtain ⟨n1, hn1⟩ : ∃ z, n + 1 = z := ⟨_, rfl⟩
  have hpi : (i : Int) + 1 = (p : Int) := by omega
  have hni : (n : Int) + 1 = (n1 : Int) := by omega
  have hpw : IntKind.i64.wrap ((i : Int) + 1) = (p : Int) := by rw [IntKind.wrap_i64]; omega
  have hnw : IntKind.i64.wrap ((n : Int) + 1) = (n1 : Int) := by rw [IntKind.wrap_i64]; omega
  have hpw2 : IntKind.i64.wrap (p : Int) = (p : Int) := by rw [IntKind.wrap_i64]; omega
  have hnw2 : IntKind.i64.wrap (n1 : Int) = (n1 : Int) := by rw [IntKind.wrap_i64]; omega
  obtain ⟨curg, hg, hgs, -⟩ := h.blk
  have hsg := shape_row hg
  have hsv := shape_row hv
  have hcv : ∀ j v, vs[j]? = some v → w.cell? ⟨vb, 0 + j, none⟩ = some v := fun j v hj => by
    rw [cell_of_row w vb _ _ _ (0, 0) hv, Nat.zero_add, ← hj, ← hvs]
    simp
  have hfv : ∀ k, w.frozen? ⟨vb, k, none⟩ = false := fun k => frozen_of_row _ vb k _ _ hv
  have hgne : curg.size ≠ 0 := by omega
  have hov : ∀ lb cb, (callFunc 108 #[.slice (some ⟨vb, 0, none⟩) 1 1, .slice (some ⟨g, off + p * 2, none⟩) lb cb]).run Try.prog w = .ok (.value (.bool false)) w := fun lb cb => by
    rw [run_callFunc_extern Try.func108 (by kernel_rfl) (by kernel_rfl) (by kernel_rfl) (e := Extern.SlicesOverlaps.overlaps #[27, 27] #[4]) (by kernel_rfl),
      Lib.run_overlaps_apart w 27 4 30 Try.underlying27 2 (fun w => by
        obtain ⟨i0, hi0, h0, hz1, h2⟩ := info_parts Try.infoRw
        simp [sizeOf, typeInfo, hi0, hz1]) ⟨vb, 0, none⟩ ⟨g, off + p * 2, none⟩ 1 1 lb cb hne _ _ _ _ hsv hsg hgne (hfv 0) (hfv _)]
    rfl
  have hcl : n * 2 ≤ c * 2 := Nat.mul_le_mul_right _ (by omega)
  have hc1 : (n + 1) * 2 ≤ c * 2 := Nat.mul_le_mul_right _ (by omega)
  have hdl : (cs.drop (i * 2)).length = (n - i) * 2 := by rw [List.length_drop, hll]; omega
  have hcp1 : ∀ ty dc sc, (Builtin.copy_ #[107, 107] ty #[.slice (some ⟨g, off + p * 2, none⟩) (n1 - p) dc, .slice (some ⟨g, off + i * 2, none⟩) (n1 - i) sc]).run Try.prog w.drew = .ok (goInt (Nat.min (n1 - i) (n1 - p))) (w.drew.setCells g (off + p * 2) (cs.drop (i * 2))) := fun ty dc sc =>
    run_copy_sz w.drew _ _ ty 30 g (off + p * 2) (n1 - p) dc ⟨g, off + i * 2, none⟩ (n1 - i) sc (cs.drop (i * 2)) 2 Try.underlying107 hsz (by rw [hdl]; simp only [Nat.min_def]; split <;> omega)
      (fun j v hj => by rw [Addr.add_lit, Nat.add_assoc]; exact hcell _ v (by rwa [List.getElem?_drop] at hj))
      (fun j hj => by rw [hdl] at hj; rw [Nat.add_assoc]; exact hsp _ (by omega)) (fun j hj => hfz _) (fun v hv => hone v (List.mem_of_mem_drop hv))
  obtain ⟨W1, hW1⟩ : ∃ W1, W1 = w.drew.setCells g (off + p * 2) (cs.drop (i * 2)) := ⟨_, rfl⟩
  have hsp1 : ∀ k, k < c * 2 → (W1.cell? ⟨g, off + k, none⟩).isSome = true := fun k hk => by
    rw [hW1]
    exact isSome_setCells g _ _ _ (fun j hj => by rw [hdl] at hj; rw [Nat.add_assoc]; exact hsp _ (by omega)) _ (hsp k hk)
  have hcp2 : ∀ (W : World), (∀ x, W.cell? x = W1.cell? x) → (∀ x, W.frozen? x = W1.frozen? x) → ∀ ty dc, (Builtin.copy_ #[107, 27] ty #[.slice (some ⟨g, off + i * 2, none⟩) (n1 - i) dc, .slice (some ⟨vb, 0, none⟩) 1 1]).run Try.prog W = .ok (goInt (Nat.min 1 (n1 - i))) (W.setCells g (off + i * 2) vs) := fun W hWc hWf ty dc =>
    run_copy_sz W _ _ ty 30 g (off + i * 2) (n1 - i) dc ⟨vb, 0, none⟩ 1 1 vs 2 Try.underlying107 hsz (by rw [hvl]; simp only [Nat.min_def]; split <;> omega)
      (fun j v hj => by
        rw [Addr.add_lit, hWc, hW1, World.cell?_setCells_out g _ _ _ _ (fun h _ => absurd h hne)]
        exact hcv j v hj)
      (fun j hj => by rw [hWc, Nat.add_assoc]; exact hsp1 _ (by omega)) (fun j hj => by rw [hWf, hW1, World.frozen?_setCells]; exact hfz _) h1r
  rw [← hW1] at hcp1
  have hpost : ∀ W2 : World, W2.heap = (W1.setCells g (off + i * 2) vs).heap → At 2 30 Rw.arr W2 g off c (l.take i ++ [r] ++ l.drop i) := fun W2 h2 => by
    refine h.shift (W1 := W1) (fun _ => rfl) (by omega) (by omega) (by rw [hW1, hp, hcs]; exact setCells_heap (by rfl) _ _) (by rw [h2, hvs])
  have hwth : Within g off (off + c * 2) w (W1.setCells g (off + i * 2) vs) := by
    refine Within.trans (w' := W1) ?_ (Within.set g _ _ _ _ _ (by omega) (by rw [hvl]; omega))
    rw [hW1]
    exact Within.trans (w' := w.drew) ⟨rfl, rfl, rfl, Nat.le_refl _, fun _ _ _ => rfl, fun cur _ h => ⟨cur, h, rfl, fun _ _ => rfl⟩⟩ (Within.set g _ _ _ _ _ (by omega) (by rw [hdl]; omega))
  subst hW1
  have HPO := Lib.hid hpost
  have HN1 := Lib.hid hn1
  have HWT := Lib.hid hwth
  have HN := Lib.hid hn
  have hb2 : ¬ (c = p) := by omega
  have hb4 : ¬ (c = i) := by omega
  have hz2 : ¬ ((i : Int) = (n : Int)) := by omega
  have hb5 : ¬ ((c : Int) < (n1 : Int)) := by omega
  have hb6 : (i : Int) ≤ (n : Int) := by omega
  have hb7 : (p : Int) ≤ (n1 : Int) := by omega
  have hb8 : (i : Int) ≤ (n1 : Int) := by omega
  have hb9 : (n1 : Int) ≤ (c : Int) := by omega
  clear h hpost hwth hg hsg hsv hgs hgne hv hll hcs hvs hcell hsp hone h1 hsp1 hn hp hn1 hdl hcl hc1
  go_enter Try.func97, Try.ntmps97
  go_wp2_with (simp only [hov])
  go_region_law_o (refine step_copy_runI rfl _ _ 107 107 rfl _ _ (by simp [Act.eval, Act.put]) (by simp [Act.eval, Act.put]) (hcp1 _ _ _) ?_)
  go_wp2_with (at_builtin; refine wpList_copy_run _ rfl _ _ 107 27 rfl _ _ rfl rfl (hcp2 _ (fun _ => rfl) (fun _ => rfl) _ _) ?_)
  go_ret
  exact ⟨g, off, c, by rw [HN.out, HN1.out]; rfl, HPO.out _ rfl, (by first | exact HWT.out | (rw [Nat.mul_one]; exact HWT.out)), .inl ⟨rfl, rfl, rfl⟩⟩
end
end Go.Proofs.Ytbpgfmcnpifmdaa
end

section
namespace Go.Proofs.Ytbpgfmcnpifmdaa
open Go.RowKit Go Go.Sort Go.Lib
set_option linter.unusedVariables false
set_option maxRecDepth 20000

theorem Try.infoBk : (Try.prog.info? 107).map (fun i => (i.zero, i.size, i.bytes)) = some (some (.slice none 0 0), 1, 24) := by kernel_rfl

section
variable {w : World} {g off c i vb : Nat} {l : List Blk} {r : Blk} {tv : TypeId}
set_option maxHeartbeats 4000000 in
set_option maxRecDepth 100000 in
theorem insBk_shift (h : At 1 107 Blk.arr w g off c l) (hi : i < l.length) (hroom : l.length + 1 ≤ c) (hfew : l.length ≤ 1000000) (hv : w.heap[vb]? = some (.cells (Blk.arr r) tv (0, 0))) (hne : vb ≠ g)
    (h1 : ∀ x ∈ l, ∀ u ∈ (Blk.arr x).toList, u.oneCell' = true) (h1r : ∀ u ∈ (Blk.arr r).toList, u.oneCell' = true) :
    Calls Try.prog 99 #[.slice (some ⟨g, off, none⟩) l.length c, .int .i64 (i : Int), .slice (some ⟨vb, 0, none⟩) 1 1] w (InsPost 1 107 Blk.arr g off c l i r w) := by
  have mixed : Try.prog.follows .mixedOrders = true := by kernel_rfl
  have hmax := h.max
  have hsz : (Try.prog.info? 107).map (·.size) = some 1 := by
    obtain ⟨i0, hi0, h0, hz1, h2⟩ := info_parts Try.infoBk
    rw [hi0]; simp [hz1]
  have hll := lCells_length (arr := Blk.arr) (sz := 1) (fun _ => rfl) l
  obtain ⟨cs, hcs⟩ : ∃ z, lCells Blk.arr l = z := ⟨_, rfl⟩
  obtain ⟨vs, hvs⟩ : ∃ z, (Blk.arr r).toList = z := ⟨_, rfl⟩
  have hvl : vs.length = 1 := by rw [← hvs]; rfl
  have hone := lCells_one_of h1
  obtain ⟨n, hn⟩ : ∃ z, l.length = z := ⟨_, rfl⟩
  have hcell := h.cell
  have hfz := h.fz
  have hsp := fun j (hj : j < c * 1) => h.spare hj
  rw [hcs] at hll hcell hone
  rw [hvs] at h1r
  rw [hn] at hll hi hroom hfew ⊢
  obtain ⟨p, hp⟩ : ∃ z, i + 1 = z := ⟨_, rfl⟩
  obtain ⟨n1, hn1⟩ : ∃ z, n + 1 = z := ⟨_, rfl⟩
  have hpi : (i : Int) + 1 = (p : Int) := by omega
  have hni : (n : Int) + 1 = (n1 : Int) := by omega
  have hpw : IntKind.i64.wrap ((i : Int) + 1) = (p : Int) := by rw [IntKind.wrap_i64]; omega
  have hnw : IntKind.i64.wrap ((n : Int) + 1) = (n1 : Int) := by rw [IntKind.wrap_i64]; omega
  have hpw2 : IntKind.i64.wrap (p : Int) = (p : Int) := by rw [IntKind.wrap_i64]; omega
  have hnw2 : IntKind.i64.wrap (n1 : Int) = (n1 : Int) := by rw [IntKind.wrap_i64]; omega
  obtain ⟨curg, hg, hgs, -⟩ := h.blk
  have hsg := shape_row hg
  have hsv := shape_row hv
  have hcv : ∀ j v, vs[j]? = some v → w.cell? ⟨vb, 0 + j, none⟩ = some v := fun j v hj => by
    rw [cell_of_row w vb _ _ _ (0, 0) hv, Nat.zero_add, ← hj, ← hvs]
    simp
  have hfv : ∀ k, w.frozen? ⟨vb, k, none⟩ = false := fun k => frozen_of_row _ vb k _ _ hv
  have hgne : curg.size ≠ 0 := by omega
  have hov : ∀ lb cb, (callFunc 110 #[.slice (some ⟨vb, 0, none⟩) 1 1, .slice (some ⟨g, off + p * 1, none⟩) lb cb]).run Try.prog w = .ok (.value (.bool false)) w := fun lb cb => by
    rw [run_callFunc_extern Try.func110 (by kernel_rfl) (by kernel_rfl) (by kernel_rfl) (e := Extern.SlicesOverlaps.overlaps #[54, 54] #[4]) (by kernel_rfl),
      Lib.run_overlaps_apart w 54 4 107 Try.underlying54 1 (fun w => by
        obtain ⟨i0, hi0, h0, hz1, h2⟩ := info_parts Try.infoBk
        simp [sizeOf, typeInfo, hi0, hz1]) ⟨vb, 0, none⟩ ⟨g, off + p * 1, none⟩ 1 1 lb cb hne _ _ _ _ hsv hsg hgne (hfv 0) (hfv _)]
    rfl
  have hcl : n * 1 ≤ c * 1 := Nat.mul_le_mul_right _ (by omega)
  have hc1 : (n + 1) * 1 ≤ c * 1 := Nat.mul_le_mul_right _ (by omega)
  have hdl : (cs.drop (i * 1)).length = (n - i) * 1 := by rw [List.length_drop, hll]; omega
  have hcp1 : ∀ ty dc sc, (Builtin.copy_ #[55, 55] ty #[.slice (some ⟨g, off + p * 1, none⟩) (n1 - p) dc, .slice (some ⟨g, off + i * 1, none⟩) (n1 - i) sc]).run Try.prog w.drew = .ok (goInt (Nat.min (n1 - i) (n1 - p))) (w.drew.setCells g (off + p * 1) (cs.drop (i * 1))) := fun ty dc sc =>
    run_copy_sz w.drew _ _ ty 107 g (off + p * 1) (n1 - p) dc ⟨g, off + i * 1, none⟩ (n1 - i) sc (cs.drop (i * 1)) 1 Try.underlying55 hsz (by rw [hdl]; simp only [Nat.min_def]; split <;> omega)
      (fun j v hj => by rw [Addr.add_lit, Nat.add_assoc]; exact hcell _ v (by rwa [List.getElem?_drop] at hj))
      (fun j hj => by rw [hdl] at hj; rw [Nat.add_assoc]; exact hsp _ (by omega)) (fun j hj => hfz _) (fun v hv => hone v (List.mem_of_mem_drop hv))
  obtain ⟨W1, hW1⟩ : ∃ W1, W1 = w.drew.setCells g (off + p * 1) (cs.drop (i * 1)) := ⟨_, rfl⟩
  have hsp1 : ∀ k, k < c * 1 → (W1.cell? ⟨g, off + k, none⟩).isSome = true := fun k hk => by
    rw [hW1]
    exact isSome_setCells g _ _ _ (fun j hj => by rw [hdl] at hj; rw [Nat.add_assoc]; exact hsp _ (by omega)) _ (hsp k hk)
  have hcp2 : ∀ (W : World), (∀ x, W.cell? x = W1.cell? x) → (∀ x, W.frozen? x = W1.frozen? x) → ∀ ty dc, (Builtin.copy_ #[55, 54] ty #[.slice (some ⟨g, off + i * 1, none⟩) (n1 - i) dc, .slice (some ⟨vb, 0, none⟩) 1 1]).run Try.prog W = .ok (goInt (Nat.min 1 (n1 - i))) (W.setCells g (off + i * 1) vs) := fun W hWc hWf ty dc =>
    run_copy_sz W _ _ ty 107 g (off + i * 1) (n1 - i) dc ⟨vb, 0, none⟩ 1 1 vs 1 Try.underlying55 hsz (by rw [hvl]; simp only [Nat.min_def]; split <;> omega)
      (fun j v hj => by
        rw [Addr.add_lit, hWc, hW1, World.cell?_setCells_out g _ _ _ _ (fun h _ => absurd h hne)]
        exact hcv j v hj)
      (fun j hj => by rw [hWc, Nat.add_assoc]; exact hsp1 _ (by omega)) (fun j hj => by rw [hWf, hW1, World.frozen?_setCells]; exact hfz _) h1r
  rw [← hW1] at hcp1
  simp only [Nat.mul_one] at hov hcp1 hcp2
  have hpost : ∀ W2 : World, W2.heap = (W1.setCells g (off + i * 1) vs).heap → At 1 107 Blk.arr W2 g off c (l.take i ++ [r] ++ l.drop i) := fun W2 h2 => by
    refine h.shift (W1 := W1) (fun _ => rfl) (by omega) (by omega) (by rw [hW1, hp, hcs]; exact setCells_heap (by rfl) _ _) (by rw [h2, hvs])
  have hwth : Within g off (off + c * 1) w (W1.setCells g (off + i * 1) vs) := by
    refine Within.trans (w' := W1) ?_ (Within.set g _ _ _ _ _ (by omega) (by rw [hvl]; omega))
    rw [hW1]
    exact Within.trans (w' := w.drew) ⟨rfl, rfl, rfl, Nat.le_refl _, fun _ _ _ => rfl, fun cur _ h => ⟨cur, h, rfl, fun _ _ => rfl⟩⟩ (Within.set g _ _ _ _ _ (by omega) (by rw [hdl]; omega))
  subst hW1
  simp only [Nat.mul_one] at hpost hwth
  have HPO := Lib.hid hpost
  have HN1 := Lib.hid hn1
  have HWT := Lib.hid hwth
  have HN := Lib.hid hn
  have hb2 : ¬ (c = p) := by omega
  have hb4 : ¬ (c = i) := by omega
  have hz2 : ¬ ((i : Int) = (n : Int)) := by omega
  have hb5 : ¬ ((c : Int) < (n1 : Int)) := by omega
  have hb6 : (i : Int) ≤ (n : Int) := by omega
  have hb7 : (p : Int) ≤ (n1 : Int) := by omega
  have hb8 : (i : Int) ≤ (n1 : Int) := by omega
  have hb9 : (n1 : Int) ≤ (c : Int) := by omega
  clear h hpost hwth hg hsg hsv hgs hgne hv hll hcs hvs hcell hsp hone h1 hsp1 hn hp hn1 hdl hcl hc1
  go_enter Try.func99, Try.ntmps99
  go_wp2_with (simp only [hov])
  go_region_law_o (refine step_copy_runI rfl _ _ 55 55 rfl _ _ (by simp [Act.eval, Act.put]) (by simp [Act.eval, Act.put]) (hcp1 _ _ _) ?_)
  go_wp2_with (at_builtin; refine wpList_copy_run _ rfl _ _ 55 54 rfl _ _ rfl rfl (hcp2 _ (fun _ => rfl) (fun _ => rfl) _ _) ?_)
  go_ret
  exact ⟨g, off, c, by rw [HN.out, HN1.out]; rfl, HPO.out _ rfl, (by first | exact HWT.out | (rw [Nat.mul_one]; exact HWT.out)), .inl ⟨rfl, rfl, rfl⟩⟩
end
end Go.Proofs.Ytbpgfmcnpifmdaa
end

section
namespace Go.Proofs.Ytbpgfmcnpifmdaa
open Go.RowKit Go Go.Sort Go.Lib
set_option linter.unusedVariables false
set_option maxRecDepth 20000

section
variable {w : World} {g off c i vb : Nat} {l : List Blk} {r : Blk} {tv : TypeId}
set_option maxHeartbeats 4000000 in
set_option maxRecDepth 100000 in
theorem insBk_end (h : At 1 107 Blk.arr w g off c l) (hfew : l.length ≤ 1000000) (hv : w.heap[vb]? = some (.cells (Blk.arr r) tv (0, 0)))
    (h1r : ∀ u ∈ (Blk.arr r).toList, u.oneCell' = true) :
    Calls Try.prog 99 #[.slice (some ⟨g, off, none⟩) l.length c, .int .i64 (l.length : Int), .slice (some ⟨vb, 0, none⟩) 1 1] w (InsPost 1 107 Blk.arr g off c l l.length r w) := by
  have mixed : Try.prog.follows .mixedOrders = true := by kernel_rfl
  have hmax := h.max
  have hle := h.le
  obtain ⟨i0, hi0, hz0, hzs, hzb⟩ := info_parts Try.infoBk
  have hll := lCells_length (arr := Blk.arr) (sz := 1) (fun _ => rfl) l
  have HH := Lib.hid h
  have HV := Lib.hid hv
  obtain ⟨vs, hvs⟩ : ∃ z, (Blk.arr r).toList = z := ⟨_, rfl⟩
  have hvl : vs.length = 1 := by rw [← hvs]; rfl
  rw [hvs] at h1r
  obtain ⟨n, hn⟩ : ∃ z, l.length = z := ⟨_, rfl⟩
  have hcell := h.cell
  have hfz := h.fz
  have hsp := fun j (hj : j < c * 1) => h.spare hj
  rw [hn] at hll hfew hle ⊢
  have hcv : ∀ j v, vs[j]? = some v → w.cell? ((⟨vb, 0, none⟩ : Addr).add j) = some v := fun j v hj => by
    rw [Addr.add_lit, cell_of_row w vb _ _ _ (0, 0) hv, Nat.zero_add, ← hj, ← hvs]
    simp
  have hsrc : Src Try.prog i0.size 54 (.slice (some ⟨vb, 0, none⟩) 1 1) 1 vs w := by
    rw [hzs]
    exact Src.ofSlice w Try.underlying54 ⟨vb, 0, none⟩ 1 1 vs (by omega) hcv h1r
  have HN := Lib.hid hn
  have HVS := Lib.hid hvs
  have HLL := Lib.hid hll
  by_cases hroom : n + 1 ≤ c
  · have hc1 : (n + 1) * 1 ≤ c * 1 := Nat.mul_le_mul_right _ (by omega)
    have hA : ∀ j, j < vs.length → (w.cell? ⟨g, off + n * i0.size + j, none⟩).isSome = true := fun j hj => by rw [hzs, Nat.add_assoc]; exact hsp _ (by omega)
    have hB : ∀ j, j < vs.length → w.frozen? ⟨g, off + n * i0.size + j, none⟩ = false := fun j _ => hfz _
    have hrun : ∀ ty, (Builtin.append_ #[55, 54] ty #[.slice (some ⟨g, off, none⟩) n c, .slice (some ⟨vb, 0, none⟩) 1 1]).run Try.prog w = .ok (.slice (some ⟨g, off, none⟩) (n + 1) c) (w.setCells g (off + n * i0.size) vs) := fun ty =>
      run_append_room_src w 55 54 ty 107 i0 Try.underlying55 hi0 g off n c _ 1 vs hsrc hroom hA hB
    rw [hzs] at hrun
    have HWT := Lib.hid (Within.set g off (off + c * 1) (off + n * 1) w vs (by omega) (by rw [hvl]; omega))
    have hpo : At 1 107 Blk.arr (w.setCells g (off + n * 1) vs) g off c (l.take n ++ [r] ++ l.drop n) := by
      refine h.shift (W1 := w) (fun _ => rfl) (by omega) (by omega) ?_ (by rw [hvs])
      rw [List.drop_of_length_le (by rw [hll]; omega)]
      rfl
    have HPO := Lib.hid hpo
    clear h hv hvs hll hn hcell hsp hsrc hA hB hc1 hpo
    simp only [Nat.mul_one] at hrun HPO HWT
    go_enter Try.func99, Try.ntmps99
    go_wp2_with (at_builtin; refine Lib.wpList_append_run _ rfl _ _ _ _ rfl _ _ rfl rfl _ _ (hrun _) ?_)
    go_ret
    exact ⟨g, off, c, by rw [HN.out]; rfl, HPO.out, (by first | exact HWT.out | (rw [Nat.mul_one]; exact HWT.out)), .inl ⟨rfl, rfl, rfl⟩⟩
  · have hold : (Builtin.firstCells i0.size n (.slice (some ⟨g, off, none⟩) n c)).run Try.prog w.drew = .ok (lCells Blk.arr l).toArray w.drew := by
      rw [hzs]
      exact run_firstCells_some w.drew 1 n ⟨g, off, none⟩ n c (lCells Blk.arr l) (by omega) (fun j v hj => by rw [Addr.add_lit]; exact hcell j v hj)
    have hrun : ∀ ty, (Builtin.append_ #[55, 54] ty #[.slice (some ⟨g, off, none⟩) n c, .slice (some ⟨vb, 0, none⟩) 1 1]).run Try.prog w = _ := fun ty =>
      run_append_grow_src w 55 54 ty 107 i0 _ Try.underlying55 hi0 hz0 (some ⟨g, off, none⟩) n c (lCells Blk.arr l) hold _ 1 vs hsrc (by omega) (by omega) (by rw [hzb]; exact growslice_fits (by omega) (by omega))
    obtain ⟨G, hG⟩ : ∃ G, grownCap w (n + 1) c 107 = G := ⟨_, rfl⟩
    have hGn : n + 1 ≤ G := by rw [← hG]; exact grownCap_ge w _ _ _
    have hG63 : G ≤ 9223372036854775807 := by
      have := grownCap_le_maxLen w (n + 1) c 107 (by unfold maxLen; omega)
      rw [hG] at this
      unfold maxLen at this
      omega
    rw [hG] at hrun
    have hpo : ∀ W2 : World, W2.heap = (w.drew.alloc (.cells ((lCells Blk.arr l ++ vs).toArray ++ Builtin.zeroCells (Value.cells (.slice none 0 0)) (G - (n + 1))) 107)).heap → At 1 107 Blk.arr W2 w.heap.size 0 G (l.take n ++ [r] ++ l.drop n) := fun W2 h2 => by
      have hgt := heap_alloc_new w.drew (.cells ((lCells Blk.arr l ++ vs).toArray ++ Builtin.zeroCells (Value.cells (.slice none 0 0)) (G - (n + 1))) 107)
      have el : l.take n ++ [r] ++ l.drop n = l ++ [r] := by rw [List.take_of_length_le (by omega), List.drop_of_length_le (by omega), List.append_nil]
      have ec : lCells Blk.arr l ++ vs = lCells Blk.arr (l ++ [r]) := by rw [lCells_append, lCells_one, hvs]
      have en : n + 1 = (l ++ [r]).length := by rw [List.length_append, hn]; rfl
      rw [el]
      rw [ec] at hgt h2
      refine At.fresh (zs := Value.cells (.slice none 0 0)) (fun _ => rfl) ?_ rfl (by rw [← en]; exact hGn) hG63
      rw [← en, h2]
      exact hgt
    have HPO := Lib.hid hpo
    clear h hv hvs hll hn hcell hsp hsrc hpo hold hG
    go_enter Try.func99, Try.ntmps99
    go_wp2_with (at_builtin; refine Lib.wpList_append_run _ rfl _ _ _ _ rfl _ _ rfl rfl _ _ (hrun _) ?_)
    go_ret
    exact ⟨w.heap.size, 0, G, by rw [HN.out]; rfl, HPO.out _ rfl, within_alloc rfl rfl rfl rfl, .inr ⟨Nat.le_refl _, rfl⟩⟩
set_option maxHeartbeats 4000000 in
set_option maxRecDepth 100000 in
theorem insBk_grow (h : At 1 107 Blk.arr w g off c l) (hi : i < l.length) (hroom : c < l.length + 1) (hfew : l.length ≤ 1000000) (hv : w.heap[vb]? = some (.cells (Blk.arr r) tv (0, 0)))
    (h1 : ∀ x ∈ l, ∀ u ∈ (Blk.arr x).toList, u.oneCell' = true) (h1r : ∀ u ∈ (Blk.arr r).toList, u.oneCell' = true) :
    Calls Try.prog 99 #[.slice (some ⟨g, off, none⟩) l.length c, .int .i64 (i : Int), .slice (some ⟨vb, 0, none⟩) 1 1] w (InsPost 1 107 Blk.arr g off c l i r w) := by
  have mixed : Try.prog.follows .mixedOrders = true := by kernel_rfl
  have hmax := h.max
  have hle := h.le
  obtain ⟨i0, hi0, hz0, hzs, hzb⟩ := info_parts Try.infoBk
  have hsz : (Try.prog.info? 107).map (·.size) = some 1 := by rw [hi0]; simp [hzs]
  have hll := lCells_length (arr := Blk.arr) (sz := 1) (fun _ => rfl) l
  obtain ⟨cs, hcs⟩ : ∃ z, lCells Blk.arr l = z := ⟨_, rfl⟩
  obtain ⟨vs, hvs⟩ : ∃ z, (Blk.arr r).toList = z := ⟨_, rfl⟩
  have hvl : vs.length = 1 := by rw [← hvs]; rfl
  have hone := lCells_one_of h1
  obtain ⟨n, hn⟩ : ∃ z, l.length = z := ⟨_, rfl⟩
  have hcell := h.cell
  rw [hcs] at hll hcell hone
  rw [hvs] at h1r
  rw [hn] at hll hi hroom hfew hle ⊢
  obtain ⟨p, hp⟩ : ∃ z, i + 1 = z := ⟨_, rfl⟩
  obtain ⟨n1, hn1⟩ : ∃ z, n + 1 = z := ⟨_, rfl⟩
  have hgw := h.lt
  have hvw : vb < w.heap.size := (Array.getElem?_eq_some_iff.1 hv).1
  have hcv : ∀ j v, vs[j]? = some v → w.cell? ⟨vb, j, none⟩ = some v := fun j v hj => by
    rw [cell_of_row w vb _ _ _ (0, 0) hv, ← hj, ← hvs]
    simp
  have his : i * 1 ≤ n * 1 := Nat.mul_le_mul_right _ (by omega)
  have hold : (Builtin.firstCells i0.size i (.slice (some ⟨g, off, none⟩) i c)).run Try.prog w.drew = .ok (cs.take (i * 1)).toArray w.drew := by
    rw [hzs]
    exact run_firstCells_some w.drew 1 i ⟨g, off, none⟩ i c (cs.take (i * 1)) (by rw [List.length_take]; omega) (fun j v hj => by
      rw [Addr.add_lit]
      rw [List.getElem?_take] at hj
      split at hj
      · exact hcell j v hj
      · cases hj)
  obtain ⟨G, hG⟩ : ∃ G, grownCap w n1 c 107 = G := ⟨_, rfl⟩
  have hGn : n1 ≤ G := by rw [← hG]; exact grownCap_ge w _ _ _
  have hG63 : G ≤ 9223372036854775807 := by
    have := grownCap_le_maxLen w n1 c 107 (by unfold maxLen; omega)
    rw [hG] at this
    unfold maxLen at this
    omega
  obtain ⟨ROW, hROW⟩ : ∃ ROW : Array Value, (cs.take (i * 1)).toArray ++ Builtin.zeroCells (Value.cells (.slice none 0 0)) (n1 - i) ++ Builtin.zeroCells (Value.cells (.slice none 0 0)) (G - n1) = ROW := ⟨_, rfl⟩
  have hrz : ∀ ty, (Builtin.append_ #[55, 3] ty #[.slice (some ⟨g, off, none⟩) i c, .int .i64 ((n1 - i : Nat) : Int)]).run Try.prog w =
      .ok (.slice (some ⟨w.heap.size, 0, none⟩) n1 G) (w.drew.alloc (.cells ROW 107)) := fun ty => by
    have h := Lib.run_append_grow_zeros w 55 3 ty 107 i0 _ .i64 .i64 Try.underlying55 Try.underlying3 hi0 hz0 (some ⟨g, off, none⟩) i c (cs.take (i * 1)) hold (n1 - i) (by omega) (by omega) (by omega) (by omega) (by rw [hzb]; omega) (by rw [hzb, show i + (n1 - i) = n1 by omega]; exact growslice_fits (by omega) (by omega))
    rw [show i + (n1 - i) = n1 by omega, hG, hROW] at h
    exact h
  have hRl : ROW.size = G * 1 := by
    rw [← hROW, Array.size_append, Array.size_append, List.size_toArray, List.length_take, hll, size_zeroCells, size_zeroCells, Nat.min_eq_left his]
    show i * 1 + (n1 - i) * 1 + (G - n1) * 1 = G * 1
    omega
  obtain ⟨W1, hW1⟩ : ∃ W1, W1 = w.drew.alloc (.cells ROW 107) := ⟨_, rfl⟩
  rw [← hW1] at hrz
  have hng : W1.heap[w.heap.size]? = some (.cells ROW 107 (0, 0)) := by rw [hW1]; exact heap_alloc_new w.drew _
  have hN : ∀ j, j < G * 1 → (W1.cell? ⟨w.heap.size, j, none⟩).isSome = true := fun j hj => by
    rw [cell_of_row _ _ _ _ _ (0, 0) hng, Array.getElem?_eq_getElem (by omega)]; rfl
  have hNf : ∀ j, W1.frozen? ⟨w.heap.size, j, none⟩ = false := fun j => frozen_of_row _ _ j _ _ hng
  have hbw : Below w.heap.size w W1 := by rw [hW1]; exact below_drew_alloc w _
  have hOb : ∀ j v, cs[j]? = some v → W1.cell? ⟨g, off + j, none⟩ = some v := fun j v hj => (hbw.cell hgw).trans (hcell j v hj)
  have hOv : ∀ j v, vs[j]? = some v → W1.cell? ⟨vb, 0 + j, none⟩ = some v := fun j v hj => by rw [Nat.zero_add]; exact (hbw.cell hvw).trans (hcv j v hj)
  have hvN : vb ≠ w.heap.size := by omega
  have hbN : g ≠ w.heap.size := by omega
  have hdl : (cs.drop (i * 1)).length = (n - i) * 1 := by rw [List.length_drop, hll]; omega
  have hcG : n1 * 1 ≤ G * 1 := Nat.mul_le_mul_right _ hGn
  have hcpA : ∀ (W : World), (∀ x, W.cell? x = W1.cell? x) → (∀ x, W.frozen? x = W1.frozen? x) → ∀ ty dc, (Builtin.copy_ #[55, 54] ty #[.slice (some ⟨w.heap.size, i * 1, none⟩) (n1 - i) dc, .slice (some ⟨vb, 0, none⟩) 1 1]).run Try.prog W = .ok (goInt (Nat.min 1 (n1 - i))) (W.setCells w.heap.size (i * 1) vs) := fun W hWc hWf ty dc =>
    run_copy_sz W _ _ ty 107 w.heap.size (i * 1) (n1 - i) dc ⟨vb, 0, none⟩ 1 1 vs 1 Try.underlying55 hsz (by rw [hvl]; simp only [Nat.min_def]; split <;> omega)
      (fun j v hj => by rw [Addr.add_lit, hWc]; exact hOv j v hj)
      (fun j hj => by rw [hWc]; exact hN _ (by omega)) (fun j hj => by rw [hWf]; exact hNf _) h1r
  have hcpB : ∀ (W : World), (∀ x, W.cell? x = (W1.setCells w.heap.size (i * 1) vs).cell? x) → (∀ x, W.frozen? x = (W1.setCells w.heap.size (i * 1) vs).frozen? x) → ∀ ty dc sc, (Builtin.copy_ #[55, 55] ty #[.slice (some ⟨w.heap.size, p * 1, none⟩) (n1 - p) dc, .slice (some ⟨g, off + i * 1, none⟩) (n - i) sc]).run Try.prog W = .ok (goInt (Nat.min (n - i) (n1 - p))) (W.setCells w.heap.size (p * 1) (cs.drop (i * 1))) := fun W hWc hWf ty dc sc =>
    run_copy_sz W _ _ ty 107 w.heap.size (p * 1) (n1 - p) dc ⟨g, off + i * 1, none⟩ (n - i) sc (cs.drop (i * 1)) 1 Try.underlying55 hsz (by rw [hdl]; simp only [Nat.min_def]; split <;> omega)
      (fun j v hj => by
        rw [Addr.add_lit, hWc, World.cell?_setCells_out _ _ _ _ _ (fun h _ => absurd h hbN), Nat.add_assoc]
        exact hOb _ v (by rwa [List.getElem?_drop] at hj))
      (fun j hj => by rw [hdl] at hj; rw [hWc]; exact isSome_setCells _ _ _ _ (fun t ht => hN _ (by omega)) _ (hN _ (by omega)))
      (fun j hj => by rw [hWf, World.frozen?_setCells]; exact hNf _) (fun v hv => hone v (List.mem_of_mem_drop hv))
  have hpo : ∀ W2 : World, W2.heap = ((W1.setCells w.heap.size (i * 1) vs).setCells w.heap.size (p * 1) (cs.drop (i * 1))).heap → At 1 107 Blk.arr W2 w.heap.size 0 G (l.take i ++ [r] ++ l.drop i) := fun W2 h2 => by
    refine At.grown (W := W1) (W1 := W1.setCells w.heap.size (i * 1) vs) (zs := Value.cells (.slice none 0 0)) (fun _ => rfl) (by omega) rfl (by omega) hG63 ?_ (by rw [hvs]) (by rw [h2, hp, hcs])
    rw [hng, ← hROW, hcs, hn, hn1]
  have hwt : ∀ W2 : World, W2.heap = ((W1.setCells w.heap.size (i * 1) vs).setCells w.heap.size (p * 1) (cs.drop (i * 1))).heap → W2.os = w.os → W2.tape = w.tape → W2.output = w.output → Within g off (off + c * 1) w W2 := fun W2 h2 e1 e2 e3 => by
    refine Within.of_below ⟨e1, e2, e3, ?_, fun k hk => ?_⟩
    · rw [h2, setCells_size, setCells_size]; exact hbw.size
    · rw [h2, setCells_other _ _ _ _ _ (by omega), setCells_other _ _ _ _ _ (by omega)]; exact hbw.block k hk
  have HPO := Lib.hid hpo
  have HWT := Lib.hid hwt
  have HN := Lib.hid hn
  have HN1 := Lib.hid hn1
  subst hW1
  have hE1 : ∀ x, ((w.alloc (.cells ROW 107)).drew).cell? x = (w.drew.alloc (.cells ROW 107)).cell? x := fun x => rfl
  have hE2 : ∀ x, ((w.alloc (.cells ROW 107)).drew).frozen? x = (w.drew.alloc (.cells ROW 107)).frozen? x := fun x => rfl
  have hF1 : ∀ x, (((w.alloc (.cells ROW 107)).drew.setCells w.heap.size (i * 1) vs).drew).cell? x = ((w.drew.alloc (.cells ROW 107)).setCells w.heap.size (i * 1) vs).cell? x := fun x => rfl
  have hF2 : ∀ x, (((w.alloc (.cells ROW 107)).drew.setCells w.heap.size (i * 1) vs).drew).frozen? x = ((w.drew.alloc (.cells ROW 107)).setCells w.heap.size (i * 1) vs).frozen? x := fun x => rfl
  simp only [Nat.mul_one] at hrz hcpA hcpB HPO HWT hE1 hE2 hF1 hF2
  have hpi : (i : Int) + 1 = (p : Int) := by omega
  have hni : (n : Int) + 1 = (n1 : Int) := by omega
  have hpw : IntKind.i64.wrap ((i : Int) + 1) = (p : Int) := by rw [IntKind.wrap_i64]; omega
  have hnw : IntKind.i64.wrap ((n : Int) + 1) = (n1 : Int) := by rw [IntKind.wrap_i64]; omega
  have hpw2 : IntKind.i64.wrap (p : Int) = (p : Int) := by rw [IntKind.wrap_i64]; omega
  have hnw2 : IntKind.i64.wrap (n1 : Int) = (n1 : Int) := by rw [IntKind.wrap_i64]; omega
  have hkk : (n1 : Int) - (i : Int) = ((n1 - i : Nat) : Int) := by omega
  have hkw : IntKind.i64.wrap ((n1 : Int) - (i : Int)) = ((n1 - i : Nat) : Int) := by rw [IntKind.wrap_i64]; omega
  have hz2 : ¬ ((i : Int) = (n : Int)) := by omega
  have hz3 : (c : Int) < (n1 : Int) := by omega
  have hGi : ¬ (G = i) := by omega
  have hGp : ¬ (G = p) := by omega
  have hci : ¬ (c = i) := by omega
  have hb5 : (i : Int) ≤ (n : Int) := by omega
  have hb6 : (i : Int) ≤ (c : Int) := by omega
  have hb7 : (p : Int) ≤ (n1 : Int) := by omega
  have hb8 : (i : Int) ≤ (n1 : Int) := by omega
  clear h hpo hwt hv hll hcs hvs hcell hone h1 hn hp hn1 hdl hcG hG hROW hRl hng hN hNf hbw hOb hOv hold hcv his
  go_enter Try.func99, Try.ntmps99
  go_wp2_with (first
    | (at_builtin; refine Lib.wpList_append_run _ rfl _ _ _ _ rfl _ _ rfl rfl _ _ (hrz _) ?_)
    | (at_builtin; refine wpList_copy_run _ rfl _ _ 55 54 rfl _ _ rfl rfl (hcpA _ hE1 hE2 _ _) ?_)
    | (at_builtin; refine wpList_copy_run _ rfl _ _ 55 55 rfl _ _ rfl rfl (hcpB _ (fun _ => rfl) (fun _ => rfl) _ _ _) ?_))
  go_region_law_o (refine step_copy_runI rfl _ _ 55 55 rfl (.slice (some ⟨w.heap.size, p, none⟩) (n1 - p) (G - p)) (.slice (some ⟨g, off + i, none⟩) (n - i) (c - i)) (by simp [Act.eval, Act.put]) (by simp [Act.eval, Act.put]) (hcpB _ hF1 hF2 3 (G - p) (c - i)) ?_)
  go_wp2
  go_ret
  exact ⟨w.heap.size, 0, G, by rw [HN.out, HN1.out]; rfl, HPO.out _ (set2_drew rfl _ _ _ _ _), (by first | exact HWT.out _ (set2_drew rfl _ _ _ _ _) ((setCells_os _ _ _ _).trans (setCells_os _ _ _ _)) ((setCells_tape _ _ _ _).trans (setCells_tape _ _ _ _)) ((setCells_output _ _ _ _).trans (setCells_output _ _ _ _)) | (rw [Nat.mul_one]; exact HWT.out _ (set2_drew rfl _ _ _ _ _) ((setCells_os _ _ _ _).trans (setCells_os _ _ _ _)) ((setCells_tape _ _ _ _).trans (setCells_tape _ _ _ _)) ((setCells_output _ _ _ _).trans (setCells_output _ _ _ _)))), .inr ⟨Nat.le_refl _, rfl⟩⟩
/-- slices.Insert of one element, whole. -/
theorem insBk_c (h : At 1 107 Blk.arr w g off c l) (hi : i ≤ l.length) (hfew : l.length ≤ 1000000) (hv : w.heap[vb]? = some (.cells (Blk.arr r) tv (0, 0))) (hne : vb ≠ g)
    (h1 : ∀ x ∈ l, ∀ u ∈ (Blk.arr x).toList, u.oneCell' = true) (h1r : ∀ u ∈ (Blk.arr r).toList, u.oneCell' = true) :
    Calls Try.prog 99 #[.slice (some ⟨g, off, none⟩) l.length c, .int .i64 (i : Int), .slice (some ⟨vb, 0, none⟩) 1 1] w (InsPost 1 107 Blk.arr g off c l i r w) := by
  by_cases e : i = l.length
  · subst e; exact insBk_end h hfew hv h1r
  · by_cases hr : l.length + 1 ≤ c
    · exact insBk_shift h (by omega) hr hfew hv hne h1 h1r
    · exact insBk_grow h (by omega) (by omega) hfew hv h1 h1r
end
end Go.Proofs.Ytbpgfmcnpifmdaa
end

section
namespace Go.Proofs.Ytbpgfmcnpifmdaa
open Go.RowKit Go Go.Sort Go.Lib
set_option linter.unusedVariables false
set_option maxRecDepth 20000

section
variable {w : World} {g off c i vb : Nat} {l : List Rw} {r : Rw} {tv : TypeId}
set_option maxHeartbeats 4000000 in
set_option maxRecDepth 100000 in
theorem insRw_end (h : At 2 30 Rw.arr w g off c l) (hfew : l.length ≤ 1000000) (hv : w.heap[vb]? = some (.cells (Rw.arr r) tv (0, 0)))
    (h1r : ∀ u ∈ (Rw.arr r).toList, u.oneCell' = true) :
    Calls Try.prog 97 #[.slice (some ⟨g, off, none⟩) l.length c, .int .i64 (l.length : Int), .slice (some ⟨vb, 0, none⟩) 1 1] w (InsPost 2 30 Rw.arr g off c l l.length r w) := by
  have mixed : Try.prog.follows .mixedOrders = true := by kernel_rfl
  have hmax := h.max
  have hle := h.le
  obtain ⟨i0, hi0, hz0, hzs, hzb⟩ := info_parts Try.infoRw
  have hll := lCells_length (arr := Rw.arr) (sz := 2) (fun _ => rfl) l
  have HH := Lib.hid h
  have HV := Lib.hid hv
  obtain ⟨vs, hvs⟩ : ∃ z, (Rw.arr r).toList = z := ⟨_, rfl⟩
  have hvl : vs.length = 2 := by rw [← hvs]; rfl
  rw [hvs] at h1r
  obtain ⟨n, hn⟩ : ∃ z, l.length = z := ⟨_, rfl⟩
  have hcell := h.cell
  have hfz := h.fz
  have hsp := fun j (hj : j < c * 2) => h.spare hj
  rw [hn] at hll hfew hle ⊢
  have hcv : ∀ j v, vs[j]? = some v → w.cell? ((⟨vb, 0, none⟩ : Addr).add j) = some v := fun j v hj => by
    rw [Addr.add_lit, cell_of_row w vb _ _ _ (0, 0) hv, Nat.zero_add, ← hj, ← hvs]
    simp
  have hsrc : Src Try.prog i0.size 27 (.slice (some ⟨vb, 0, none⟩) 1 1) 1 vs w := by
    rw [hzs]
    exact Src.ofSlice w Try.underlying27 ⟨vb, 0, none⟩ 1 1 vs (by omega) hcv h1r
  have HN := Lib.hid hn
  have HVS := Lib.hid hvs
  have HLL := Lib.hid hll
  by_cases hroom : n + 1 ≤ c
  · have hc1 : (n + 1) * 2 ≤ c * 2 := Nat.mul_le_mul_right _ (by omega)
    have hA : ∀ j, j < vs.length → (w.cell? ⟨g, off + n * i0.size + j, none⟩).isSome = true := fun j hj => by rw [hzs, Nat.add_assoc]; exact hsp _ (by omega)
    have hB : ∀ j, j < vs.length → w.frozen? ⟨g, off + n * i0.size + j, none⟩ = false := fun j _ => hfz _
    have hrun : ∀ ty, (Builtin.append_ #[107, 27] ty #[.slice (some ⟨g, off, none⟩) n c, .slice (some ⟨vb, 0, none⟩) 1 1]).run Try.prog w = .ok (.slice (some ⟨g, off, none⟩) (n + 1) c) (w.setCells g (off + n * i0.size) vs) := fun ty =>
      run_append_room_src w 107 27 ty 30 i0 Try.underlying107 hi0 g off n c _ 1 vs hsrc hroom hA hB
    rw [hzs] at hrun
    have HWT := Lib.hid (Within.set g off (off + c * 2) (off + n * 2) w vs (by omega) (by rw [hvl]; omega))
    have hpo : At 2 30 Rw.arr (w.setCells g (off + n * 2) vs) g off c (l.take n ++ [r] ++ l.drop n) := by
      refine h.shift (W1 := w) (fun _ => rfl) (by omega) (by omega) ?_ (by rw [hvs])
      rw [List.drop_of_length_le (by rw [hll]; omega)]
      rfl
    have HPO := Lib.hid hpo
    clear h hv hvs hll hn hcell hsp hsrc hA hB hc1 hpo
    go_enter Try.func97, Try.ntmps97
    go_wp2_with (at_builtin; refine Lib.wpList_append_run _ rfl _ _ _ _ rfl _ _ rfl rfl _ _ (hrun _) ?_)
    go_ret
    exact ⟨g, off, c, by rw [HN.out]; rfl, HPO.out, (by first | exact HWT.out | (rw [Nat.mul_one]; exact HWT.out)), .inl ⟨rfl, rfl, rfl⟩⟩
  · have hold : (Builtin.firstCells i0.size n (.slice (some ⟨g, off, none⟩) n c)).run Try.prog w.drew = .ok (lCells Rw.arr l).toArray w.drew := by
      rw [hzs]
      exact run_firstCells_some w.drew 2 n ⟨g, off, none⟩ n c (lCells Rw.arr l) (by omega) (fun j v hj => by rw [Addr.add_lit]; exact hcell j v hj)
    have hrun : ∀ ty, (Builtin.append_ #[107, 27] ty #[.slice (some ⟨g, off, none⟩) n c, .slice (some ⟨vb, 0, none⟩) 1 1]).run Try.prog w = _ := fun ty =>
      run_append_grow_src w 107 27 ty 30 i0 _ Try.underlying107 hi0 hz0 (some ⟨g, off, none⟩) n c (lCells Rw.arr l) hold _ 1 vs hsrc (by omega) (by omega) (by rw [hzb]; exact growslice_fits (by omega) (by omega))
    obtain ⟨G, hG⟩ : ∃ G, grownCap w (n + 1) c 30 = G := ⟨_, rfl⟩
    have hGn : n + 1 ≤ G := by rw [← hG]; exact grownCap_ge w _ _ _
    have hG63 : G ≤ 9223372036854775807 := by
      have := grownCap_le_maxLen w (n + 1) c 30 (by unfold maxLen; omega)
      rw [hG] at this
      unfold maxLen at this
      omega
    rw [hG] at hrun
    have hpo : ∀ W2 : World, W2.heap = (w.drew.alloc (.cells ((lCells Rw.arr l ++ vs).toArray ++ Builtin.zeroCells (Value.cells (.agg #[.string ⟨#[]⟩, .slice none 0 0])) (G - (n + 1))) 30)).heap → At 2 30 Rw.arr W2 w.heap.size 0 G (l.take n ++ [r] ++ l.drop n) := fun W2 h2 => by
      have hgt := heap_alloc_new w.drew (.cells ((lCells Rw.arr l ++ vs).toArray ++ Builtin.zeroCells (Value.cells (.agg #[.string ⟨#[]⟩, .slice none 0 0])) (G - (n + 1))) 30)
      have el : l.take n ++ [r] ++ l.drop n = l ++ [r] := by rw [List.take_of_length_le (by omega), List.drop_of_length_le (by omega), List.append_nil]
      have ec : lCells Rw.arr l ++ vs = lCells Rw.arr (l ++ [r]) := by rw [lCells_append, lCells_one, hvs]
      have en : n + 1 = (l ++ [r]).length := by rw [List.length_append, hn]; rfl
      rw [el]
      rw [ec] at hgt h2
      refine At.fresh (zs := Value.cells (.agg #[.string ⟨#[]⟩, .slice none 0 0])) (fun _ => rfl) ?_ rfl (by rw [← en]; exact hGn) hG63
      rw [← en, h2]
      exact hgt
    have HPO := Lib.hid hpo
    clear h hv hvs hll hn hcell hsp hsrc hpo hold hG
    go_enter Try.func97, Try.ntmps97
    go_wp2_with (at_builtin; refine Lib.wpList_append_run _ rfl _ _ _ _ rfl _ _ rfl rfl _ _ (hrun _) ?_)
    go_ret
    exact ⟨w.heap.size, 0, G, by rw [HN.out]; rfl, HPO.out _ rfl, within_alloc rfl rfl rfl rfl, .inr ⟨Nat.le_refl _, rfl⟩⟩
set_option maxHeartbeats 4000000 in
set_option maxRecDepth 100000 in
theorem insRw_grow (h : At 2 30 Rw.arr w g off c l) (hi : i < l.length) (hroom : c < l.length + 1) (hfew : l.length ≤ 1000000) (hv : w.heap[vb]? = some (.cells (Rw.arr r) tv (0, 0)))
    (h1 : ∀ x ∈ l, ∀ u ∈ (Rw.arr x).toList, u.oneCell' = true) (h1r : ∀ u ∈ (Rw.arr r).toList, u.oneCell' = true) :
    Calls Try.prog 97 #[.slice (some ⟨g, off, none⟩) l.length c, .int .i64 (i : Int), .slice (some ⟨vb, 0, none⟩) 1 1] w (InsPost 2 30 Rw.arr g off c l i r w) := by
  have mixed : Try.prog.follows .mixedOrders = true := by kernel_rfl
  have hmax := h.max
  have hle := h.le
  obtain ⟨i0, hi0, hz0, hzs, hzb⟩ := info_parts Try.infoRw
  have hsz : (Try.prog.info? 30).map (·.size) = some 2 := by rw [hi0]; simp [hzs]
  have hll := lCells_length (arr := Rw.arr) (sz := 2) (fun _ => rfl) l
  obtain ⟨cs, hcs⟩ : ∃ z, lCells Rw.arr l = z := ⟨_, rfl⟩
  obtain ⟨vs, hvs⟩ : ∃ z, (Rw.arr r).toList = z := ⟨_, rfl⟩
  have hvl : vs.length = 2 := by rw [← hvs]; rfl
  have hone := lCells_one_of h1
  obtain ⟨n, hn⟩ : ∃ z, l.length = z := ⟨_, rfl⟩
  have hcell := h.cell
  rw [hcs] at hll hcell hone
  rw [hvs] at h1r
  rw [hn] at hll hi hroom hfew hle ⊢
  obtain ⟨p, hp⟩ : ∃ z, i + 1 = z := ⟨_, rfl⟩
  obtain ⟨n1, hn1⟩ : ∃ z, n + 1 = z := ⟨_, rfl⟩
  have hgw := h.lt
  have hvw : vb < w.heap.size := (Array.getElem?_eq_some_iff.1 hv).1
  have hcv : ∀ j v, vs[j]? = some v → w.cell? ⟨vb, j, none⟩ = some v := fun j v hj => by
    rw [cell_of_row w vb _ _ _ (0, 0) hv, ← hj, ← hvs]
    simp
  have his : i * 2 ≤ n * 2 := Nat.mul_le_mul_right _ (by omega)
  have hold : (Builtin.firstCells i0.size i (.slice (some ⟨g, off, none⟩) i c)).run Try.prog w.drew = .ok (cs.take (i * 2)).toArray w.drew := by
    rw [hzs]
    exact run_firstCells_some w.drew 2 i ⟨g, off, none⟩ i c (cs.take (i * 2)) (by rw [List.length_take]; omega) (fun j v hj => by
      rw [Addr.add_lit]
      rw [List.getElem?_take] at hj
      split at hj
      · exact hcell j v hj
      · cases hj)
  obtain ⟨G, hG⟩ : ∃ G, grownCap w n1 c 30 = G := ⟨_, rfl⟩
  have hGn : n1 ≤ G := by rw [← hG]; exact grownCap_ge w _ _ _
  have hG63 : G ≤ 9223372036854775807 := by
    have := grownCap_le_maxLen w n1 c 30 (by unfold maxLen; omega)
    rw [hG] at this
    unfold maxLen at this
    omega
  obtain ⟨ROW, hROW⟩ : ∃ ROW : Array Value, (cs.take (i * 2)).toArray ++ Builtin.zeroCells (Value.cells (.agg #[.string ⟨#[]⟩, .slice none 0 0])) (n1 - i) ++ Builtin.zeroCells (Value.cells (.agg #[.string ⟨#[]⟩, .slice none 0 0])) (G - n1) = ROW := ⟨_, rfl⟩
  have hrz : ∀ ty, (Builtin.append_ #[107, 3] ty #[.slice (some ⟨g, off, none⟩) i c, .int .i64 ((n1 - i : Nat) : Int)]).run Try.prog w =
      .ok (.slice (some ⟨w.heap.size, 0, none⟩) n1 G) (w.drew.alloc (.cells ROW 30)) := fun ty => by
    have h := Lib.run_append_grow_zeros w 107 3 ty 30 i0 _ .i64 .i64 Try.underlying107 Try.underlying3 hi0 hz0 (some ⟨g, off, none⟩) i c (cs.take (i * 2)) hold (n1 - i) (by omega) (by omega) (by omega) (by omega) (by rw [hzb]; omega) (by rw [hzb, show i + (n1 - i) = n1 by omega]; exact growslice_fits (by omega) (by omega))
    rw [show i + (n1 - i) = n1 by omega, hG, hROW] at h
    exact h
  have hRl : ROW.size = G * 2 := by
    rw [← hROW, Array.size_append, Array.size_append, List.size_toArray, List.length_take, hll, size_zeroCells, size_zeroCells, Nat.min_eq_left his]
    show i * 2 + (n1 - i) * 2 + (G - n1) * 2 = G * 2
    omega
  obtain ⟨W1, hW1⟩ : ∃ W1, W1 = w.drew.alloc (.cells ROW 30) := ⟨_, rfl⟩
  rw [← hW1] at hrz
  have hng : W1.heap[w.heap.size]? = some (.cells ROW 30 (0, 0)) := by rw [hW1]; exact heap_alloc_new w.drew _
  have hN : ∀ j, j < G * 2 → (W1.cell? ⟨w.heap.size, j, none⟩).isSome = true := fun j hj => by
    rw [cell_of_row _ _ _ _ _ (0, 0) hng, Array.getElem?_eq_getElem (by omega)]; rfl
  have hNf : ∀ j, W1.frozen? ⟨w.heap.size, j, none⟩ = false := fun j => frozen_of_row _ _ j _ _ hng
  have hbw : Below w.heap.size w W1 := by rw [hW1]; exact below_drew_alloc w _
  have hOb : ∀ j v, cs[j]? = some v → W1.cell? ⟨g, off + j, none⟩ = some v := fun j v hj => (hbw.cell hgw).trans (hcell j v hj)
  have hOv : ∀ j v, vs[j]? = some v → W1.cell? ⟨vb, 0 + j, none⟩ = some v := fun j v hj => by rw [Nat.zero_add]; exact (hbw.cell hvw).trans (hcv j v hj)
  have hvN : vb ≠ w.heap.size := by omega
  have hbN : g ≠ w.heap.size := by omega
  have hdl : (cs.drop (i * 2)).length = (n - i) * 2 := by rw [List.length_drop, hll]; omega
  have hcG : n1 * 2 ≤ G * 2 := Nat.mul_le_mul_right _ hGn
  have hcpA : ∀ (W : World), (∀ x, W.cell? x = W1.cell? x) → (∀ x, W.frozen? x = W1.frozen? x) → ∀ ty dc, (Builtin.copy_ #[107, 27] ty #[.slice (some ⟨w.heap.size, i * 2, none⟩) (n1 - i) dc, .slice (some ⟨vb, 0, none⟩) 1 1]).run Try.prog W = .ok (goInt (Nat.min 1 (n1 - i))) (W.setCells w.heap.size (i * 2) vs) := fun W hWc hWf ty dc =>
    run_copy_sz W _ _ ty 30 w.heap.size (i * 2) (n1 - i) dc ⟨vb, 0, none⟩ 1 1 vs 2 Try.underlying107 hsz (by rw [hvl]; simp only [Nat.min_def]; split <;> omega)
      (fun j v hj => by rw [Addr.add_lit, hWc]; exact hOv j v hj)
      (fun j hj => by rw [hWc]; exact hN _ (by omega)) (fun j hj => by rw [hWf]; exact hNf _) h1r
  have hcpB : ∀ (W : World), (∀ x, W.cell? x = (W1.setCells w.heap.size (i * 2) vs).cell? x) → (∀ x, W.frozen? x = (W1.setCells w.heap.size (i * 2) vs).frozen? x) → ∀ ty dc sc, (Builtin.copy_ #[107, 107] ty #[.slice (some ⟨w.heap.size, p * 2, none⟩) (n1 - p) dc, .slice (some ⟨g, off + i * 2, none⟩) (n - i) sc]).run Try.prog W = .ok (goInt (Nat.min (n - i) (n1 - p))) (W.setCells w.heap.size (p * 2) (cs.drop (i * 2))) := fun W hWc hWf ty dc sc =>
    run_copy_sz W _ _ ty 30 w.heap.size (p * 2) (n1 - p) dc ⟨g, off + i * 2, none⟩ (n - i) sc (cs.drop (i * 2)) 2 Try.underlying107 hsz (by rw [hdl]; simp only [Nat.min_def]; split <;> omega)
      (fun j v hj => by
        rw [Addr.add_lit, hWc, World.cell?_setCells_out _ _ _ _ _ (fun h _ => absurd h hbN), Nat.add_assoc]
        exact hOb _ v (by rwa [List.getElem?_drop] at hj))
      (fun j hj => by rw [hdl] at hj; rw [hWc]; exact isSome_setCells _ _ _ _ (fun t ht => hN _ (by omega)) _ (hN _ (by omega)))
      (fun j hj => by rw [hWf, World.frozen?_setCells]; exact hNf _) (fun v hv => hone v (List.mem_of_mem_drop hv))
  have hpo : ∀ W2 : World, W2.heap = ((W1.setCells w.heap.size (i * 2) vs).setCells w.heap.size (p * 2) (cs.drop (i * 2))).heap → At 2 30 Rw.arr W2 w.heap.size 0 G (l.take i ++ [r] ++ l.drop i) := fun W2 h2 => by
    refine At.grown (W := W1) (W1 := W1.setCells w.heap.size (i * 2) vs) (zs := Value.cells (.agg #[.string ⟨#[]⟩, .slice none 0 0])) (fun _ => rfl) (by omega) rfl (by omega) hG63 ?_ (by rw [hvs]) (by rw [h2, hp, hcs])
    rw [hng, ← hROW, hcs, hn, hn1]
  have hwt : ∀ W2 : World, W2.heap = ((W1.setCells w.heap.size (i * 2) vs).setCells w.heap.size (p * 2) (cs.drop (i * 2))).heap → W2.os = w.os → W2.tape = w.tape → W2.output = w.output → Within g off (off + c * 2) w W2 := fun W2 h2 e1 e2 e3 => by
    refine Within.of_below ⟨e1, e2, e3, ?_, fun k hk => ?_⟩
    · rw [h2, setCells_size, setCells_size]; exact hbw.size
    · rw [h2, setCells_other _ _ _ _ _ (by omega), setCells_other _ _ _ _ _ (by omega)]; exact hbw.block k hk
  have HPO := Lib.hid hpo
  have HWT := Lib.hid hwt
  have HN := Lib.hid hn
  have HN1 := Lib.hid hn1
  subst hW1
  have hE1 : ∀ x, ((w.alloc (.cells ROW 30)).drew).cell? x = (w.drew.alloc (.cells ROW 30)).cell? x := fun x => rfl
  have hE2 : ∀ x, ((w.alloc (.cells ROW 30)).drew).frozen? x = (w.drew.alloc (.cells ROW 30)).frozen? x := fun x => rfl
  have hF1 : ∀ x, (((w.alloc (.cells ROW 30)).drew.setCells w.heap.size (i * 2) vs).drew).cell? x = ((w.drew.alloc (.cells ROW 30)).setCells w.heap.size (i * 2) vs).cell? x := fun x => rfl
  have hF2 : ∀ x, (((w.alloc (.cells ROW 30)).drew.setCells w.heap.size (i * 2) vs).drew).frozen? x = ((w.drew.alloc (.cells ROW 30)).setCells w.heap.size (i * 2) vs).frozen? x := fun x => rfl
  have hpi : (i : Int) + 1 = (p : Int) := by omega
  have hni : (n : Int) + 1 = (n1 : Int) := by omega
  have hpw : IntKind.i64.wrap ((i : Int) + 1) = (p : Int) := by rw [IntKind.wrap_i64]; omega
  have hnw : IntKind.i64.wrap ((n : Int) + 1) = (n1 : Int) := by rw [IntKind.wrap_i64]; omega
  have hpw2 : IntKind.i64.wrap (p : Int) = (p : Int) := by rw [IntKind.wrap_i64]; omega
  have hnw2 : IntKind.i64.wrap (n1 : Int) = (n1 : Int) := by rw [IntKind.wrap_i64]; omega
  have hkk : (n1 : Int) - (i : Int) = ((n1 - i : Nat) : Int) := by omega
  have hkw : IntKind.i64.wrap ((n1 : Int) - (i : Int)) = ((n1 - i : Nat) : Int) := by rw [IntKind.wrap_i64]; omega
  have hz2 : ¬ ((i : Int) = (n : Int)) := by omega
  have hz3 : (c : Int) < (n1 : Int) := by omega
  have hGi : ¬ (G = i) := by omega
  have hGp : ¬ (G = p) := by omega
  have hci : ¬ (c = i) := by omega
  have hb5 : (i : Int) ≤ (n : Int) := by omega
  have hb6 : (i : Int) ≤ (c : Int) := by omega
  have hb7 : (p : Int) ≤ (n1 : Int) := by omega
  have hb8 : (i : Int) ≤ (n1 : Int) := by omega
  clear h hpo hwt hv hll hcs hvs hcell hone h1 hn hp hn1 hdl hcG hG hROW hRl hng hN hNf hbw hOb hOv hold hcv his
  go_enter Try.func97, Try.ntmps97
  go_wp2_with (first
    | (at_builtin; refine Lib.wpList_append_run _ rfl _ _ _ _ rfl _ _ rfl rfl _ _ (hrz _) ?_)
    | (at_builtin; refine wpList_copy_run _ rfl _ _ 107 27 rfl _ _ rfl rfl (hcpA _ hE1 hE2 _ _) ?_)
    | (at_builtin; refine wpList_copy_run _ rfl _ _ 107 107 rfl _ _ rfl rfl (hcpB _ (fun _ => rfl) (fun _ => rfl) _ _ _) ?_))
  go_region_law_o (refine step_copy_runI rfl _ _ 107 107 rfl (.slice (some ⟨w.heap.size, p * 2, none⟩) (n1 - p) (G - p)) (.slice (some ⟨g, off + i * 2, none⟩) (n - i) (c - i)) (by simp [Act.eval, Act.put]) (by simp [Act.eval, Act.put]) (hcpB _ hF1 hF2 3 (G - p) (c - i)) ?_)
  go_wp2
  go_ret
  exact ⟨w.heap.size, 0, G, by rw [HN.out, HN1.out]; rfl, HPO.out _ (set2_drew rfl _ _ _ _ _), (by first | exact HWT.out _ (set2_drew rfl _ _ _ _ _) ((setCells_os _ _ _ _).trans (setCells_os _ _ _ _)) ((setCells_tape _ _ _ _).trans (setCells_tape _ _ _ _)) ((setCells_output _ _ _ _).trans (setCells_output _ _ _ _)) | (rw [Nat.mul_one]; exact HWT.out _ (set2_drew rfl _ _ _ _ _) ((setCells_os _ _ _ _).trans (setCells_os _ _ _ _)) ((setCells_tape _ _ _ _).trans (setCells_tape _ _ _ _)) ((setCells_output _ _ _ _).trans (setCells_output _ _ _ _)))), .inr ⟨Nat.le_refl _, rfl⟩⟩
/-- slices.Insert of one element, whole. -/
theorem insRw_c (h : At 2 30 Rw.arr w g off c l) (hi : i ≤ l.length) (hfew : l.length ≤ 1000000) (hv : w.heap[vb]? = some (.cells (Rw.arr r) tv (0, 0))) (hne : vb ≠ g)
    (h1 : ∀ x ∈ l, ∀ u ∈ (Rw.arr x).toList, u.oneCell' = true) (h1r : ∀ u ∈ (Rw.arr r).toList, u.oneCell' = true) :
    Calls Try.prog 97 #[.slice (some ⟨g, off, none⟩) l.length c, .int .i64 (i : Int), .slice (some ⟨vb, 0, none⟩) 1 1] w (InsPost 2 30 Rw.arr g off c l i r w) := by
  by_cases e : i = l.length
  · subst e; exact insRw_end h hfew hv h1r
  · by_cases hr : l.length + 1 ≤ c
    · exact insRw_shift h (by omega) hr hfew hv hne h1 h1r
    · exact insRw_grow h (by omega) (by omega) hfew hv h1 h1r
end
end Go.Proofs.Ytbpgfmcnpifmdaa
end

section
namespace Go.Proofs.Ytbpgfmcnpifmdaa
open Go.RowKit Go Go.Sort Go.Lib
set_option linter.unusedVariables false
set_option maxRecDepth 20000

/-- What Delete tells. -/
def DelPost {α : Type} (sz : Nat) (ty : TypeId) (arr : α → Array Value) (g off c : Nat) (l : List α) (i : Nat) (w : World) (e : Ending) (w' : World) : Prop :=
  e = .returned (.slice (some ⟨g, off, none⟩) (l.length - 1) c) ∧ At sz ty arr w' g off c (l.take i ++ l.drop (i + 1)) ∧ Within g off (off + c * sz) w w'

section
variable {w : World} {g off c i : Nat} {l : List Rw}
set_option maxHeartbeats 4000000 in
set_option maxRecDepth 100000 in
theorem delRw_c (h : At 2 30 Rw.arr w g off c l) (hi : i < l.length) (hfew : l.length ≤ 1000000) (h1 : ∀ x ∈ l, ∀ u ∈ (Rw.arr x).toList, u.oneCell' = true) :
    Calls Try.prog 64 #[.slice (some ⟨g, off, none⟩) l.length c, .int .i64 (i : Int), .int .i64 ((i + 1 : Nat) : Int)] w (DelPost 2 30 Rw.arr g off c l i w) := by
  have mixed : Try.prog.follows .mixedOrders = true := by kernel_rfl
  have hmax := h.max
  have hle := h.le
  obtain ⟨i0, hi0, hz0, hz1, hz2⟩ := info_parts Try.infoRw
  have hll := lCells_length (arr := Rw.arr) (sz := 2) (fun _ => rfl) l
  obtain ⟨cs, hcs⟩ : ∃ z, lCells Rw.arr l = z := ⟨_, rfl⟩
  have hone := lCells_one_of h1
  obtain ⟨n, hn⟩ : ∃ z, l.length = z := ⟨_, rfl⟩
  have hcell := h.cell
  have hfz := h.fz
  have hsp := fun j (hj : j < c * 2) => h.spare hj
  rw [hcs] at hll hcell hone
  rw [hn] at hll hi hfew hle ⊢
  obtain ⟨p, hp⟩ : ∃ z, i + 1 = z := ⟨_, rfl⟩
  rw [hp]
  obtain ⟨m1, hm⟩ : ∃ z, n - 1 = z := ⟨_, rfl⟩
  have hm1 : i + (n - p) = m1 := by omega
  have hcn : n * 2 ≤ c * 2 := Nat.mul_le_mul_right _ hle
  obtain ⟨news, hnews⟩ : ∃ news, news = cs.drop (p * 2) := ⟨_, rfl⟩
  have hlen : news.length = (n - p) * 2 := by rw [hnews, List.length_drop, hll]; omega
  obtain ⟨A, hA, hsrc⟩ : ∃ A : Addr, (if c = p then (some (⟨g, off, none⟩ : Addr)) else some ⟨g, off + p * 2, none⟩) = some A ∧ Hid (∀ t u, news[t]? = some u → w.drew.cell? (A.add t) = some u) := by
    by_cases h : c = p
    · refine ⟨⟨g, off, none⟩, by simp [h], fun t u hu => ?_⟩
      have h0 : news.length = 0 := by rw [hlen]; omega
      rw [List.length_eq_zero_iff.1 h0] at hu
      simp at hu
    · refine ⟨⟨g, off + p * 2, none⟩, by simp [h], fun t u hu => ?_⟩
      rw [Addr.add_lit, Nat.add_assoc]
      rw [hnews, List.getElem?_drop] at hu
      exact hcell _ u hu
  have s1 : Hid (news.length = (n - p) * 2) := hlen
  have s2 : Hid (∀ u ∈ news, u.oneCell' = true) := fun u hu => by rw [hnews] at hu; exact hone u (List.mem_of_mem_drop hu)
  have s3 : Hid (∀ t, t < news.length → (w.drew.cell? ⟨g, off + i * 2 + t, none⟩).isSome = true ∧ w.drew.frozen? ⟨g, off + i * 2 + t, none⟩ = false) := by
    intro t ht
    rw [hlen] at ht
    rw [Nat.add_assoc]
    exact ⟨hsp _ (by omega), hfz _⟩
  obtain ⟨W1, hW1⟩ : ∃ W1, W1 = w.drew.setCells g (off + i * 2) news := ⟨_, rfl⟩
  have hcl : ∀ ty, (Builtin.clear_ #[107] ty #[.slice (some ⟨g, off + m1 * 2, none⟩) (n - m1) (c - m1)]).run Try.prog W1 = .ok (.tuple #[]) (W1.setCells g (off + m1 * 2) [Value.string ⟨#[]⟩, Value.slice none 0 0]) := fun ty => by
    rw [show n - m1 = 1 by omega]
    refine run_clear_sz W1 _ 30 ty (.agg #[.string ⟨#[]⟩, .slice none 0 0]) [Value.string ⟨#[]⟩, Value.slice none 0 0] Try.underlying107 (fun w => by simp [zeroValue, typeInfo, hi0, hz0]) rfl (by intro u hu; simp only [List.mem_cons, List.not_mem_nil, or_false] at hu; rcases hu with rfl | rfl <;> rfl) g _ _ (fun j hj => ?_) (fun j hj => ?_)
    · have hj2 : j < 2 := hj
      rw [Nat.add_assoc, hW1]
      exact isSome_setCells g _ _ _ (fun j hj => by rw [hlen] at hj; rw [Nat.add_assoc]; exact hsp _ (by omega)) _ (hsp _ (by omega))
    · rw [hW1, World.frozen?_setCells]; exact hfz _
  have hpo : ∀ W2 : World, W2.heap = (W1.setCells g (off + m1 * 2) [Value.string ⟨#[]⟩, Value.slice none 0 0]).heap → At 2 30 Rw.arr W2 g off c (l.take i ++ l.drop (i + 1)) := fun W2 h2 =>
    h.out (W1 := W1) (fun _ => rfl) (by omega) rfl (by rw [hW1, hnews, hcs, hp]; exact setCells_heap (by rfl) _ _) (by rw [h2, hn, hm])
  have hwt : Within g off (off + c * 2) w (W1.setCells g (off + m1 * 2) [Value.string ⟨#[]⟩, Value.slice none 0 0]) := by
    refine Within.trans (w' := W1) ?_ (Within.set g _ _ _ _ _ (by omega) (by show off + m1 * 2 + 2 ≤ _; omega))
    rw [hW1]
    exact Within.trans (w' := w.drew) ⟨rfl, rfl, rfl, Nat.le_refl _, fun _ _ _ => rfl, fun cur _ h => ⟨cur, h, rfl, fun _ _ => rfl⟩⟩ (Within.set g _ _ _ _ _ (by omega) (by rw [hlen]; omega))
  have HPO := Lib.hid hpo
  have HWT := Lib.hid hwt
  have HN := Lib.hid hn
  have HM := Lib.hid hm
  have hW : Hid (W1 = w.drew.setCells g (off + i * 2) news) := hW1
  have hic : i ≤ c := by omega
  have hjc : p ≤ c := by omega
  have hip : i ≤ p := by omega
  have hpn : p ≤ n := by omega
  have hmn : m1 ≤ n := by omega
  have hcm : ¬ (c = m1) := by omega
  have hine : ¬ ((i : Int) = (p : Int)) := by omega
  clear h hpo hwt hW1 hll hcs hcell hsp hfz hone h1 hn hp hm hlen hnews hcn
  go_enter Try.func64, Try.ntmps64
  go_wp2_with fail
  go_region_law_o (refine step_append_room rfl (.tmp 22) (.tmp 25) 107 rfl 30 i0 2 Try.underlying107 hi0 hz1 g off i c (by simp [Act.eval, Act.put]) A (n - p) (c - p) news (by simp [Act.eval, Act.put]) s1.out hsrc.out s2.out (by omega) s3.out ?_; rw [hm1, ← hW.out])
  go_wp2
  go_ret
  exact ⟨by rw [HN.out, HM.out]; rfl, HPO.out _ rfl, (by first | exact HWT.out | (rw [Nat.mul_one]; exact HWT.out))⟩
end
end Go.Proofs.Ytbpgfmcnpifmdaa
end

section
namespace Go.Proofs.Ytbpgfmcnpifmdaa
open Go.RowKit Go Go.Sort Go.Lib
set_option linter.unusedVariables false
set_option maxRecDepth 20000

section
variable {w : World} {g off c i : Nat} {l : List Blk}
set_option maxHeartbeats 4000000 in
set_option maxRecDepth 100000 in
theorem delBk_c (h : At 1 107 Blk.arr w g off c l) (hi : i < l.length) (hfew : l.length ≤ 1000000) (h1 : ∀ x ∈ l, ∀ u ∈ (Blk.arr x).toList, u.oneCell' = true) :
    Calls Try.prog 65 #[.slice (some ⟨g, off, none⟩) l.length c, .int .i64 (i : Int), .int .i64 ((i + 1 : Nat) : Int)] w (DelPost 1 107 Blk.arr g off c l i w) := by
  have mixed : Try.prog.follows .mixedOrders = true := by kernel_rfl
  have hmax := h.max
  have hle := h.le
  obtain ⟨i0, hi0, hz0, hz1, hz2⟩ := info_parts Try.infoBk
  have hll := lCells_length (arr := Blk.arr) (sz := 1) (fun _ => rfl) l
  obtain ⟨cs, hcs⟩ : ∃ z, lCells Blk.arr l = z := ⟨_, rfl⟩
  have hone := lCells_one_of h1
  obtain ⟨n, hn⟩ : ∃ z, l.length = z := ⟨_, rfl⟩
  have hcell := h.cell
  have hfz := h.fz
  have hsp := fun j (hj : j < c * 1) => h.spare hj
  rw [hcs] at hll hcell hone
  rw [hn] at hll hi hfew hle ⊢
  obtain ⟨p, hp⟩ : ∃ z, i + 1 = z := ⟨_, rfl⟩
  rw [hp]
  obtain ⟨m1, hm⟩ : ∃ z, n - 1 = z := ⟨_, rfl⟩
  have hm1 : i + (n - p) = m1 := by omega
  have hcn : n * 1 ≤ c * 1 := Nat.mul_le_mul_right _ hle
  obtain ⟨news, hnews⟩ : ∃ news, news = cs.drop (p * 1) := ⟨_, rfl⟩
  have hlen : news.length = (n - p) * 1 := by rw [hnews, List.length_drop, hll]; omega
  obtain ⟨A, hA, hsrc⟩ : ∃ A : Addr, (if c = p then (some (⟨g, off, none⟩ : Addr)) else some ⟨g, off + p * 1, none⟩) = some A ∧ Hid (∀ t u, news[t]? = some u → w.drew.cell? (A.add t) = some u) := by
    by_cases h : c = p
    · refine ⟨⟨g, off, none⟩, by simp [h], fun t u hu => ?_⟩
      have h0 : news.length = 0 := by rw [hlen]; omega
      rw [List.length_eq_zero_iff.1 h0] at hu
      simp at hu
    · refine ⟨⟨g, off + p * 1, none⟩, by simp [h], fun t u hu => ?_⟩
      rw [Addr.add_lit, Nat.add_assoc]
      rw [hnews, List.getElem?_drop] at hu
      exact hcell _ u hu
  have s1 : Hid (news.length = (n - p) * 1) := hlen
  have s2 : Hid (∀ u ∈ news, u.oneCell' = true) := fun u hu => by rw [hnews] at hu; exact hone u (List.mem_of_mem_drop hu)
  have s3 : Hid (∀ t, t < news.length → (w.drew.cell? ⟨g, off + i * 1 + t, none⟩).isSome = true ∧ w.drew.frozen? ⟨g, off + i * 1 + t, none⟩ = false) := by
    intro t ht
    rw [hlen] at ht
    rw [Nat.add_assoc]
    exact ⟨hsp _ (by omega), hfz _⟩
  obtain ⟨W1, hW1⟩ : ∃ W1, W1 = w.drew.setCells g (off + i * 1) news := ⟨_, rfl⟩
  have hcl : ∀ ty, (Builtin.clear_ #[55] ty #[.slice (some ⟨g, off + m1 * 1, none⟩) (n - m1) (c - m1)]).run Try.prog W1 = .ok (.tuple #[]) (W1.setCells g (off + m1 * 1) [Value.slice none 0 0]) := fun ty => by
    rw [show n - m1 = 1 by omega]
    refine run_clear_sz W1 _ 107 ty (.slice none 0 0) [Value.slice none 0 0] Try.underlying55 (fun w => by simp [zeroValue, typeInfo, hi0, hz0]) rfl (by intro u hu; simp only [List.mem_cons, List.not_mem_nil, or_false] at hu; subst hu; rfl) g _ _ (fun j hj => ?_) (fun j hj => ?_)
    · have hj2 : j < 1 := hj
      rw [Nat.add_assoc, hW1]
      exact isSome_setCells g _ _ _ (fun j hj => by rw [hlen] at hj; rw [Nat.add_assoc]; exact hsp _ (by omega)) _ (hsp _ (by omega))
    · rw [hW1, World.frozen?_setCells]; exact hfz _
  have hpo : ∀ W2 : World, W2.heap = (W1.setCells g (off + m1 * 1) [Value.slice none 0 0]).heap → At 1 107 Blk.arr W2 g off c (l.take i ++ l.drop (i + 1)) := fun W2 h2 =>
    h.out (W1 := W1) (fun _ => rfl) (by omega) rfl (by rw [hW1, hnews, hcs, hp]; exact setCells_heap (by rfl) _ _) (by rw [h2, hn, hm])
  have hwt : Within g off (off + c * 1) w (W1.setCells g (off + m1 * 1) [Value.slice none 0 0]) := by
    refine Within.trans (w' := W1) ?_ (Within.set g _ _ _ _ _ (by omega) (by show off + m1 * 1 + 1 ≤ _; omega))
    rw [hW1]
    exact Within.trans (w' := w.drew) ⟨rfl, rfl, rfl, Nat.le_refl _, fun _ _ _ => rfl, fun cur _ h => ⟨cur, h, rfl, fun _ _ => rfl⟩⟩ (Within.set g _ _ _ _ _ (by omega) (by rw [hlen]; omega))
  have HPO := Lib.hid hpo
  have HWT := Lib.hid hwt
  have HN := Lib.hid hn
  have HM := Lib.hid hm
  have hW : Hid (W1 = w.drew.setCells g (off + i * 1) news) := hW1
  have hic : i ≤ c := by omega
  have hjc : p ≤ c := by omega
  have hip : i ≤ p := by omega
  have hpn : p ≤ n := by omega
  have hmn : m1 ≤ n := by omega
  have hcm : ¬ (c = m1) := by omega
  have hine : ¬ ((i : Int) = (p : Int)) := by omega
  clear h hpo hwt hW1 hll hcs hcell hsp hfz hone h1 hn hp hm hlen hnews hcn
  simp only [Nat.mul_one] at hA hcl HPO HWT
  go_enter Try.func65, Try.ntmps65
  go_wp2_with fail
  go_region_law_o (refine step_append_room rfl (.tmp 22) (.tmp 25) 55 rfl 107 i0 1 Try.underlying55 hi0 hz1 g off i c (by simp [Act.eval, Act.put]) A (n - p) (c - p) news (by simp [Act.eval, Act.put]) s1.out hsrc.out s2.out (by omega) s3.out ?_; rw [hm1, ← hW.out])
  go_wp2
  go_ret
  exact ⟨by rw [HN.out, HM.out]; rfl, HPO.out _ rfl, (by first | exact HWT.out | (rw [Nat.mul_one]; exact HWT.out))⟩
end
end Go.Proofs.Ytbpgfmcnpifmdaa
end

section
namespace Go.Proofs.Ytbpgfmcnpifmdaa
open Go.RowKit Go Go.Sort
set_option linter.unusedVariables false
set_option maxRecDepth 20000

/-- Worlds that differ in some blocks alone, and in new ones. -/
structure Turn (F : Nat → Prop) (w w' : World) : Prop where
  os : w'.os = w.os
  tape : w'.tape = w.tape
  output : w'.output = w.output
  size : w.heap.size ≤ w'.heap.size
  block : ∀ k, k < w.heap.size → ¬ F k → w'.heap[k]? = w.heap[k]?
theorem Turn.refl (F : Nat → Prop) (w : World) : Turn F w w := ⟨rfl, rfl, rfl, Nat.le_refl _, fun _ _ _ => rfl⟩
theorem Turn.of_below {F : Nat → Prop} {w w' : World} (h : Below w.heap.size w w') : Turn F w w' := ⟨h.os, h.tape, h.output, h.size, fun k hk _ => h.block k hk⟩
theorem Turn.trans {F : Nat → Prop} {w w' w'' : World} (h : Turn F w w') (h' : Turn F w' w'') : Turn F w w'' :=
  ⟨h'.os.trans h.os, h'.tape.trans h.tape, h'.output.trans h.output, Nat.le_trans h.size h'.size, fun k hk hn => (h'.block k (Nat.lt_of_lt_of_le hk h.size) hn).trans (h.block k hk hn)⟩
theorem Turn.mono {F F' : Nat → Prop} {w w' : World} (h : Turn F w w') (hF : ∀ k, F k → k < w.heap.size → F' k) : Turn F' w w' :=
  ⟨h.os, h.tape, h.output, h.size, fun k hk hn => h.block k hk (fun hf => hn (hF k hf hk))⟩
theorem Turn.of_within {g lo hi : Nat} {w w' : World} (h : Within g lo hi w w') : Turn (fun k => k = g) w w' := ⟨h.os, h.tape, h.output, h.size, fun k hk hn => h.rest k hk hn⟩
theorem Turn.cell (w : World) (a : Addr) (v : Value) : Turn (fun k => k = a.block) w (w.setCell a v) := by
  have hb := (Below.refl 0 w).setCell (p := a) (Nat.zero_le _) v
  exact ⟨hb.os, hb.tape, hb.output, by rw [World.size_setCell]; exact Nat.le_refl _, fun k _ hn => Below.heap_setCell w a v k hn⟩
theorem Turn.below {F : Nat → Prop} {w w' : World} {B : Nat} (h : Turn F w w') (hB : B ≤ w.heap.size) (hF : ∀ k, F k → B ≤ k) : Below B w w' :=
  ⟨h.os, h.tape, h.output, h.size, fun k hk => h.block k (by omega) (fun hf => by have := hF k hf; omega)⟩
section
variable {α : Type} {sz : Nat} {arr : α → Array Value} {ty : TypeId}
theorem At.take {W : World} {g off cap k : Nat} {l : List α} (hs : ∀ c, (arr c).size = sz) (h : At sz ty arr W g off cap l) (hk : k ≤ l.length) : At sz ty arr W g off k (l.take k) := by
  obtain ⟨cur, hg, hsz, hc⟩ := h.blk
  have hle := h.le
  have hkc := Nat.mul_le_mul_right sz (Nat.le_trans hk hle)
  have hm := h.max
  refine ⟨by rw [List.length_take]; omega, by omega, cur, hg, by omega, fun j v hj => ?_⟩
  rw [lCells_take hs l k hk, List.getElem?_take] at hj
  split at hj
  · exact hc j v hj
  · cases hj
theorem At.drop {W : World} {g off cap k : Nat} {l : List α} (hs : ∀ c, (arr c).size = sz) (h : At sz ty arr W g off cap l) (hk : k ≤ l.length) : At sz ty arr W g (off + k * sz) (l.length - k) (l.drop k) := by
  obtain ⟨cur, hg, hsz, hc⟩ := h.blk
  have hle := h.le
  have hm := h.max
  have hlc := Nat.mul_le_mul_right sz hle
  have e : k * sz + (l.length - k) * sz = l.length * sz := by rw [← Nat.add_mul]; congr 1; omega
  refine ⟨by rw [List.length_drop]; omega, by omega, cur, hg, by omega, fun j v hj => ?_⟩
  rw [lCells_drop hs l k hk, List.getElem?_drop] at hj
  rw [Nat.add_assoc]
  exact hc _ v hj
/-- One element stored. -/
theorem At.set1 {W W' : World} {g off cap : Nat} {A C : List α} {b b' : α} (hs : ∀ c, (arr c).size = 1) (h : At 1 ty arr W g off cap (A ++ b :: C)) {v : Value} (hv : arr b' = #[v]) (he : W'.heap[g]? = (W.setCell ⟨g, off + A.length, none⟩ v).heap[g]?) : At 1 ty arr W' g off cap (A ++ b' :: C) := by
  obtain ⟨cur, hg, hsz, hc⟩ := h.blk
  have hle := h.le
  refine ⟨by simpa using hle, h.max, _, he.trans (heap_setCell_same W g _ _ _ v hg), by simpa using hsz, fun j u hj => ?_⟩
  have hA := lCells_length (arr := arr) hs A
  rw [Nat.mul_one] at hA
  have ec : ∀ x : α, lCells arr (A ++ x :: C) = lCells arr A ++ ((arr x).toList ++ lCells arr C) := fun x => by simp [lCells]
  have h1 : ∀ x : α, (arr x).toList.length = 1 := fun x => by rw [Array.length_toList, hs]
  rw [ec] at hj
  by_cases e : j = A.length
  · subst e
    rw [List.getElem?_append_right (by omega), hA, Nat.sub_self, hv] at hj
    have hj : some v = some u := hj
    injection hj with hj
    subst hj
    rw [Array.getElem?_setIfInBounds, if_pos rfl, if_pos]
    have : (A ++ b :: C).length ≤ cap := hle
    simp at this
    omega
  · rw [Array.getElem?_setIfInBounds, if_neg (by omega)]
    refine hc j u ?_
    rw [ec]
    by_cases e2 : j < A.length
    · rw [List.getElem?_append_left (by omega)] at hj ⊢
      exact hj
    · rw [List.getElem?_append_right (by omega), hA, List.getElem?_append_right (by rw [h1]; omega), h1] at hj ⊢
      exact hj
end
section
variable {W W2 W3 W4 : World} {vb : Value} {A C : List Blk} {b b' : Blk}
theorem ownBlock_lit (g off n c k : Nat) : (Value.slice (some ⟨g, off, none⟩) n c).ownBlock = some k ↔ k = g := ⟨fun h => by injection h with h; exact h.symm, fun h => by subst h; rfl⟩
theorem MapB.vb_some (h : MapB W vb (A ++ b :: C)) : ∃ gl cb, vb = .slice (some ⟨gl, 0, none⟩) (A ++ b :: C).length cb ∧ At 1 107 Blk.arr W gl 0 cb (A ++ b :: C) := by
  rcases h.list with ⟨-, h1⟩ | h1
  · simp at h1
  · exact h1
theorem mem_mid : b ∈ A ++ b :: C := List.mem_append_right _ (List.mem_cons_self ..)
theorem mem_other {x : Blk} (hx : x ∈ A ++ C) : x ∈ A ++ b :: C := by
  rcases List.mem_append.1 hx with h | h
  · exact List.mem_append_left _ h
  · exact List.mem_append_right _ (List.mem_cons_of_mem _ h)
theorem apart_mid (h : (A ++ b :: C).Pairwise Blk.Apart) : (A ++ C).Pairwise Blk.Apart ∧ ∀ x ∈ A ++ C, b.Apart x := by
  rw [List.pairwise_append, List.pairwise_cons] at h
  refine ⟨List.pairwise_append.2 ⟨h.1, h.2.1.2, fun x hx y hy => h.2.2 x hx y (List.mem_cons_of_mem _ hy)⟩, fun x hx => ?_⟩
  rcases List.mem_append.1 hx with hx | hx
  · exact (h.2.2 x hx b (List.mem_cons_self ..)).symm
  · exact h.2.1.1 x hx
theorem apart_put (h : (A ++ C).Pairwise Blk.Apart) (hb : ∀ x ∈ A ++ C, b'.Apart x) : (A ++ b' :: C).Pairwise Blk.Apart := by
  rw [List.pairwise_append] at h
  exact List.pairwise_append.2 ⟨h.1, List.pairwise_cons.2 ⟨fun x hx => hb x (List.mem_append_right _ hx), h.2.1⟩, fun x hx y hy => by
    rcases List.mem_cons.1 hy with rfl | hy
    · exact (hb x (List.mem_append_left _ hx)).symm
    · exact h.2.2 x hx y hy⟩
/-- A block whose rows were turned, in place or in new memory, and is stored in its place. -/
theorem MapB.put (h : MapB W vb (A ++ b :: C)) (hw : Within b.g b.off (b.off + b.cap * 2) W W2) (hat : At 2 30 Rw.arr W2 b'.g b'.off b'.cap b'.rows) (hp : 0 < b'.rows.length) (hwh : (b'.g = b.g ∧ b'.off = b.off ∧ b'.cap = b.cap) ∨ W.heap.size ≤ b'.g)
    (hrow : ∀ r ∈ b'.rows, OwnC W 0 r.u r.cs ∧ r.cs.length ≤ 1000000) {gl cb : Nat} (hvb : vb = .slice (some ⟨gl, 0, none⟩) (A ++ b :: C).length cb) (h3 : W3.heap = (W2.setCell ⟨gl, A.length, none⟩ b'.val).heap) : MapB W3 vb (A ++ b' :: C) := by
  have hgl : gl < W.heap.size := h.ltv (by rw [hvb]; rfl)
  have hne : ∀ x ∈ A ++ b :: C, x.g ≠ gl := fun x hx e => h.kinds hx (by rw [hvb, e]; rfl)
  have hbg := hne b mem_mid
  have hbl : b.g < W.heap.size := (h.blk b mem_mid).2.lt
  have hne' : b'.g ≠ gl := by
    rcases hwh with ⟨e, -⟩ | e
    · rw [e]; exact hbg
    · omega
  obtain ⟨hap, hbx⟩ := apart_mid h.apart
  have hoth : ∀ k, k ≠ gl → W3.heap[k]? = W2.heap[k]? := fun k hk => by rw [h3]; exact Below.heap_setCell W2 ⟨gl, A.length, none⟩ _ k hk
  refine ⟨.inr ?_, fun x hx => ?_, apart_put hap fun x hx => ?_, fun x hx r hr => ?_⟩
  · obtain ⟨gl', cb', e, hl⟩ := h.vb_some
    rw [hvb] at e
    injection e with e1 e2 e3
    injection e1 with e1
    injection e1 with e1
    subst e1 e3
    refine ⟨gl, cb, by rw [hvb]; simp, ?_⟩
    have hl2 := hl.of_block (hw.rest gl hgl (fun e => hbg e.symm))
    exact hl2.set1 (fun _ => rfl) rfl (by rw [h3, Nat.zero_add])
  · rcases List.mem_append.1 hx with hx' | hx'
    · exact ⟨(h.blk x (List.mem_append_left _ hx')).1, ((h.blk x (List.mem_append_left _ hx')).2.within rw_size hw (by rcases hbx x (List.mem_append_left _ hx') with e | e | e; exact .inl (fun e' => e e'.symm); exact .inr (.inr e); exact .inr (.inl e))).of_block (hoth _ (hne x (List.mem_append_left _ hx')))⟩
    · rcases List.mem_cons.1 hx' with rfl | hx'
      · exact ⟨hp, hat.of_block (hoth _ hne')⟩
      · have hm : x ∈ A ++ b :: C := List.mem_append_right _ (List.mem_cons_of_mem _ hx')
        exact ⟨(h.blk x hm).1, ((h.blk x hm).2.within rw_size hw (by rcases hbx x (List.mem_append_right _ hx') with e | e | e; exact .inl (fun e' => e e'.symm); exact .inr (.inr e); exact .inr (.inl e))).of_block (hoth _ (hne x hm))⟩
  · rcases hwh with ⟨e1, e2, e3⟩ | e
    · have := hbx x hx
      unfold Blk.Apart at this ⊢
      rw [e1, e2, e3]
      exact this
    · have := (h.blk x (mem_other hx)).2.lt
      exact .inl (by omega)
  · have ho : OwnC W 0 r.u r.cs ∧ r.cs.length ≤ 1000000 := by
      rcases List.mem_append.1 hx with hx' | hx'
      · exact h.row x (List.mem_append_left _ hx') r hr
      · rcases List.mem_cons.1 hx' with rfl | hx'
        · exact hrow r hr
        · exact h.row x (List.mem_append_right _ (List.mem_cons_of_mem _ hx')) r hr
    refine ⟨ho.1.of_block fun k hk => ?_, ho.2⟩
    have hkl := (ho.1.lt k hk).2
    have hk1 : k ≠ gl := fun e => by
      obtain ⟨cur, hg⟩ := h.vty (k := gl) (by rw [hvb]; rfl)
      exact own_not ho.1 hk (by rw [e]; exact hg) (by decide)
    have hk2 : k ≠ b.g := fun e => by
      obtain ⟨cur, hg⟩ := h.bty (b := b) mem_mid
      exact own_not ho.1 hk (by rw [e]; exact hg) (by decide)
    exact (hoth k hk1).trans (hw.rest k hkl hk2)
/-- A block cut in two: the left half is stored in its place, the right half put in behind it. -/
theorem MapB.split {l r : Blk} (h : MapB W vb (A ++ b :: C)) {k : Nat} (hk0 : 0 < k) (hk : k < b.rows.length) (hl : l = ⟨b.g, b.off, k, b.rows.take k⟩) (hr : r = ⟨b.g, b.off + k * 2, b.rows.length - k, b.rows.drop k⟩)
    {gl cb : Nat} (hvb : vb = .slice (some ⟨gl, 0, none⟩) (A ++ b :: C).length cb) (h3 : W3.heap = (W.setCell ⟨gl, A.length, none⟩ l.val).heap)
    {g' c' : Nat} (hat : At 1 107 Blk.arr W4 g' 0 c' (A ++ l :: r :: C)) (hw : Within gl 0 (cb * 1) W3 W4) : MapB W4 (.slice (some ⟨g', 0, none⟩) (A ++ l :: r :: C).length c') (A ++ l :: r :: C) := by
  have hne : ∀ x ∈ A ++ b :: C, x.g ≠ gl := fun x hx e => h.kinds hx (by rw [hvb, e]; rfl)
  have hgl : gl < W.heap.size := h.ltv (by rw [hvb]; rfl)
  have hsz : W3.heap.size = W.heap.size := by rw [h3]; exact World.size_setCell _ _ _
  have hoth : ∀ k, k < W.heap.size → k ≠ gl → W4.heap[k]? = W.heap[k]? := fun k hk hn => (hw.rest k (by omega) hn).trans (by rw [h3]; exact Below.heap_setCell W ⟨gl, A.length, none⟩ _ k hn)
  have hbb := (h.blk b mem_mid).2
  have hb4 := hbb.of_block (hoth _ hbb.lt (hne b mem_mid))
  have hbc := hbb.le
  obtain ⟨hap, hbx⟩ := apart_mid h.apart
  have hkc : b.rows.length * 2 ≤ b.cap * 2 := Nat.mul_le_mul_right 2 hbc
  have hlx : ∀ x ∈ A ++ C, l.Apart x := fun x hx => by
    subst hl
    rcases hbx x hx with e | e | e
    · exact .inl e
    · exact .inr (.inl (by show b.off + k * 2 ≤ x.off; omega))
    · exact .inr (.inr e)
  have hrx : ∀ x ∈ A ++ C, r.Apart x := fun x hx => by
    subst hr
    rcases hbx x hx with e | e | e
    · exact .inl e
    · exact .inr (.inl (by show b.off + k * 2 + (b.rows.length - k) * 2 ≤ x.off; omega))
    · exact .inr (.inr (by show x.off + x.cap * 2 ≤ b.off + k * 2; omega))
  have hlr : l.Apart r := by subst hl hr; exact .inr (.inl (Nat.le_refl _))
  have hrows : ∀ x ∈ A ++ l :: r :: C, ∀ y ∈ x.rows, ∃ z ∈ A ++ b :: C, y ∈ z.rows := fun x hx y hy => by
    rcases List.mem_append.1 hx with hx | hx
    · exact ⟨x, List.mem_append_left _ hx, hy⟩
    · rcases List.mem_cons.1 hx with rfl | hx
      · subst hl; exact ⟨b, mem_mid, List.mem_of_mem_take hy⟩
      · rcases List.mem_cons.1 hx with rfl | hx
        · subst hr; exact ⟨b, mem_mid, List.mem_of_mem_drop hy⟩
        · exact ⟨x, List.mem_append_right _ (List.mem_cons_of_mem _ hx), hy⟩
  refine ⟨.inr ⟨g', c', rfl, hat⟩, fun x hx => ?_, ?_, fun x hx y hy => ?_⟩
  · rcases List.mem_append.1 hx with hx | hx
    · have hm : x ∈ A ++ b :: C := List.mem_append_left _ hx
      exact ⟨(h.blk x hm).1, (h.blk x hm).2.of_block (hoth _ (h.blk x hm).2.lt (hne x hm))⟩
    · rcases List.mem_cons.1 hx with rfl | hx
      · subst hl; exact ⟨by show 0 < (b.rows.take k).length; rw [List.length_take]; omega, hb4.take rw_size (Nat.le_of_lt hk)⟩
      · rcases List.mem_cons.1 hx with rfl | hx
        · subst hr; exact ⟨by show 0 < (b.rows.drop k).length; rw [List.length_drop]; omega, hb4.drop rw_size (Nat.le_of_lt hk)⟩
        · have hm : x ∈ A ++ b :: C := List.mem_append_right _ (List.mem_cons_of_mem _ hx)
          exact ⟨(h.blk x hm).1, (h.blk x hm).2.of_block (hoth _ (h.blk x hm).2.lt (hne x hm))⟩
  · refine apart_put (apart_put hap hrx) fun x hx => ?_
    rcases List.mem_append.1 hx with hx | hx
    · exact hlx x (List.mem_append_left _ hx)
    · rcases List.mem_cons.1 hx with rfl | hx
      · exact hlr
      · exact hlx x (List.mem_append_right _ hx)
  · obtain ⟨z, hz, hyz⟩ := hrows x hx y hy
    have ho := h.row z hz y hyz
    refine ⟨ho.1.of_block fun k hk => ?_, ho.2⟩
    have hkl := (ho.1.lt k hk).2
    exact hoth k hkl fun e => by
      obtain ⟨cur, hg⟩ := h.vty (k := gl) (by rw [hvb]; rfl)
      exact own_not ho.1 hk (by rw [e]; exact hg) (by decide)
end
end Go.Proofs.Ytbpgfmcnpifmdaa
end

section
namespace Go.Proofs.Ytbpgfmcnpifmdaa
open Go.RowKit Go Go.Sort Go.Lib
set_option linter.unusedVariables false
set_option maxRecDepth 20000

set_option maxRecDepth 100000 in
theorem halves_c (w : World) (g off c : Nat) (hc : 64 ≤ c) (hc2 : c ≤ 9223372036854775807) :
    Calls Try.prog 98 #[.slice (some ⟨g, off, none⟩) 64 c] w (fun e w' => e = .returned (.tuple #[.slice (some ⟨g, off, none⟩) 32 32, .slice (some ⟨g, off + 64, none⟩) 32 32]) ∧ Below w.heap.size w w') := by
  have h1 : (32 : Int) ≤ (c : Int) := by omega
  have h2 : (64 : Int) ≤ (c : Int) := by omega
  have h3 : (32 : Nat) ≤ c := by omega
  have h4 : ¬ (c = 32) := by omega
  go_enter Try.func98, Try.ntmps98
  go_upto_region 2 with (fail)
  go_quiet (fail)
  go_wp2
  go_ret2
  exact ⟨rfl, below_drewN (Below.refl _ _) _⟩
theorem rw_one {W : World} {B : Nat} {r : Rw} (h : OwnC W B r.u r.cs) : ∀ u ∈ (Rw.arr r).toList, u.oneCell' = true := by
  intro u hu
  obtain ⟨a, c, e, -⟩ := h.cls
  have hu : u ∈ [Value.string (text r.k), r.u] := hu
  simp only [List.mem_cons, List.not_mem_nil, or_false] at hu
  rcases hu with rfl | rfl
  · rfl
  · rw [e]; rfl
theorem bk_one (b : Blk) : ∀ u ∈ (Blk.arr b).toList, u.oneCell' = true := by
  intro u hu
  have hu : u ∈ [b.val] := hu
  rw [List.mem_singleton] at hu
  subst hu
  rfl
theorem MapB.below {W W' : World} {vb : Value} {BS : List Blk} (h : MapB W vb BS) (hb : Below W.heap.size W W') : MapB W' vb BS :=
  h.keep (fun k hk => hb.block k (h.ltv hk)) (fun b hm => hb.block _ (h.blk b hm).2.lt) (fun k hk => hb.block k (h.ltc hk))
/-- A map's blocks while its head turns. -/
theorem MapB.cellq {W W' : World} {vb : Value} {BS : List Blk} {q : Nat} {cur : Array Value} {f : Nat × Nat} (h : MapB W vb BS) (hq : W.heap[q]? = some (.cells cur 57 f)) (he : ∀ k, k ≠ q → W'.heap[k]? = W.heap[k]?) : MapB W' vb BS := by
  refine h.keep (fun k hk => he k fun e => ?_) (fun b hm => he _ fun e => ?_) (fun k hk => he k fun e => ?_)
  · obtain ⟨cur', hg⟩ := h.vty hk
    rw [e] at hg
    exact absurd (tne hg hq) (by decide)
  · obtain ⟨cur', hg⟩ := h.bty hm
    rw [e] at hg
    exact absurd (tne hg hq) (by decide)
  · obtain ⟨b, hb, r, hr, hk2⟩ := hk
    exact own_not (h.row b hb r hr).1 hk2 (by rw [e]; exact hq) (by decide)
theorem ins_mid {α : Type} (A C : List α) (l r : α) : (A ++ l :: C).take (A.length + 1) ++ [r] ++ (A ++ l :: C).drop (A.length + 1) = A ++ l :: r :: C := by
  have e : A ++ l :: C = (A ++ [l]) ++ C := by simp
  have el : A.length + 1 = (A ++ [l]).length := by simp
  rw [e, el, List.take_left, List.drop_left]
  simp
theorem out_mid {α : Type} (A C : List α) (l : α) : (A ++ l :: C).take A.length ++ (A ++ l :: C).drop (A.length + 1) = A ++ C := by
  rw [List.take_left]
  have e : A ++ l :: C = (A ++ [l]) ++ C := by simp
  have el : A.length + 1 = (A ++ [l]).length := by simp
  rw [e, el, List.drop_left]
/-- A map's head: what it holds behind a store. -/
theorem head_size {W : World} {q n n' : Nat} {vb : Value} (h : HeadAt W q n vb) : HeadAt (W.setCell ⟨q, 1, none⟩ (.int .i64 (n' : Int))) q n' vb := (heap_setCell_same W q 1 _ _ _ h).trans rfl
theorem head_list {W : World} {q n : Nat} {vb vb' : Value} (h : HeadAt W q n vb) : HeadAt (W.setCell ⟨q, 2, none⟩ vb') q n vb' := (heap_setCell_same W q 2 _ _ _ h).trans rfl
/-- What insert, and Set, and Drop leave. -/
def MPost (q : Nat) (vb : Value) (BS : List Blk) (R : List Rw) (w w' : World) : Prop :=
  ∃ vb' BS', HeadAt w' q R.length vb' ∧ MapB w' vb' BS' ∧ rowsOf BS' = R ∧ Turn (foot q vb BS) w w' ∧ ∀ k, (vb'.ownBlock = some k ∨ ∃ b ∈ BS', b.g = k) → foot q vb BS k ∨ w.heap.size ≤ k
/-- One row alone. -/
theorem MapB.one {W : World} {g c g2 c2 : Nat} {r : Rw} (h1 : W.heap[g]? = some (.cells (Rw.arr r) 30 (0, 0))) (h2 : W.heap[g2]? = some (.cells #[.slice (some ⟨g, 0, none⟩) 1 1] 107 (0, 0))) (ho : OwnC W 0 r.u r.cs) (hz : r.cs.length ≤ 1000000) :
    MapB W (.slice (some ⟨g2, 0, none⟩) 1 1) [⟨g, 0, 1, [r]⟩] := by
  refine ⟨.inr ⟨g2, 1, rfl, Nat.le_refl _, by omega, _, h2, Nat.le_refl _, fun j v hj => ?_⟩, fun b hb => ?_, List.pairwise_singleton _ _, fun b hb x hx => ?_⟩
  · rw [Nat.zero_add]
    have hj : [Value.slice (some ⟨g, 0, none⟩) 1 1][j]? = some v := hj
    simpa using hj
  · rw [List.mem_singleton] at hb
    subst hb
    refine ⟨Nat.zero_lt_one, Nat.le_refl _, by show (1 : Nat) ≤ _; omega, _, h1, Nat.le_refl _, fun j v hj => ?_⟩
    rw [Nat.zero_add]
    have hj : (Rw.arr r).toList[j]? = some v := by simpa [lCells] using hj
    simpa using hj
  · rw [List.mem_singleton] at hb
    subst hb
    have hx : x ∈ [r] := hx
    rw [List.mem_singleton] at hx
    subst hx
    exact ⟨ho, hz⟩
end Go.Proofs.Ytbpgfmcnpifmdaa
end

section
namespace Go.Proofs.Ytbpgfmcnpifmdaa
open Go.RowKit Go Go.Sort Go.Lib
set_option linter.unusedVariables false
set_option maxRecDepth 20000

theorem OwnC.below' {W W' : World} {B : Nat} {v : Value} {l : List Cl} (h : OwnC W B v l) (hb : Below W.heap.size W W') : OwnC W' B v l := h.kept hb

set_option maxRecDepth 100000 in
set_option maxHeartbeats 12800000 in
/-- insert, into a block. -/
theorem minsert_c {w : World} {q gl cb g off c' i al nb m atn : Nat} {it : Int} {A C : List Blk} {l : List Rw} {k : List UInt8} {au : Option Addr} {cu : Nat} {cs : List Cl} (hh : HeadAt w q (rowsOf (A ++ (⟨g, off, c', l⟩ : Blk) :: C)).length (.slice (some ⟨gl, 0, none⟩) nb cb)) (hb : MapB w (.slice (some ⟨gl, 0, none⟩) nb cb) (A ++ (⟨g, off, c', l⟩ : Blk) :: C)) (hnb : nb = (A ++ (⟨g, off, c', l⟩ : Blk) :: C).length) (hal : al = A.length) (hm : l.length = m)
    (hf : (rowsOf (A ++ (⟨g, off, c', l⟩ : Blk) :: C)).length ≤ 1000000) (hu : OwnC w 0 (.slice au cs.length cu) cs) (hcz : cs.length ≤ 1000000) (him : i ≤ m) (hcase : (al = atn ∧ it = (i : Int)) ∨ (C = [] ∧ nb = atn ∧ i = m)) :
    Calls Try.prog 63 #[.pointer (some ⟨q, 0, none⟩), .int .i64 (atn : Int), .int .i64 it, .agg #[.string (text k), .slice au cs.length cu]] w (fun e w' => e = .returned (.tuple #[]) ∧ MPost q (.slice (some ⟨gl, 0, none⟩) nb cb) (A ++ (⟨g, off, c', l⟩ : Blk) :: C) (rowsOf A ++ (l.take i ++ [(⟨k, .slice au cs.length cu, cs⟩ : Rw)] ++ l.drop i ++ rowsOf C)) w w') := by
  obtain ⟨n, hn⟩ : ∃ z, (rowsOf (A ++ (⟨g, off, c', l⟩ : Blk) :: C)).length = z := ⟨_, rfl⟩
  rw [hn] at hh hf
  obtain ⟨n1, hn1⟩ : ∃ z, n + 1 = z := ⟨_, rfl⟩
  have hni : (n : Int) + 1 = (n1 : Int) := by omega
  have hnw : IntKind.i64.wrap ((n : Int) + 1) = (n1 : Int) := by rw [IntKind.wrap_i64]; omega
  have hnw2 : IntKind.i64.wrap (n1 : Int) = (n1 : Int) := by rw [IntKind.wrap_i64]; omega
  have hbm : (⟨g, off, c', l⟩ : Blk) ∈ A ++ (⟨g, off, c', l⟩ : Blk) :: C := mem_mid
  have hmn : m ≤ n := by rw [← hm, ← hn]; exact rows_le hbm
  have hnbn : nb ≤ n := by rw [hnb, ← hn]; exact len_rowsOf fun b hb' => (hb.blk b hb').1
  have halb : al < nb := by rw [hnb, hal]; simp
  have hqg : q ≠ g := fun e => by
    obtain ⟨cur, hg⟩ := hb.bty hbm
    have hg : w.heap[g]? = _ := hg
    rw [← e] at hg
    exact absurd (tne hg hh) (by decide)
  have hqgl : q ≠ gl := fun e => by
    obtain ⟨cur, hg⟩ := hb.vty (k := gl) rfl
    rw [← e] at hg
    exact absurd (tne hg hh) (by decide)
  have hglg : gl ≠ g := fun e => hb.kinds hbm (by rw [e]; rfl)
  have hal0 := alloc_below w (.cells #[.string (text k), .slice au cs.length cu] 30)
  have hrw := heap_alloc_new w (.cells #[.string (text k), .slice au cs.length cu] 30)
  have hh1 : HeadAt (w.alloc (.cells #[.string (text k), .slice au cs.length cu] 30)) q n (.slice (some ⟨gl, 0, none⟩) nb cb) := heap_below hh hal0
  have hh2 := head_size (n' := n1) hh1
  have hql : q < w.heap.size := (Array.getElem?_eq_some_iff.1 hh).1
  have hrw2 := (Below.heap_setCell (w.alloc (.cells #[.string (text k), .slice au cs.length cu] 30)) ⟨q, 1, none⟩ (.int .i64 (n1 : Int)) w.heap.size (by show w.heap.size ≠ q; omega)).trans hrw
  have hb2 := (hb.below hal0).cellq hh1 (W' := (w.alloc (.cells #[.string (text k), .slice au cs.length cu] 30)).setCell ⟨q, 1, none⟩ (.int .i64 (n1 : Int))) (fun k' hk' => Below.heap_setCell _ ⟨q, 1, none⟩ _ k' hk')
  have hu2 : OwnC ((w.alloc (.cells #[.string (text k), .slice au cs.length cu] 30)).setCell ⟨q, 1, none⟩ (.int .i64 (n1 : Int))) 0 (.slice au cs.length cu) cs := by
    refine (hu.below' hal0).of_block fun k' hk' => Below.heap_setCell _ ⟨q, 1, none⟩ _ k' fun e => ?_
    exact own_not hu hk' (by have e : k' = q := e; rw [e]; exact hh) (by decide)
  have HTN := Lib.hid (Turn.trans (F := foot q (.slice (some ⟨gl, 0, none⟩) nb cb) (A ++ (⟨g, off, c', l⟩ : Blk) :: C)) (Turn.of_below hal0) ((Turn.cell _ ⟨q, 1, none⟩ (.int .i64 (n1 : Int))).mono (fun k hk _ => .inl hk)))
  have HS2 := Lib.hid (show w.heap.size ≤ ((w.alloc (.cells #[.string (text k), .slice au cs.length cu] 30)).setCell ⟨q, 1, none⟩ (.int .i64 (n1 : Int))).heap.size from by rw [World.size_setCell, World.size_alloc]; omega)
  have HFG := Lib.hid (show foot q (.slice (some ⟨gl, 0, none⟩) nb cb) (A ++ (⟨g, off, c', l⟩ : Blk) :: C) g from .inr (.inr ⟨_, hbm, rfl⟩))
  have HFL := Lib.hid (show foot q (.slice (some ⟨gl, 0, none⟩) nb cb) (A ++ (⟨g, off, c', l⟩ : Blk) :: C) gl from .inr (.inl rfl))
  obtain ⟨m0, m1, m2, mf⟩ := map_cells hh1
  have HHD := Lib.hid hh2
  have HMB := Lib.hid hb2
  have HOC0 := Lib.hid hu2
  have HRW0 := Lib.hid hrw2
  have HNB := Lib.hid hnb
  have HALN := Lib.hid hal.symm
  have HL := Lib.hid hm
  have HNBF := Lib.hid (show nb ≤ 1000000 by omega)
  have hmf : m ≤ 1000000 := by omega
  obtain ⟨al1, hal1⟩ : ∃ z, al + 1 = z := ⟨_, rfl⟩
  have HAL1 := Lib.hid hal1
  have hali : (al : Int) + 1 = (al1 : Int) := by omega
  have halw : IntKind.i64.wrap ((al : Int) + 1) = (al1 : Int) := by rw [IntKind.wrap_i64]; omega
  have halw2 : IntKind.i64.wrap (al1 : Int) = (al1 : Int) := by rw [IntKind.wrap_i64]; omega
  have HLR := Lib.hid (show (rowsOf A ++ (l.take i ++ [(⟨k, .slice au cs.length cu, cs⟩ : Rw)] ++ l.drop i ++ rowsOf C)).length = n1 from by
    rw [← hn1, ← hn, rowsOf_append, rowsOf_cons]; simp; omega)
  have HBS := Lib.hid (rfl : A ++ (⟨g, off, c', l⟩ : Blk) :: C = A ++ (⟨g, off, c', l⟩ : Blk) :: C)
  have HCASE := Lib.hid hcase
  have hnz : ¬ ((nb : Int) = 0) := by omega
  have halnb : (al : Int) < (nb : Int) := by omega
  clear hh hb hnb hal hm hn hn1 hu hcase hmn hnbn hbm hal0 hrw hh1 hh2 hql hrw2 hb2 hu2 hal1
  go_enter Try.func63, Try.ntmps63
  go_upto_region 2 with (fail)
  generalize (w.alloc (.cells #[.string (text k), .slice au cs.length cu] 30)).setCell ⟨q, 1, none⟩ (.int .i64 (n1 : Int)) = W2 at *
  clear m0 m1 m2 mf
  have HM := Lib.hid (fun W (h : Below W2.heap.size W2 W) => map_cells (heap_below HHD.out h))
  have HRW := Lib.hid (fun W (h : Below W2.heap.size W2 W) => row_cells (heap_below HRW0.out h))
  have hat0 := (HMB.out.blk _ mem_mid).2
  have HAT := Lib.hid (show At 2 30 Rw.arr W2 g off c' l from hat0)
  obtain ⟨gl8, cb8, e8, hl8⟩ := HMB.out.vb_some
  injection e8 with e81 e82 e83
  injection e81 with e81
  injection e81 with e81
  subst e81 e83
  have hc0 : W2.cell? ⟨gl, al, none⟩ = some (.slice (some ⟨g, off, none⟩) m c') := by
    have := hl8.ls (z := Blk.zero) blk_size
    obtain ⟨b8, o8, e8, hc8⟩ := this.at (k := al) (by simp; have := HALN.out; omega)
    injection e8 with e8
    injection e8 with e81 e82
    subst e81 e82
    have h8 := hc8 W2 (Below.refl _ _) 0 (.slice (some ⟨g, off, none⟩) m c') (by
      rw [← HALN.out, List.getD_eq_getElem?_getD, List.getElem?_append_right (Nat.le_refl _), Nat.sub_self]
      simp [Blk.arr, Blk.val, HL.out])
    simpa using h8
  have hgll : gl < W2.heap.size := hl8.lt
  have hlcb := hl8.le
  have hmcb := hl8.max
  have hnbcb : nb ≤ cb := by rw [HNB.out]; exact hlcb
  have halcb : (al : Int) < (cb : Int) := by omega
  have HC := Lib.hid (fun W (h : Below W2.heap.size W2 W) => (h.cell (p := ⟨gl, al, none⟩) hgll).trans hc0)
  obtain ⟨m0, m1, m2, mf⟩ := HM.out W2 (Below.refl _ _)
  clear hat0 e82 hl8 hgll hlcb
  rcases HCASE.out with hx | hx
  case' inl =>
    obtain ⟨rfl, rfl⟩ := hx
    have hatne : ¬ ((al : Int) = (nb : Int)) := by omega
    go_upto_region 7 with (fail)
    clear hatne
  case' inr =>
    obtain ⟨hC, rfl, him2⟩ := hx
    have hnm : (nb : Int) - 1 = (al : Int) := by
      have h1 := HNB.out
      rw [hC] at h1
      simp at h1
      have h2 := HALN.out
      omega
    have hnmw : IntKind.i64.wrap ((nb : Int) - 1) = (al : Int) := by rw [IntKind.wrap_i64]; omega
    have hnmw2 : IntKind.i64.wrap (al : Int) = (al : Int) := by rw [IntKind.wrap_i64]; omega
    have him3 : (m : Int) = (i : Int) := by omega
    clear hC him2
    go_upto_region 7 with (fail)
    clear hnm hnmw hnmw2 him3
  all_goals
    clear m0 m1 m2 mf
    refine wp_region_flow_tail 10 [none, none, none, none, none, none, none, none, none, none, none, none, none, none, none, none, none, none, none, none, none, none, none, none, none, none, none, none, none, none, none, none, none, none, none, none, none, none, none, none, none, none, none, none, none, none, none, none, none, some 0, some 1, some 2, some 3, some 4, some 5, some 6, some 7, some 8, some 9, none, none, none, none, none, none, none, none, none, none, none, none, none, none, none, none, none, none, none, none, none, none, none, none, none, none, none, none, none, none, none, none, none, none, none] (fun i => [undef, undef, undef, undef, undef, undef, undef, undef, undef, undef].getD i undef) [(fun v _ => v = .pointer (some ⟨q, 0, none⟩)), (fun v _ => v = .pointer (some ⟨q, 0, none⟩)), (fun v _ => v = .pointer (some ⟨q, 2, none⟩)), (fun v _ => v = .slice (some ⟨gl, 0, none⟩) nb cb), (fun v _ => v = .int .i64 (al : Int)), (fun v _ => v = .pointer (some ⟨gl, al, none⟩)), (fun v _ => v = .slice (some ⟨g, off, none⟩) m c'), (fun v _ => v = .int .i64 (i : Int)), (fun v _ => v = .agg #[.string (text k), .slice au cs.length cu]), (fun v W => ∃ gv, v = .slice (some ⟨gv, 0, none⟩) 1 1 ∧ W2.heap.size ≤ gv ∧ ∃ tv, W.heap[gv]? = some (.cells #[.string (text k), .slice au cs.length cu] tv (0, 0)))] (fun _ => False) (by kernel_rfl) (by kernel_rfl) (by kernel_rfl) rfl rfl rfl ?_ ?_ ?_
    · intro g hg v X Y hX hY hv
      simp only [List.mem_cons, List.not_mem_nil, or_false] at hg
      rcases hg with rfl | rfl | rfl | rfl | rfl | rfl | rfl | rfl | rfl | rfl
      all_goals first
        | exact hv
        | (obtain ⟨gv, e1, e2, tv, e3⟩ := hv; exact ⟨gv, e1, e2, tv, heap_below e3 hY⟩)
    · simp only [flowOpsF, List.take_succ_cons, List.take_zero, and_true]
      refine ⟨?_, ?_, ?_, ?_, ?_, ?_, ?_, ?_, ?_, ?_⟩
      · intro xs W hW hn
        simp only [flowAct, List.zipWith_cons_cons, List.zipWith_nil_left]
        go_wp2_with (fail)
        exact ⟨rfl, _, rfl, Below.refl _ _, rfl, fun h => h.elim⟩
      · intro xs W hW hn
        simp [flowNeeds, Region.binds] at hn
        simp only [flowAct, List.zipWith_cons_cons, List.zipWith_nil_left]
        try simp only [hn]
        go_wp2_with (fail)
        exact ⟨rfl, _, rfl, Below.refl _ _, rfl, fun h => h.elim⟩
      · intro xs W hW hn
        simp [flowNeeds, Region.binds] at hn
        simp only [flowAct, List.zipWith_cons_cons, List.zipWith_nil_left]
        try simp only [hn]
        go_wp2_with (fail)
        exact ⟨rfl, _, rfl, Below.refl _ _, rfl, fun h => h.elim⟩
      · intro xs W hW hn
        obtain ⟨m0, m1, m2, mf⟩ := HM.out W hW
        simp [flowNeeds, Region.binds] at hn
        simp only [flowAct, List.zipWith_cons_cons, List.zipWith_nil_left]
        try simp only [hn]
        go_wp2_with (fail)
        exact ⟨rfl, _, rfl, Below.refl _ _, rfl, fun h => h.elim⟩
      · intro xs W hW hn
        simp only [flowAct, List.zipWith_cons_cons, List.zipWith_nil_left]
        go_wp2_with (fail)
        exact ⟨rfl, _, rfl, Below.refl _ _, rfl, fun h => h.elim⟩
      · intro xs W hW hn
        simp [flowNeeds, Region.binds] at hn
        simp only [flowAct, List.zipWith_cons_cons, List.zipWith_nil_left]
        try simp only [hn]
        go_wp2_with (fail)
        exact ⟨rfl, _, rfl, Below.refl _ _, rfl, fun h => h.elim⟩
      · intro xs W hW hn
        have c0 := HC.out W hW
        simp [flowNeeds, Region.binds] at hn
        simp only [flowAct, List.zipWith_cons_cons, List.zipWith_nil_left]
        try simp only [hn]
        go_wp2_with (fail)
        exact ⟨rfl, _, rfl, Below.refl _ _, rfl, fun h => h.elim⟩
      · intro xs W hW hn
        simp only [flowAct, List.zipWith_cons_cons, List.zipWith_nil_left]
        go_wp2_with (fail)
        exact ⟨rfl, _, rfl, Below.refl _ _, rfl, fun h => h.elim⟩
      · intro xs W hW hn
        obtain ⟨r0, r1, -⟩ := HRW.out W hW
        simp only [flowAct, List.zipWith_cons_cons, List.zipWith_nil_left]
        go_wp2_with (fail)
        exact ⟨rfl, _, rfl, Below.refl _ _, rfl, fun h => h.elim⟩
      · intro xs W hW hn
        simp [flowNeeds, Region.binds] at hn
        simp only [flowAct, List.zipWith_cons_cons, List.zipWith_nil_left]
        try simp only [hn]
        go_wp2_with (fail)
        exact ⟨rfl, _, rfl, alloc_below _ _, ⟨W.heap.size, rfl, hW.size, _, heap_alloc_new W _⟩, fun h => h.elim⟩
    · intro xs W hW hall hfr
      clear hfr
      simp only [flowAll, and_true, Nat.zero_add, Nat.reduceAdd] at hall
      obtain ⟨-, -, -, -, -, -, h6, h7, -, gv, h9, hgv, tv, hhv⟩ := hall
      simp only [flowAct, List.zipWith_cons_cons, List.zipWith_nil_left, List.drop_succ_cons, List.drop_zero]
      simp only [h6, h7, h9]
      clear h6 h7 h9
      have HA := Lib.hid (HAT.out.below hW)
      have HB2 := Lib.hid (HMB.out.below hW)
      have HH2 := Lib.hid (show HeadAt W q n1 (.slice (some ⟨gl, 0, none⟩) nb cb) from heap_below HHD.out hW)
      have HOC := Lib.hid (HOC0.out.below' hW)
      have HVB := Lib.hid hhv
      have HWW := Lib.hid (HTN.out.trans (Turn.of_below hW))
      have HSZ := Lib.hid (Nat.le_trans HS2.out hW.size)
      clear hhv
      have hne : gv ≠ g := by have := HAT.out.lt; omega
      have HIN := Lib.hid (insRw_c HA.out (i := i) (by rw [HL.out]; exact him) (by rw [HL.out]; exact hmf) (r := ⟨k, .slice au cs.length cu, cs⟩) HVB.out hne (fun x hx => rw_one ((HB2.out.row ⟨g, off, c', l⟩ mem_mid x hx).1)) (rw_one HOC.out))
      rw [HL.out] at HIN
      go_upto_region 8 with (go_at_call 97; (with_reducible refine HIN.out.mono ?_); rintro e4 w4 ⟨g', off', c'', rfl, hat4, hw4, hwh4⟩)
      rw [HL.out]
      have HAT4 := Lib.hid hat4
      have HW4 := Lib.hid hw4
      have HWH4 := Lib.hid hwh4
      have HH4 := Lib.hid (show HeadAt w4 q n1 (.slice (some ⟨gl, 0, none⟩) nb cb) from (hw4.rest q (by have := HH2.out; exact (Array.getElem?_eq_some_iff.1 this).1) hqg).trans HH2.out)
      obtain ⟨m0, m1, m2, mf⟩ := map_cells HH4.out
      have hgl4 := hw4.rest gl (by have := HB2.out.ltv (k := gl) rfl; exact this) hglg
      obtain ⟨cl, hclg, hcls, hclc⟩ := HB2.out.vty (k := gl) rfl |>.elim (fun cur h => (⟨cur, h, trivial, trivial⟩ : ∃ cur, W.heap[gl]? = some (.cells cur 107 (0, 0)) ∧ True ∧ True))
      have hfl : ∀ j, w4.frozen? ⟨gl, j, none⟩ = false := fun j => frozen_of_row _ gl j _ _ (hgl4.trans hclg)
      have hcc : w4.cell? ⟨gl, al, none⟩ = some (.slice (some ⟨g, off, none⟩) m c') := by
        have := HC.out W hW
        simp only [World.cell?, hgl4] at this ⊢
        exact this
      have HRW4 := HL.out
      clear hat4 hw4 hwh4 hgl4 hclg hcls hclc hW
      go_upto_region 9 with (fail)
      have hput := HB2.out.put (b' := ⟨g', off', c'', l.take i ++ [(⟨k, .slice au cs.length cu, cs⟩ : Rw)] ++ l.drop i⟩) (W3 := w4.setCell ⟨gl, al, none⟩ (.slice (some ⟨g', off', none⟩) (m + 1) c'')) HW4.out HAT4.out (by simp; omega) (HWH4.out.imp id (fun h => h.1)) (fun x hx => by
          rcases List.mem_append.1 hx with hx | hx
          · rcases List.mem_append.1 hx with hx | hx
            · exact HB2.out.row _ mem_mid x (List.mem_of_mem_take hx)
            · rw [List.mem_singleton] at hx; subst hx; exact ⟨HOC.out, hcz⟩
          · exact HB2.out.row _ mem_mid x (List.mem_of_mem_drop hx)) (by rw [HNB.out]) (by rw [HALN.out]; simp [Blk.val, HL.out, Nat.min_eq_left him]; congr 3; omega)
      have HPUT := Lib.hid hput
      have HH5 := Lib.hid (show HeadAt (w4.setCell ⟨gl, al, none⟩ (.slice (some ⟨g', off', none⟩) (m + 1) c'')) q n1 (.slice (some ⟨gl, 0, none⟩) nb cb) from (Below.heap_setCell w4 ⟨gl, al, none⟩ _ q hqgl).trans HH4.out)
      have HT5 := Lib.hid (HWW.out.trans (((Turn.of_within HW4.out).mono (fun k hk _ => by subst hk; exact HFG.out)).trans ((Turn.cell w4 ⟨gl, al, none⟩ (.slice (some ⟨g', off', none⟩) (m + 1) c'')).mono (fun k hk _ => by have hk : k = gl := hk; subst hk; exact HFL.out))))
      have HS5 := Lib.hid (show w.heap.size ≤ (w4.setCell ⟨gl, al, none⟩ (.slice (some ⟨g', off', none⟩) (m + 1) c'')).heap.size from by rw [World.size_setCell]; have h1 := HSZ.out; have h2 := HW4.out.size; omega)
      have HG5 := Lib.hid (show foot q (.slice (some ⟨gl, 0, none⟩) nb cb) (A ++ (⟨g, off, c', l⟩ : Blk) :: C) g' ∨ w.heap.size ≤ g' from by
        rcases HWH4.out with ⟨e, -⟩ | ⟨e, -⟩
        · rw [e]; exact .inl HFG.out
        · have h1 := HSZ.out; exact .inr (by omega))
      have hc2 : 64 ≤ m + 1 → 64 ≤ c'' := fun h => by have := HAT4.out.le; simp [HL.out] at this; omega
      have hc3 := HAT4.out.max
      generalize w4.setCell ⟨gl, al, none⟩ (.slice (some ⟨g', off', none⟩) (m + 1) c'') = w5 at *
      clear hput hcc hfl m0 m1 m2 mf HIN HA HVB HC HRW HM HAT HMB HHD HH4 HB2 HH2
      by_cases h64 : m + 1 = 64
      · obtain rfl : m = 63 := by omega
        have hc2 := hc2 (by omega)
        have HHV := Lib.hid (halves_c w5 g' off' c'' hc2 hc3)
        go_upto_region 11 with (go_at_call 98; (with_reducible refine HHV.out.mono ?_); rintro e6 w6 ⟨rfl, hb6⟩)
        have HB6 := Lib.hid (HPUT.out.below hb6)
        have HH6 := Lib.hid (show HeadAt w6 q n1 (.slice (some ⟨gl, 0, none⟩) nb cb) from heap_below HH5.out hb6)
        have HT6 := Lib.hid (HT5.out.trans (Turn.of_below hb6))
        have HS6 := Lib.hid (Nat.le_trans HS5.out hb6.size)
        clear hb6 HHV
        obtain ⟨m0, m1, m2, mf⟩ := map_cells HH6.out
        obtain ⟨gl9, cb9, e9, hat9⟩ := HB6.out.vb_some
        injection e9 with e91 e92 e93
        injection e91 with e91
        injection e91 with e91
        subst e91 e93
        have hcl9 : w6.cell? ⟨gl, al, none⟩ = some (.slice (some ⟨g', off', none⟩) 64 c'') := by
          have := hat9.ls (z := Blk.zero) blk_size
          obtain ⟨b8, o8, e8, hc8⟩ := this.at (k := al) (by simp; have := HALN.out; omega)
          injection e8 with e8
          injection e8 with e81 e82
          subst e81 e82
          have h8 := hc8 w6 (Below.refl _ _) 0 (.slice (some ⟨g', off', none⟩) 64 c'') (by
            rw [← HALN.out, List.getD_eq_getElem?_getD, List.getElem?_append_right (Nat.le_refl _), Nat.sub_self]
            simp [Blk.arr, Blk.val, HL.out, Nat.min_eq_left him]
            omega)
          simpa using h8
        have hfl9 : ∀ j, w6.frozen? ⟨gl, j, none⟩ = false := fun j => hat9.fz j
        have HAT9 := Lib.hid hat9
        clear e92 hat9
        go_upto_region 12 with (fail)
        have hsp : (l.take i ++ [(⟨k, .slice au cs.length cu, cs⟩ : Rw)] ++ l.drop i).length = 64 := by simp [HL.out, Nat.min_eq_left him]; omega
        have HSP := Lib.hid hsp
        have hat7 : At 1 107 Blk.arr (w6.setCell ⟨gl, al, none⟩ (.slice (some ⟨g', off', none⟩) 32 32)) gl 0 cb (A ++ (⟨g', off', 32, (l.take i ++ [(⟨k, .slice au cs.length cu, cs⟩ : Rw)] ++ l.drop i).take 32⟩ : Blk) :: C) := by
          refine HAT9.out.set1 (fun _ => rfl) (v := .slice (some ⟨g', off', none⟩) 32 32) ?_ (by rw [Nat.zero_add, HALN.out])
          simp only [Blk.arr, Blk.val, List.length_take, hsp]
          rfl
        have HAT7 := Lib.hid hat7
        have HH7 := Lib.hid (show HeadAt (w6.setCell ⟨gl, al, none⟩ (.slice (some ⟨g', off', none⟩) 32 32)) q n1 (.slice (some ⟨gl, 0, none⟩) nb cb) from (Below.heap_setCell w6 ⟨gl, al, none⟩ _ q hqgl).trans HH6.out)
        have HT7 := Lib.hid (HT6.out.trans ((Turn.cell w6 ⟨gl, al, none⟩ (.slice (some ⟨g', off', none⟩) 32 32)).mono (fun k hk _ => by have hk : k = gl := hk; subst hk; exact HFL.out)))
        have HS7 := Lib.hid (show w.heap.size ≤ (w6.setCell ⟨gl, al, none⟩ (.slice (some ⟨g', off', none⟩) 32 32)).heap.size from by rw [World.size_setCell]; exact HS6.out)
        have HE7 := Lib.hid (show (w6.setCell ⟨gl, al, none⟩ (.slice (some ⟨g', off', none⟩) 32 32)).heap = (w6.setCell ⟨gl, al, none⟩ (.slice (some ⟨g', off', none⟩) 32 32)).heap from rfl)
        generalize hW7 : w6.setCell ⟨gl, al, none⟩ (.slice (some ⟨g', off', none⟩) 32 32) = w7 at *
        have HW7 := Lib.hid hW7
        clear hW7 hat7 hcl9 hfl9 m0 m1 m2 mf HE7 HAT9 hsp
        obtain ⟨m0, m1, m2, mf⟩ := map_cells HH7.out
        have hal8 := alloc_below w7 (.cells #[.slice (some ⟨g', off' + 64, none⟩) 32 32] 107)
        have hn8 := heap_alloc_new w7 (.cells #[.slice (some ⟨g', off' + 64, none⟩) 32 32] 107)
        have hrv : #[Value.slice (some ⟨g', off' + 64, none⟩) 32 32] = Blk.arr ⟨g', off' + 32 * 2, 64 - 32, (l.take i ++ [(⟨k, .slice au cs.length cu, cs⟩ : Rw)] ++ l.drop i).drop 32⟩ := by
          simp only [Blk.arr, Blk.val, List.length_drop, HSP.out]
        have HI8 := Lib.hid (insBk_c (w := w7.alloc (.cells #[.slice (some ⟨g', off' + 64, none⟩) 32 32] 107)) (HAT7.out.below hal8) (i := al1) (r := ⟨g', off' + 32 * 2, 64 - 32, (l.take i ++ [(⟨k, .slice au cs.length cu, cs⟩ : Rw)] ++ l.drop i).drop 32⟩) (vb := w7.heap.size) (by rw [← HAL1.out, ← HALN.out]; simp) (by have h1 := HNBF.out; rw [HNB.out] at h1; simpa using h1) (by rw [← hrv]; exact hn8) (by have := HAT7.out.lt; omega) (fun x _ => bk_one x) (bk_one _))
        have hln : (A ++ (⟨g', off', 32, (l.take i ++ [(⟨k, .slice au cs.length cu, cs⟩ : Rw)] ++ l.drop i).take 32⟩ : Blk) :: C).length = nb := by rw [HNB.out]; simp
        rw [hln] at HI8
        have HLN := Lib.hid hln
        have HAL8 := Lib.hid hal8
        clear hal8 hn8 hrv hln
        go_wp2_with (go_at_call 99; (with_reducible refine HI8.out.mono ?_); rintro e9 w9 ⟨g9, off9, c9, rfl, hat9, hw9, hwh9⟩; rw [HLN.out]; have hoff9 : off9 = 0 := (by rcases hwh9 with ⟨-, e, -⟩ | ⟨-, e⟩ <;> exact e); subst hoff9; have HAT99 := Lib.hid hat9; have HW99 := Lib.hid (show Within gl 0 (cb * 1) w7 w9 from (by have h := Within.trans (Within.of_below HAL8.out) hw9; rwa [Nat.zero_add] at h)); have HG9 := Lib.hid (show foot q (.slice (some ⟨gl, 0, none⟩) nb cb) (A ++ (⟨g, off, c', l⟩ : Blk) :: C) g9 ∨ w.heap.size ≤ g9 from hwh9.elim (fun h => .inl (by rw [h.1]; exact HFL.out)) (fun h => .inr (by have h1 := HS7.out; have e := h.1; rw [World.size_alloc] at e; omega))); have HH9 := Lib.hid (show HeadAt w9 q n1 (.slice (some ⟨gl, 0, none⟩) nb cb) from (HW99.out.rest q (Array.getElem?_eq_some_iff.1 HH7.out).1 hqgl).trans HH7.out); clear hat9 hw9 hwh9 m0 m1 m2 mf; obtain ⟨m0, m1, m2, mf⟩ := map_cells HH9.out)
        have hh10 := head_list (vb' := .slice (some ⟨g9, 0, none⟩) (nb + 1) c9) HH9.out
        have hmid := HAT99.out
        rw [← HAL1.out, ← HALN.out, ins_mid] at hmid
        have hs9 := MapB.split (k := 32) (W3 := w7) (W4 := w9) HB6.out (by omega) (by rw [HSP.out]; omega) (l := ⟨g', off', 32, (l.take i ++ [(⟨k, .slice au cs.length cu, cs⟩ : Rw)] ++ l.drop i).take 32⟩) (r := ⟨g', off' + 32 * 2, 64 - 32, (l.take i ++ [(⟨k, .slice au cs.length cu, cs⟩ : Rw)] ++ l.drop i).drop 32⟩) rfl (by simp only [HSP.out]) (gl := gl) (cb := cb) (by rw [HNB.out]; simp) (by rw [← HW7.out, HALN.out]; simp only [Blk.val, List.length_take, HSP.out]; rfl) hmid HW99.out
        have hnl : (A ++ (⟨g', off', 32, (l.take i ++ [(⟨k, .slice au cs.length cu, cs⟩ : Rw)] ++ l.drop i).take 32⟩ : Blk) :: ⟨g', off' + 32 * 2, 64 - 32, (l.take i ++ [(⟨k, .slice au cs.length cu, cs⟩ : Rw)] ++ l.drop i).drop 32⟩ :: C).length = nb + 1 := by rw [HNB.out]; simp; omega
        rw [hnl] at hs9
        have HS99 := Lib.hid (hs9.cellq HH9.out (W' := w9.setCell ⟨q, 2, none⟩ (.slice (some ⟨g9, 0, none⟩) (nb + 1) c9)) (fun k' hk' => Below.heap_setCell w9 ⟨q, 2, none⟩ _ k' hk'))
        have HT9 := Lib.hid (HT7.out.trans (((Turn.of_within HW99.out).mono (fun k hk _ => by subst hk; exact HFL.out)).trans ((Turn.cell w9 ⟨q, 2, none⟩ (.slice (some ⟨g9, 0, none⟩) (nb + 1) c9)).mono (fun k hk _ => by have hk : k = q := hk; subst hk; exact .inl rfl))))
        clear hmid hs9
        refine bodyPost_end (results_none rfl _ _ _) rfl ⟨rfl, _, _, ?_, HS99.out, ?_, HT9.out, ?_⟩
        · rw [HLR.out]; exact hh10
        · rw [rowsOf_append, rowsOf_cons, rowsOf_cons]
          show rowsOf A ++ ((l.take i ++ [(⟨k, .slice au cs.length cu, cs⟩ : Rw)] ++ l.drop i).take 32 ++ ((l.take i ++ [(⟨k, .slice au cs.length cu, cs⟩ : Rw)] ++ l.drop i).drop 32 ++ rowsOf C)) = _
          rw [← List.append_assoc ((l.take i ++ [(⟨k, .slice au cs.length cu, cs⟩ : Rw)] ++ l.drop i).take 32), List.take_append_drop]
        · rintro k' (hk | ⟨x, hx, rfl⟩)
          · rw [ownBlock_lit] at hk
            subst hk
            exact HG9.out
          · rcases List.mem_append.1 hx with hx | hx
            · exact .inl (.inr (.inr ⟨x, List.mem_append_left _ hx, rfl⟩))
            · rcases List.mem_cons.1 hx with rfl | hx
              · exact HG5.out
              · rcases List.mem_cons.1 hx with rfl | hx
                · exact HG5.out
                · exact .inl (.inr (.inr ⟨x, List.mem_append_right _ (List.mem_cons_of_mem _ hx), rfl⟩))
      · clear hc2
        have h64i : ¬ ((m : Int) + 1 = 64) := by omega
        go_wp2
        refine bodyPost_end (results_none rfl _ _ _) rfl ⟨rfl, _, _, ?_, HPUT.out, by rw [rowsOf_append, rowsOf_cons], HT5.out, ?_⟩
        · rw [HLR.out]; exact HH5.out
        · rintro k' (hk | ⟨x, hx, rfl⟩)
          · exact .inl (.inr (.inl hk))
          · rcases List.mem_append.1 hx with hx | hx
            · exact .inl (.inr (.inr ⟨x, List.mem_append_left _ hx, rfl⟩))
            · rcases List.mem_cons.1 hx with rfl | hx
              · exact HG5.out
              · exact .inl (.inr (.inr ⟨x, List.mem_append_right _ (List.mem_cons_of_mem _ hx), rfl⟩))

end Go.Proofs.Ytbpgfmcnpifmdaa
end

section
namespace Go.Proofs.Ytbpgfmcnpifmdaa
open Go.RowKit Go Go.Sort Go.Lib
set_option linter.unusedVariables false
set_option maxRecDepth 20000

set_option maxRecDepth 100000 in
set_option maxHeartbeats 3200000 in
theorem minsert0_c {w : World} {q cu cb : Nat} {ab : Option Addr} {k : List UInt8} {au : Option Addr} {cs : List Cl} (hh : HeadAt w q 0 (.slice ab 0 cb)) (hu : OwnC w 0 (.slice au cs.length cu) cs) (hcz : cs.length ≤ 1000000) (at' i : Int) :
    Calls Try.prog 63 #[.pointer (some ⟨q, 0, none⟩), .int .i64 at', .int .i64 i, .agg #[.string (text k), .slice au cs.length cu]] w (fun e w' => e = .returned (.tuple #[]) ∧ MPost q (.slice ab 0 cb) [] [⟨k, .slice au cs.length cu, cs⟩] w w') := by
  have hal := alloc_below w (.cells #[.string (text k), .slice au cs.length cu] 30)
  have hrw := heap_alloc_new w (.cells #[.string (text k), .slice au cs.length cu] 30)
  have hh1 : HeadAt (w.alloc (.cells #[.string (text k), .slice au cs.length cu] 30)) q 0 (.slice ab 0 cb) := heap_below hh hal
  have hh2 : HeadAt ((w.alloc (.cells #[.string (text k), .slice au cs.length cu] 30)).setCell ⟨q, 1, none⟩ (.int .i64 1)) q 1 (.slice ab 0 cb) := head_size (n' := 1) hh1
  have hql : q < w.heap.size := (Array.getElem?_eq_some_iff.1 hh).1
  have hrw2 := (Below.heap_setCell (w.alloc (.cells #[.string (text k), .slice au cs.length cu] 30)) ⟨q, 1, none⟩ (.int .i64 1) w.heap.size (by show w.heap.size ≠ q; omega)).trans hrw
  have hu2 : OwnC ((w.alloc (.cells #[.string (text k), .slice au cs.length cu] 30)).setCell ⟨q, 1, none⟩ (.int .i64 1)) 0 (.slice au cs.length cu) cs := by
    refine (hu.below' hal).of_block fun k' hk' => Below.heap_setCell _ ⟨q, 1, none⟩ _ k' fun e => ?_
    exact own_not hu hk' (by have e : k' = q := e; rw [e]; exact hh) (by decide)
  have HT := Lib.hid (Turn.trans (F := foot q (.slice ab 0 cb) []) (Turn.of_below hal) ((Turn.cell _ ⟨q, 1, none⟩ (.int .i64 1)).mono (fun k hk _ => .inl hk)))
  have HU := Lib.hid hu2
  have HSZ := Lib.hid (show w.heap.size ≤ ((w.alloc (.cells #[.string (text k), .slice au cs.length cu] 30)).setCell ⟨q, 1, none⟩ (.int .i64 1)).heap.size from by rw [World.size_setCell, World.size_alloc]; omega)
  obtain ⟨m0, m1, m2, mf⟩ := map_cells hh1
  have HH2 := Lib.hid hh2
  have HRW := Lib.hid hrw2
  clear hh hu hal hrw hh1 hh2 hrw2 hql hu2
  go_enter Try.func63, Try.ntmps63
  go_upto_region 2 with (fail)
  generalize (w.alloc (.cells #[.string (text k), .slice au cs.length cu] 30)).setCell ⟨q, 1, none⟩ (.int .i64 1) = W1 at *
  clear m0 m1 m2 mf
  obtain ⟨m0, m1, m2, mf⟩ := map_cells HH2.out
  obtain ⟨r0, r1, -⟩ := row_cells HRW.out
  go_upto_region 3 with (fail)
  have hal1 := alloc_below W1 (.cells #[.string (text k), .slice au cs.length cu] 30)
  have hal2 := alloc_below (W1.alloc (.cells #[.string (text k), .slice au cs.length cu] 30)) (.cells #[.slice (some ⟨W1.heap.size, 0, none⟩) 1 1] 107)
  have hn1 := heap_below (heap_alloc_new W1 (.cells #[.string (text k), .slice au cs.length cu] 30)) hal2
  have hn2 := heap_alloc_new (W1.alloc (.cells #[.string (text k), .slice au cs.length cu] 30)) (.cells #[.slice (some ⟨W1.heap.size, 0, none⟩) 1 1] 107)
  have hbb := hal1.trans (hal2.mono hal1.size)
  have hh3 : HeadAt ((W1.alloc (.cells #[.string (text k), .slice au cs.length cu] 30)).alloc (.cells #[.slice (some ⟨W1.heap.size, 0, none⟩) 1 1] 107)) q 1 (.slice ab 0 cb) := heap_below HH2.out hbb
  rw [World.size_alloc] at hn2
  clear m0 m1 m2 mf
  obtain ⟨m0, m1, m2, mf⟩ := map_cells hh3
  have HB := Lib.hid ((MapB.one (r := ⟨k, .slice au cs.length cu, cs⟩) (c := 1) (c2 := 1) hn1 hn2 (HU.out.below' hbb) hcz).cellq hh3 (W' := ((W1.alloc (.cells #[.string (text k), .slice au cs.length cu] 30)).alloc (.cells #[.slice (some ⟨W1.heap.size, 0, none⟩) 1 1] 107)).setCell ⟨q, 2, none⟩ (.slice (some ⟨W1.heap.size + 1, 0, none⟩) 1 1)) (fun k' hk' => Below.heap_setCell _ ⟨q, 2, none⟩ _ k' hk'))
  have HH := Lib.hid (head_list (vb' := .slice (some ⟨W1.heap.size + 1, 0, none⟩) 1 1) hh3)
  have HTT := Lib.hid (HT.out.trans ((Turn.of_below hbb).trans ((Turn.cell _ ⟨q, 2, none⟩ (.slice (some ⟨W1.heap.size + 1, 0, none⟩) 1 1)).mono (fun k hk _ => .inl hk))))
  clear hal1 hal2 hn1 hn2 hbb hh3
  go_wp2
  refine bodyPost_ret (results_none rfl _ _ _) rfl ⟨rfl, _, _, HH.out, HB.out, rfl, HTT.out, ?_⟩
  rintro k' (hk | ⟨x, hx, rfl⟩)
  · rw [ownBlock_lit] at hk
    subst hk
    exact .inr (by have := HSZ.out; omega)
  · rw [List.mem_singleton] at hx
    subst hx
    exact .inr HSZ.out
end Go.Proofs.Ytbpgfmcnpifmdaa
end

section
namespace Go.Proofs.Ytbpgfmcnpifmdaa
open Go.RowKit Go Go.Sort
set_option linter.unusedVariables false
set_option maxRecDepth 20000

theorem look_first (k : List UInt8) : ∀ (L : List Rw) (q : Nat), q < L.length → (∀ p, p < q → (L.getD p Rw.zero).k ≠ k) → (L.getD q Rw.zero).k = k → look (L.map Rw.pr) k = some (L.getD q Rw.zero).cs
  | [], q, h, _, _ => by simp at h
  | r :: L, 0, _, _, e => by
    show look (r.pr :: L.map Rw.pr) k = _
    rw [look_cons, if_pos (show r.pr.1 = k from e)]; rfl
  | r :: L, q + 1, h, hn, e => by
    show look (r.pr :: L.map Rw.pr) k = _
    rw [look_cons, if_neg (show ¬ r.pr.1 = k from hn 0 (by omega)), look_first k L q (by simpa using h) (fun p hp => hn (p + 1) (by omega)) e]; rfl
theorem look_never (k : List UInt8) (L : List Rw) (h : ∀ p, p < L.length → (L.getD p Rw.zero).k ≠ k) : look (L.map Rw.pr) k = none := by
  rw [look_none_iff]
  intro r hr
  obtain ⟨x, hx, rfl⟩ := List.mem_map.1 hr
  obtain ⟨i, hi, rfl⟩ := List.getElem_of_mem hx
  have := h i hi
  rw [List.getD_eq_getElem?_getD, List.getElem?_eq_getElem hi] at this
  exact this
/-- What Get tells of a row. -/
def GotPost (r : Option (List Cl)) (t : ByteArray) (w : World) (e : Ending) (w' : World) : Prop :=
  (∃ cs a c, r = some cs ∧ e = .returned (.tuple #[.agg #[.string t, .slice a cs.length c], .bool true]) ∧ OwnC w' w.heap.size (.slice a cs.length c) cs ∧ Below w.heap.size w w') ∨
  (r = none ∧ e = .returned (.tuple #[.agg #[.string ⟨#[]⟩, .slice none 0 0], .bool false]) ∧ Below w.heap.size w w')

set_option maxRecDepth 100000 in
set_option maxHeartbeats 6400000 in
theorem rget11_c {w : World} {x : Option Addr} {m cap B0 : Nat} {L : List Rw} (hl : RwsIn w B0 x m cap L) (hz : ∀ r ∈ L, r.cs.length ≤ 1000000) (k : List UInt8) :
    Calls Try.prog 23 #[.slice x m cap, .string (text k)] w (GotPost (look (L.map Rw.pr) k) (text k) w) := by
  have hll := hl.1.len
  have hle := hl.1.le
  have hmax := hl.1.max
  obtain ⟨RV, hRV⟩ : ∃ z, look (L.map Rw.pr) k = z := ⟨_, rfl⟩
  rw [hRV]
  have HF := Lib.hid (fun q (hq : q < m) (h1 : ∀ p, p < q → (L.getD p Rw.zero).k ≠ k) (h2 : (L.getD q Rw.zero).k = k) => hRV.symm.trans (look_first k L q (by omega) h1 h2))
  have HNV := Lib.hid (fun (h : ∀ p, p < m → (L.getD p Rw.zero).k ≠ k) => hRV.symm.trans (look_never k L (fun p hp => h p (by omega))))
  have HL := Lib.hid hl
  have HZ0 := Lib.hid (fun q (hq : q < m) => hz _ (rw_mem (L := L) (k := q) (by omega)))
  obtain ⟨tk, htk⟩ : ∃ z, text k = z := ⟨_, rfl⟩
  rw [htk]
  have HTK := Lib.hid htk
  have hb := alloc_below w (.cells #[.string ⟨#[]⟩, .slice none 0 0] 30)
  have hr := heap_alloc_new w (.cells #[.string ⟨#[]⟩, .slice none 0 0] 30)
  have hsz : (w.alloc (.cells #[.string ⟨#[]⟩, .slice none 0 0] 30)).heap.size = w.heap.size + 1 := by simp
  clear hRV hl hz htk hll
  go_enter Try.func23, Try.ntmps23
  go_upto_region 1 with (fail)
  obtain ⟨B, hB⟩ : ∃ q, w.heap.size = q := ⟨_, rfl⟩
  have HBe := Lib.hid hB
  rw [hB] at hr hsz ⊢
  clear hB
  generalize w.alloc (.cells #[.string ⟨#[]⟩, .slice none 0 0] 30) = W1 at *
  have HSZ := Lib.hid hsz
  have HB1 := Lib.hid hb
  have HR1 := Lib.hid hr
  clear hb hr hsz
  go_wp2
  go_loopw [6] (fun j wr => ∃ q : Nat, q ≤ m ∧ j = .int .i64 (q : Int) ∧ (∀ p, p < q → (L.getD p Rw.zero).k ≠ k) ∧ Below W1.heap.size W1 wr) (fun j _ => m - (intOf j).toNat)
  case atStart => exact ⟨0, by omega, rfl, fun p hp => absurd hp (by omega), Below.refl _ _⟩
  case round =>
    obtain ⟨q, hq, rfl, hne, hbx⟩ := hrel
    have HNEV := Lib.hid hne
    have HBx := Lib.hid hbx
    have hz2 := heap_below HR1.out hbx
    clear hne hbx
    by_cases hlq : q < m
    · have hqi : (q : Int) < (m : Int) := by omega
      have hqc : (q : Int) < (cap : Int) := by omega
      obtain ⟨bo, offo, ao, no, co, rfl, eu, eno, hco, hro, hat⟩ := HL.out.place hlq
      have HF2 := Lib.hid (fun h2 => HF.out q hlq HNEV.out h2)
      have hnl := HZ0.out q hlq
      have HNX := Lib.hid (fun (h2 : (L.getD q Rw.zero).k ≠ k) p (hp : p < q + 1) => (show (L.getD p Rw.zero).k ≠ k from if e : p = q then e ▸ h2 else HNEV.out p (by omega)))
      obtain ⟨y, hy⟩ : ∃ y, L.getD q Rw.zero = y := ⟨_, rfl⟩
      rw [hy] at hat eu eno hro hco HF2 HNX hnl
      obtain ⟨ko, uo, cso⟩ := y
      simp only at hat eu eno hco hnl
      subst eu
      obtain ⟨to, hto⟩ : ∃ z, text ko = z := ⟨_, rfl⟩
      rw [hto] at hat
      have hte := text_eqb ko k
      rw [hto, HTK.out] at hte
      have HCP := Lib.hid (rcopy_c (hco.below (HB1.out.trans (HBx.out.mono HB1.out.size))) (by omega) to)
      have HTO := Lib.hid hto
      obtain ⟨o0, o1⟩ := hat _ (HB1.out.trans (HBx.out.mono HB1.out.size))
      obtain ⟨z0, z1, zf⟩ := row_cells hz2
      have HZ2 := Lib.hid hz2
      have HCO := Lib.hid hro
      clear hat hy hto hro hco hz2 eno hnl
      by_cases he : ko = k
      · subst he
        have hE : (ko == ko) = true := by simp
        rw [hE] at hte
        have HRR := Lib.hid (HF2.out rfl)
        clear HF2 HNX HNV HF
        go_wp2_with (go_at_call 59; (with_reducible refine HCP.out.mono ?_); rintro e9 w9 ⟨v9, rfl, ho9, hb9⟩; obtain ⟨a9, c9, rfl, -⟩ := ho9.cls; have hz9 := heap_below HZ2.out hb9; have HO9 := Lib.hid ho9; have HB9 := Lib.hid hb9; have HZ9 := Lib.hid hz9; clear ho9 hb9 z0 z1 zf; obtain ⟨z0, z1, zf⟩ := row_cells hz9; clear hz9)
        refine bodyPost_ret (res_cell_tmp rfl _ _ B 30 _ (0, 0) _ (.bool true) rfl rfl (row_set HZ9.out to (.slice a9 cso.length c9)) Try.underlying30 rfl (by kernel_rfl)) rfl ?_
        refine .inl ⟨_, _, _, HRR.out, by rw [← HTO.out, HTK.out], ?_, ?_⟩
        · exact own_set (i := 1) (show (w9.setCell ⟨B, 0, none⟩ (.string to)).heap[B]? = _ from (heap_setCell_same _ _ 0 _ _ _ HZ9.out).trans rfl) (by decide) (own_set (i := 0) HZ9.out (by decide) (HO9.out.mono (Nat.le_trans HB1.out.size HBx.out.size)))
        · exact ((((HB1.out.trans (HBx.out.mono HB1.out.size)).trans (HB9.out.mono (Nat.le_trans HB1.out.size HBx.out.size))).setCell (p := ⟨B, 0, none⟩) (by have := HBe.out; simp; omega) _).setCell (p := ⟨B, 1, none⟩) (by have := HBe.out; simp; omega) _)
      · have hE : (ko == k) = false := by simp [he]
        rw [hE] at hte
        have HNN := Lib.hid (HNX.out he)
        clear HF2 HNX HCP
        go_wp2
        go_roundw
        case rel => exact ⟨q + 1, by omega, by go_num, HNN.out, HBx.out⟩
        case measure => simp [intOf]; omega
    · obtain rfl : m = q := by omega
      have HRR := Lib.hid (HNV.out HNEV.out)
      obtain ⟨z0, z1, zf⟩ := row_cells hz2
      have HZ2 := Lib.hid hz2
      clear hz2 HNV HF
      go_wp2
      refine bodyPost_ret (res_cell_tmp rfl _ _ B 30 _ (0, 0) _ (.bool false) rfl rfl (row_set HZ2.out ⟨#[]⟩ (.slice none 0 0)) Try.underlying30 rfl (by kernel_rfl)) rfl ?_
      exact .inr ⟨HRR.out, rfl, (((HB1.out.trans (HBx.out.mono HB1.out.size)).setCell (p := ⟨B, 0, none⟩) (by have := HBe.out; simp; omega) _).setCell (p := ⟨B, 1, none⟩) (by have := HBe.out; simp; omega) _)⟩
end Go.Proofs.Ytbpgfmcnpifmdaa
end

section
namespace Go.Proofs.Ytbpgfmcnpifmdaa
open Go.RowKit Go Go.Sort
set_option linter.unusedVariables false
set_option maxRecDepth 20000

/-- What find tells, of a map. -/
def Found (BS : List Blk) (key : List UInt8) (w : World) (e : Ending) (w' : World) : Prop :=
  ∃ (at' i : Nat) (is : Bool), e = .returned (.tuple #[.int .i64 (at' : Int), .int .i64 (i : Int), .bool is]) ∧ Below w.heap.size w w' ∧
    ((at' = BS.length ∧ i = 0 ∧ is = false ∧ ∀ r ∈ rowsOf BS, Op.bytesLess r.k key = true) ∨
     ∃ A b C, BS = A ++ b :: C ∧ at' = A.length ∧ i < b.rows.length ∧ (∀ r ∈ rowsOf A ++ b.rows.take i, Op.bytesLess r.k key = true) ∧ (∀ r ∈ b.rows.drop i ++ rowsOf C, Op.bytesLess r.k key = false) ∧ is = ((b.rows.getD i Rw.zero).k == key))
theorem asc_last {X : List Rw} {y : Rw} {key : List UInt8} (h : KAsc Op.bytesLess ((X ++ [y]).map Rw.pr)) (hy : Op.bytesLess y.k key = true) : ∀ r ∈ X ++ [y], Op.bytesLess r.k key = true := by
  intro r hr
  rcases List.mem_append.1 hr with hr | hr
  · unfold KAsc at h
    rw [List.map_append, List.pairwise_append] at h
    exact strictT.tr _ _ _ (h.2.2 r.pr (List.mem_map_of_mem hr) y.pr (by simp)) hy
  · rw [List.mem_singleton] at hr
    subst hr
    exact hy
theorem asc_first {X : List Rw} {y : Rw} {key : List UInt8} (h : KAsc Op.bytesLess ((y :: X).map Rw.pr)) (hy : Op.bytesLess y.k key = false) : ∀ r ∈ y :: X, Op.bytesLess r.k key = false := by
  intro r hr
  rcases List.mem_cons.1 hr with rfl | hr
  · exact hy
  · unfold KAsc at h
    rw [List.map_cons, List.pairwise_cons] at h
    have h1 := h.1 r.pr (List.mem_map_of_mem hr)
    cases h2 : Op.bytesLess r.k key with
    | false => rfl
    | true =>
      have := strictT.tr _ _ _ h1 h2
      rw [show y.pr.1 = y.k from rfl, hy] at this
      cases this
theorem asc_part {X Y : List Rw} (h : KAsc Op.bytesLess ((X ++ Y).map Rw.pr)) : KAsc Op.bytesLess (X.map Rw.pr) ∧ KAsc Op.bytesLess (Y.map Rw.pr) := by
  unfold KAsc at h ⊢
  rw [List.map_append, List.pairwise_append] at h
  exact ⟨h.1, h.2.1⟩
theorem take_last {X : List Rw} {i : Nat} (h0 : 0 < i) (hi : i ≤ X.length) : X.take i = X.take (i - 1) ++ [X.getD (i - 1) Rw.zero] := by
  obtain ⟨j, rfl⟩ : ∃ j, i = j + 1 := ⟨i - 1, by omega⟩
  rw [Nat.add_sub_cancel, List.take_add_one, List.getD_eq_getElem?_getD, List.getElem?_eq_getElem (by omega)]
  rfl
theorem drop_first {X : List Rw} {i : Nat} (hi : i < X.length) : X.drop i = X.getD i Rw.zero :: X.drop (i + 1) := by
  rw [List.drop_eq_getElem_cons hi, List.getD_eq_getElem?_getD, List.getElem?_eq_getElem hi]
  rfl
theorem found_of {BS : List Blk} {key : List UInt8} {w : World} {e : Ending} {w' : World} (hne : ∀ b ∈ BS, 0 < b.rows.length) (hasc : KAsc Op.bytesLess ((rowsOf BS).map Rw.pr)) (h : FindAt BS.length (BS.map Blk.rows) key w e w') : Found BS key w e w' := by
  obtain ⟨at', i, is, rfl, hle, hlo, hend, hmid, hb⟩ := h
  refine ⟨at', i, is, rfl, hb, ?_⟩
  have hA : ∀ r ∈ rowsOf (BS.take at'), Op.bytesLess r.k key = true := by
    by_cases h0 : at' = 0
    · subst h0
      intro r hr
      simp [rowsOf] at hr
    · have h1 := hlo (by omega)
      have hat : at' - 1 < BS.length := by omega
      unfold lastOk at h1
      rw [getD_mapB _ _ hat] at h1
      obtain ⟨p, hp⟩ : ∃ p, BS.getD (at' - 1) Blk.zero = p := ⟨_, rfl⟩
      rw [hp] at h1
      have hpm : p ∈ BS := by rw [← hp]; exact blk_mem hat
      have hpl := hne p hpm
      have e1 : BS.take at' = BS.take (at' - 1) ++ [p] := by
        obtain ⟨j, rfl⟩ : ∃ j, at' = j + 1 := ⟨at' - 1, by omega⟩
        rw [Nat.add_sub_cancel] at hp ⊢
        rw [List.take_add_one, ← hp, List.getD_eq_getElem?_getD, List.getElem?_eq_getElem (by omega)]
        rfl
      have e2 : rowsOf (BS.take at') = (rowsOf (BS.take (at' - 1)) ++ p.rows.take (p.rows.length - 1)) ++ [p.rows.getD (p.rows.length - 1) Rw.zero] := by
        rw [e1, rowsOf_append, rowsOf_cons, List.append_assoc, ← take_last hpl (Nat.le_refl _), List.take_length]
        simp [rowsOf]
      have e3 : rowsOf BS = rowsOf (BS.take at') ++ rowsOf (BS.drop at') := by rw [← rowsOf_append, List.take_append_drop]
      rw [e3] at hasc
      have h2 := (asc_part hasc).1
      rw [e2] at h2 ⊢
      exact asc_last h2 (by simpa using h1)
  by_cases hn : at' = BS.length
  · obtain ⟨h1, h2⟩ := hend hn
    rw [hn, List.take_length] at hA
    exact .inl ⟨hn, h1, h2, hA⟩
  · have hat : at' < BS.length := by omega
    obtain ⟨-, h2, h3, h4, h5⟩ := hmid hat
    rw [getD_mapB _ _ hat] at h2 h3 h4 h5
    obtain ⟨b, hbb⟩ : ∃ p, BS.getD at' Blk.zero = p := ⟨_, rfl⟩
    rw [hbb] at h2 h3 h4 h5
    have e1 : BS = BS.take at' ++ b :: BS.drop (at' + 1) := by
      rw [← hbb, List.getD_eq_getElem?_getD, List.getElem?_eq_getElem hat, Option.getD_some, ← List.drop_eq_getElem_cons hat, List.take_append_drop]
    have e3 : rowsOf BS = rowsOf (BS.take at') ++ (b.rows ++ rowsOf (BS.drop (at' + 1))) := by
      conv => lhs; rw [e1]
      rw [rowsOf_append, rowsOf_cons]
    rw [e3] at hasc
    have hq := (asc_part hasc).2
    refine .inr ⟨BS.take at', b, BS.drop (at' + 1), e1, by rw [List.length_take]; omega, h2, fun r hr => ?_, ?_, h5⟩
    · rcases List.mem_append.1 hr with hr | hr
      · exact hA r hr
      · by_cases h0 : i = 0
        · subst h0; simp at hr
        · have h6 := h3 (by omega)
          unfold rowOk at h6
          have h7 : KAsc Op.bytesLess ((b.rows.take i).map Rw.pr) := by
            have := (asc_part hq).1
            rw [← List.take_append_drop i b.rows] at this
            exact (asc_part this).1
          rw [take_last (by omega) (by omega)] at h7 hr
          exact asc_last h7 (by simpa using h6) r hr
    · unfold rowOk at h4
      have h7 : KAsc Op.bytesLess ((b.rows.drop i ++ rowsOf (BS.drop (at' + 1))).map Rw.pr) := by
        have : b.rows ++ rowsOf (BS.drop (at' + 1)) = b.rows.take i ++ (b.rows.drop i ++ rowsOf (BS.drop (at' + 1))) := by rw [← List.append_assoc, List.take_append_drop]
        rw [this] at hq
        exact (asc_part hq).2
      rw [drop_first h2, List.cons_append] at h7 ⊢
      exact asc_first h7 (by simpa using h4)
/-- find, of a map: where it stands. -/
theorem mfound_c {w : World} {q : Nat} {vb : Value} {BS : List Blk} (h : MapIn w q vb BS) (hf : (rowsOf BS).length ≤ 1000000) (key : List UInt8) :
    Calls Try.prog 61 #[.pointer (some ⟨q, 0, none⟩), .string (text key)] w (Found BS key w) :=
  (mfind_c h hf key).mono fun e w' hp => found_of (fun b hb => (h.body.blk b hb).1) h.asc hp
theorem filter_all {β : Type} {p : β → Bool} {l : List β} (h : ∀ r ∈ l, p r = true) : l.filter p = l := List.filter_eq_self.2 h
theorem filter_none {β : Type} {p : β → Bool} {l : List β} (h : ∀ r ∈ l, p r = false) : l.filter p = [] := List.filter_eq_nil_iff.2 fun a ha => by rw [h a ha]; decide
/-- A row put between those below its key and those above it. -/
theorem set_new {P Q : List Rw} {k : List UInt8} {u : Value} {cs : List Cl} (hasc : KAsc Op.bytesLess ((P ++ Q).map Rw.pr)) (hP : ∀ r ∈ P, Op.bytesLess r.k k = true) (hQ : ∀ r ∈ Q, Op.bytesLess k r.k = true) :
    setR Op.bytesLess Prod.fst ([], []) (k, cs) ((P ++ Q).map Rw.pr) = (P ++ [(⟨k, u, cs⟩ : Rw)] ++ Q).map Rw.pr ∧ KAsc Op.bytesLess ((P ++ [(⟨k, u, cs⟩ : Rw)] ++ Q).map Rw.pr) := by
  refine ⟨?_, ?_⟩
  · rw [setR_eq strictT Prod.fst _ _ _ hasc, List.map_append, List.filter_append, List.filter_append,
      filter_all (l := P.map Rw.pr) (fun r hr => by obtain ⟨x, hx, rfl⟩ := List.mem_map.1 hr; exact hP x hx),
      filter_none (l := Q.map Rw.pr) (fun r hr => by obtain ⟨x, hx, rfl⟩ := List.mem_map.1 hr; exact strictT.asym (hQ x hx)),
      filter_none (l := P.map Rw.pr) (fun r hr => by obtain ⟨x, hx, rfl⟩ := List.mem_map.1 hr; exact strictT.asym (hP x hx)),
      filter_all (l := Q.map Rw.pr) (fun r hr => by obtain ⟨x, hx, rfl⟩ := List.mem_map.1 hr; exact hQ x hx)]
    simp [Rw.pr]
  · have h1 := asc_part hasc
    unfold KAsc at h1 hasc ⊢
    rw [List.map_append, List.pairwise_append] at hasc
    rw [List.append_assoc, List.map_append, List.pairwise_append]
    refine ⟨h1.1, ?_, fun a ha b hb => ?_⟩
    · rw [List.singleton_append, List.map_cons, List.pairwise_cons]
      exact ⟨fun a ha => by obtain ⟨x, hx, rfl⟩ := List.mem_map.1 ha; exact hQ x hx, h1.2⟩
    · obtain ⟨x, hx, rfl⟩ := List.mem_map.1 ha
      rw [List.singleton_append, List.map_cons] at hb
      rcases List.mem_cons.1 hb with rfl | hb
      · exact hP x hx
      · exact hasc.2.2 _ (List.mem_map_of_mem hx) b hb
/-- .. in the place of the one with its key. -/
theorem set_old {P Q : List Rw} {x : Rw} {k : List UInt8} {u : Value} {cs : List Cl} (hasc : KAsc Op.bytesLess ((P ++ x :: Q).map Rw.pr)) (hx : x.k = k) :
    setR Op.bytesLess Prod.fst ([], []) (k, cs) ((P ++ x :: Q).map Rw.pr) = (P ++ (⟨k, u, cs⟩ : Rw) :: Q).map Rw.pr ∧ KAsc Op.bytesLess ((P ++ (⟨k, u, cs⟩ : Rw) :: Q).map Rw.pr) := by
  subst hx
  have h0 := hasc
  unfold KAsc at h0
  rw [List.map_append, List.map_cons, List.pairwise_append, List.pairwise_cons] at h0
  have hP : ∀ r ∈ P, Op.bytesLess r.k x.k = true := fun r hr => h0.2.2 _ (List.mem_map_of_mem hr) x.pr (List.mem_cons_self ..)
  have hQ : ∀ r ∈ Q, Op.bytesLess x.k r.k = true := fun r hr => h0.2.1.1 _ (List.mem_map_of_mem hr)
  refine ⟨?_, ?_⟩
  · rw [setR_eq strictT Prod.fst _ _ _ hasc, List.map_append, List.map_cons, List.filter_append, List.filter_append, List.filter_cons, List.filter_cons,
      filter_all (l := P.map Rw.pr) (fun r hr => by obtain ⟨y, hy, rfl⟩ := List.mem_map.1 hr; exact hP y hy),
      filter_none (l := Q.map Rw.pr) (fun r hr => by obtain ⟨y, hy, rfl⟩ := List.mem_map.1 hr; exact strictT.asym (hQ y hy)),
      filter_none (l := P.map Rw.pr) (fun r hr => by obtain ⟨y, hy, rfl⟩ := List.mem_map.1 hr; exact strictT.asym (hP y hy)),
      filter_all (l := Q.map Rw.pr) (fun r hr => by obtain ⟨y, hy, rfl⟩ := List.mem_map.1 hr; exact hQ y hy)]
    have e : Op.bytesLess x.k x.k = false := strictT.irr _
    simp [e, Rw.pr]
  · unfold KAsc
    rw [List.map_append, List.map_cons, List.pairwise_append, List.pairwise_cons]
    refine ⟨h0.1, ⟨h0.2.1.1, h0.2.1.2⟩, fun a ha b hb => ?_⟩
    rcases List.mem_cons.1 hb with rfl | hb
    · exact h0.2.2 a ha x.pr (List.mem_cons_self ..)
    · exact h0.2.2 a ha b (List.mem_cons_of_mem _ hb)
/-- What stands at a key. -/
theorem look_at {P Q : List Rw} {x : Rw} {k : List UInt8} (hasc : KAsc Op.bytesLess ((P ++ x :: Q).map Rw.pr)) (hx : x.k = k) : look ((P ++ x :: Q).map Rw.pr) k = some x.cs :=
  mem_look strictT hasc (by subst hx; exact List.mem_map_of_mem (f := Rw.pr) (List.mem_append_right _ (List.mem_cons_self ..)))
theorem look_no {R : List Rw} {k : List UInt8} (h : ∀ r ∈ R, r.k ≠ k) : look (R.map Rw.pr) k = none :=
  look_none_iff.2 fun r hr => by obtain ⟨x, hx, rfl⟩ := List.mem_map.1 hr; exact h x hx
/-- A row taken out. -/
theorem drop_at {P Q : List Rw} {x : Rw} {k : List UInt8} (hasc : KAsc Op.bytesLess ((P ++ x :: Q).map Rw.pr)) (hx : x.k = k) :
    ((P ++ x :: Q).map Rw.pr).filter (fun r => decide (r.1 ≠ k)) = (P ++ Q).map Rw.pr ∧ KAsc Op.bytesLess ((P ++ Q).map Rw.pr) := by
  subst hx
  unfold KAsc at hasc ⊢
  rw [List.map_append, List.map_cons, List.pairwise_append, List.pairwise_cons] at hasc
  have hne : ∀ {a b : List UInt8}, Op.bytesLess a b = true → a ≠ b := fun h e => by rw [e, strictT.irr] at h; cases h
  refine ⟨?_, ?_⟩
  · rw [List.map_append, List.map_cons, List.filter_append, List.filter_cons, filter_all (l := P.map Rw.pr) (fun r hr => by
      obtain ⟨y, hy, rfl⟩ := List.mem_map.1 hr
      exact decide_eq_true (hne (hasc.2.2 _ (List.mem_map_of_mem hy) x.pr (List.mem_cons_self ..)))), filter_all (l := Q.map Rw.pr) (fun r hr => by
      obtain ⟨y, hy, rfl⟩ := List.mem_map.1 hr
      exact decide_eq_true (Ne.symm (hne (hasc.2.1.1 _ (List.mem_map_of_mem hy)))))]
    have e : decide (x.pr.1 ≠ x.k) = false := by simp [Rw.pr]
    rw [if_neg (by rw [e]; decide), List.map_append]
  · rw [List.map_append, List.pairwise_append]
    exact ⟨hasc.1, hasc.2.1.2, fun a ha b hb => hasc.2.2 a ha b (List.mem_cons_of_mem _ hb)⟩
/-- .. where there is none. -/
theorem drop_no {R : List Rw} {k : List UInt8} (h : ∀ r ∈ R, r.k ≠ k) : (R.map Rw.pr).filter (fun r => decide (r.1 ≠ k)) = R.map Rw.pr :=
  filter_all fun r hr => by obtain ⟨x, hx, rfl⟩ := List.mem_map.1 hr; exact decide_eq_true (h x hx)
end Go.Proofs.Ytbpgfmcnpifmdaa
end

section
namespace Go.Proofs.Ytbpgfmcnpifmdaa
open Go.RowKit Go Go.Sort
set_option linter.unusedVariables false
set_option maxRecDepth 20000

theorem At.congr {α : Type} {sz : Nat} {arr : α → Array Value} {ty : TypeId} {W : World} {g off cap : Nat} {l l' : List α} (h : At sz ty arr W g off cap l) (hl : l'.length = l.length) (hc : lCells arr l' = lCells arr l) : At sz ty arr W g off cap l' := by
  obtain ⟨cur, hg, hs, hcc⟩ := h.blk
  exact ⟨by rw [hl]; exact h.le, h.max, cur, hg, hs, by rw [hc]; exact hcc⟩
section
variable {W W2 : World} {vb : Value} {A C : List Blk} {b b' : Blk}
/-- A block whose rows were turned where they lie. -/
theorem MapB.turn (h : MapB W vb (A ++ b :: C)) (hw : Within b.g b.off (b.off + b.cap * 2) W W2) (hat : At 2 30 Rw.arr W2 b'.g b'.off b'.cap b'.rows) (hg : b'.g = b.g) (ho : b'.off = b.off) (hc : b'.cap = b.cap) (hn : b'.rows.length = b.rows.length)
    (hrow : ∀ r ∈ b'.rows, OwnC W 0 r.u r.cs ∧ r.cs.length ≤ 1000000) : MapB W2 vb (A ++ b' :: C) := by
  obtain ⟨gl, cb, hvb, hl⟩ := h.vb_some
  have hgl : gl < W.heap.size := h.ltv (by rw [hvb]; rfl)
  have hne : ∀ x ∈ A ++ b :: C, x.g ≠ gl := fun x hx e => h.kinds hx (by rw [hvb, e]; rfl)
  have hbg := hne b mem_mid
  have hbp := (h.blk b mem_mid).1
  obtain ⟨hap, hbx⟩ := apart_mid h.apart
  have hval : b'.arr = b.arr := by unfold Blk.arr Blk.val; rw [hg, ho, hc, hn]
  have hlen : (A ++ b' :: C).length = (A ++ b :: C).length := by simp
  refine ⟨.inr ⟨gl, cb, by rw [hvb, hlen], (hl.of_block (hw.rest gl hgl (fun e => hbg e.symm))).congr hlen (by simp [lCells, hval])⟩, fun x hx => ?_, apart_put hap fun x hx => ?_, fun x hx r hr => ?_⟩
  · rcases List.mem_append.1 hx with hx' | hx'
    · exact ⟨(h.blk x (List.mem_append_left _ hx')).1, (h.blk x (List.mem_append_left _ hx')).2.within rw_size hw (by rcases hbx x (List.mem_append_left _ hx') with e | e | e; exact .inl (fun e' => e e'.symm); exact .inr (.inr e); exact .inr (.inl e))⟩
    · rcases List.mem_cons.1 hx' with rfl | hx'
      · exact ⟨by omega, hat⟩
      · have hm : x ∈ A ++ b :: C := List.mem_append_right _ (List.mem_cons_of_mem _ hx')
        exact ⟨(h.blk x hm).1, (h.blk x hm).2.within rw_size hw (by rcases hbx x (List.mem_append_right _ hx') with e | e | e; exact .inl (fun e' => e e'.symm); exact .inr (.inr e); exact .inr (.inl e))⟩
  · have := hbx x hx
    unfold Blk.Apart at this ⊢
    rw [hg, ho, hc]
    exact this
  · have hoo : OwnC W 0 r.u r.cs ∧ r.cs.length ≤ 1000000 := by
      rcases List.mem_append.1 hx with hx' | hx'
      · exact h.row x (List.mem_append_left _ hx') r hr
      · rcases List.mem_cons.1 hx' with rfl | hx'
        · exact hrow r hr
        · exact h.row x (List.mem_append_right _ (List.mem_cons_of_mem _ hx')) r hr
    refine ⟨hoo.1.of_block fun k hk => hw.rest k (hoo.1.lt k hk).2 fun e => ?_, hoo.2⟩
    obtain ⟨cur, hg⟩ := h.bty (b := b) mem_mid
    exact own_not hoo.1 hk (by rw [e]; exact hg) (by decide)
end
/-- A row stored where another one lies. -/
theorem At.put2 {W : World} {g off cap i : Nat} {P Q : List Rw} {x r : Rw} (h : At 2 30 Rw.arr W g off cap (P ++ x :: Q)) (hi : i = P.length) :
    At 2 30 Rw.arr ((W.setCell ⟨g, off + i * 2, none⟩ (.string (text r.k))).setCell ⟨g, off + i * 2 + 1, none⟩ r.u) g off cap (P ++ r :: Q) ∧ Within g off (off + cap * 2) W ((W.setCell ⟨g, off + i * 2, none⟩ (.string (text r.k))).setCell ⟨g, off + i * 2 + 1, none⟩ r.u) := by
  obtain ⟨cur, hg, hs, hcc⟩ := h.blk
  have hle := h.le
  have hl2 := Nat.mul_le_mul_right 2 hle
  have hlen : (P ++ r :: Q).length = (P ++ x :: Q).length := by simp
  have hpl : (P ++ x :: Q).length * 2 = P.length * 2 + 2 + Q.length * 2 := by simp; omega
  have hP := lCells_length (arr := Rw.arr) rw_size P
  have ec : ∀ y : Rw, lCells Rw.arr (P ++ y :: Q) = lCells Rw.arr P ++ (Value.string (text y.k) :: y.u :: lCells Rw.arr Q) := fun y => by simp [lCells, Rw.arr]
  have e2 : ((W.setCell ⟨g, off + i * 2, none⟩ (.string (text r.k))).setCell ⟨g, off + i * 2 + 1, none⟩ r.u) = W.setCells g (off + i * 2) [.string (text r.k), r.u] := rfl
  refine ⟨⟨by rw [hlen]; exact hle, h.max, _, heap_setCell_same _ g _ _ _ _ (heap_setCell_same W g _ _ _ _ hg), by simpa using hs, fun j v hj => ?_⟩, ?_⟩
  · rw [ec] at hj
    rw [Array.getElem?_setIfInBounds, Array.getElem?_setIfInBounds]
    have hjl := (List.getElem?_eq_some_iff.1 hj).1
    by_cases b0 : j < P.length * 2
    · rw [if_neg (by omega), if_neg (by omega)]
      refine hcc j v ?_
      rw [ec]
      rw [List.getElem?_append_left (by omega)] at hj ⊢
      exact hj
    · rw [List.getElem?_append_right (by omega), hP] at hj
      have hold := hcc j
      rw [ec, List.getElem?_append_right (by omega), hP] at hold
      obtain ⟨t, ht⟩ : ∃ t, j - P.length * 2 = t := ⟨_, rfl⟩
      rw [ht] at hj hold
      match t, ht, hj, hold with
      | 0, ht, hj, _ =>
        rw [if_neg (by omega), if_pos (by omega), if_pos (by omega)]
        simpa using hj
      | 1, ht, hj, _ =>
        rw [if_pos (by omega), if_pos (by simp; omega)]
        simpa using hj
      | t + 2, ht, hj, hold =>
        rw [if_neg (by omega), if_neg (by omega)]
        exact hold v hj
  · rw [e2]
    exact Within.set g _ _ _ _ _ (by omega) (by subst hi; show off + P.length * 2 + 2 ≤ _; omega)
/-- What Set, and Drop, leave. -/
def MDone (q : Nat) (vb : Value) (BS : List Blk) (R : List Rp) (w w' : World) : Prop :=
  ∃ vb' BS', MapIn w' q vb' BS' ∧ (rowsOf BS').map Rw.pr = R ∧ Turn (foot q vb BS) w w' ∧ (∀ k, foot q vb' BS' k → foot q vb BS k ∨ w.heap.size ≤ k) ∧ (∀ k, cellB BS' k → cellB BS k ∨ w.heap.size ≤ k)
theorem cellB_iff {BS : List Blk} {k : Nat} : cellB BS k ↔ ∃ r ∈ rowsOf BS, r.u.ownBlock = some k := by
  constructor
  · rintro ⟨b, hb, r, hr, h⟩
    exact ⟨r, List.mem_flatMap.2 ⟨b, hb, hr⟩, h⟩
  · rintro ⟨r, hr, h⟩
    obtain ⟨b, hb, hr⟩ := List.mem_flatMap.1 hr
    exact ⟨b, hb, r, hr, h⟩
/-- From what insert leaves. -/
theorem MPost.done {q : Nat} {vb : Value} {BS : List Blk} {R : List Rw} {RP : List Rp} {w w1 w' : World} (h : MPost q vb BS R w1 w') (hb : Below w.heap.size w w1) (hasc : KAsc Op.bytesLess (R.map Rw.pr)) (hR : R.map Rw.pr = RP) (hc : ∀ r ∈ R, (∃ x ∈ rowsOf BS, x.u = r.u) ∨ ∀ k, r.u.ownBlock = some k → w.heap.size ≤ k) : MDone q vb BS RP w w' := by
  obtain ⟨vb', BS', h1, h2, rfl, h4, h5⟩ := h
  refine ⟨vb', BS', ⟨h1, h2, hasc⟩, hR, (Turn.of_below hb).trans h4, fun k hk => ?_, fun k hk => ?_⟩
  · rcases hk with rfl | hk | hk
    · exact .inl (.inl rfl)
    · exact (h5 k (.inl hk)).imp id (fun h => Nat.le_trans hb.size h)
    · exact (h5 k (.inr hk)).imp id (fun h => Nat.le_trans hb.size h)
  · obtain ⟨r, hr, hrk⟩ := cellB_iff.1 hk
    rcases hc r hr with ⟨x, hx, e⟩ | h
    · exact .inl (cellB_iff.2 ⟨x, hx, by rw [e]; exact hrk⟩)
    · exact .inr (h k hrk)
end Go.Proofs.Ytbpgfmcnpifmdaa
end

section
namespace Go.Proofs.Ytbpgfmcnpifmdaa
open Go.RowKit Go Go.Sort
set_option linter.unusedVariables false
set_option maxRecDepth 20000

theorem MapB.cell_at {W : World} {gl nb cb : Nat} {A C : List Blk} {b : Blk} (h : MapB W (.slice (some ⟨gl, 0, none⟩) nb cb) (A ++ b :: C)) : nb = (A ++ b :: C).length ∧ nb ≤ cb ∧ cb ≤ 9223372036854775807 ∧ W.cell? ⟨gl, A.length, none⟩ = some b.val := by
  obtain ⟨gl8, cb8, e8, hl8⟩ := h.vb_some
  injection e8 with e81 e82 e83
  injection e81 with e81
  injection e81 with e81
  subst e81 e83
  refine ⟨e82, by rw [e82]; exact hl8.le, hl8.max, ?_⟩
  have := hl8.ls (z := Blk.zero) blk_size
  obtain ⟨b8, o8, e8, hc8⟩ := this.at (k := A.length) (by simp)
  injection e8 with e8
  injection e8 with e81 e82
  subst e81 e82
  have h8 := hc8 W (Below.refl _ _) 0 b.val (by
    rw [List.getD_eq_getElem?_getD, List.getElem?_append_right (Nat.le_refl _), Nat.sub_self]
    simp [Blk.arr])
  simpa using h8
set_option maxRecDepth 100000 in
theorem mset_nil {w : World} (v : Value) (hv : ∃ k u, v = .agg #[.string k, u]) : Calls Try.prog 17 #[.pointer none, v] w (fun e w' => e = .returned (.int .i64 1) ∧ Below w.heap.size w w') := by
  obtain ⟨k, u, rfl⟩ := hv
  have HB := Lib.hid (alloc_below w (.cells #[.string k, u] 30))
  go_enter Try.func17, Try.ntmps17
  go_wp2_with (go_at_call 60; (with_reducible refine (smade_nil _).mono ?_); rintro e9 w9 ⟨rfl, rfl⟩)
  go_ret
  exact ⟨rfl, HB.out⟩
set_option maxRecDepth 100000 in
theorem mset_un {w : World} {q : Nat} (hq : w.cell? ⟨q, 0, none⟩ = some (.bool false)) (v : Value) (hv : ∃ k u, v = .agg #[.string k, u]) : Calls Try.prog 17 #[.pointer (some ⟨q, 0, none⟩), v] w (fun e w' => e = .returned (.int .i64 1) ∧ Below w.heap.size w w') := by
  obtain ⟨k, u, rfl⟩ := hv
  have hql : q < w.heap.size := World.block_lt_of_cell? w ⟨q, 0, none⟩ hq
  have hb := alloc_below w (.cells #[.string k, u] 30)
  have hq2 := (hb.cell (p := ⟨q, 0, none⟩) hql).trans hq
  have HB := Lib.hid hb
  clear hb hq
  go_enter Try.func17, Try.ntmps17
  go_wp2_with (go_at_call 60; (with_reducible refine (smade_c hq2).mono ?_); rintro e9 w9 ⟨rfl, rfl⟩)
  go_ret
  exact ⟨rfl, HB.out⟩
theorem all_above {Q : List Rw} {kk : List UInt8} (hasc : KAsc Op.bytesLess (Q.map Rw.pr)) (hn : ∀ r ∈ Q, Op.bytesLess r.k kk = false) (h0 : ∀ y Q', Q = y :: Q' → y.k ≠ kk) : ∀ r ∈ Q, Op.bytesLess kk r.k = true := by
  cases Q with
  | nil => exact fun r hr => (nomatch hr)
  | cons y Q =>
    have hy : Op.bytesLess kk y.k = true := by
      cases h : Op.bytesLess kk y.k with
      | true => rfl
      | false => exact absurd (strictT.tot _ _ (hn y (List.mem_cons_self ..)) h) (h0 y Q rfl)
    intro r hr
    rcases List.mem_cons.1 hr with rfl | hr
    · exact hy
    · unfold KAsc at hasc
      rw [List.map_cons, List.pairwise_cons] at hasc
      exact strictT.tr _ _ _ hy (hasc.1 r.pr (List.mem_map_of_mem hr))
theorem mdone_old {w W W2 : World} {q g off c' c9 : Nat} {vb : Value} {A C : List Blk} {P Q : List Rw} {x : Rw} {kk : List UInt8} {a9 : Option Addr} {cs : List Cl} (h : MapIn W q vb (A ++ (⟨g, off, c', P ++ x :: Q⟩ : Blk) :: C)) (ho : OwnC W w.heap.size (.slice a9 cs.length c9) cs) (hcz : cs.length ≤ 1000000)
    (hput : At 2 30 Rw.arr W2 g off c' (P ++ (⟨kk, .slice a9 cs.length c9, cs⟩ : Rw) :: Q) ∧ Within g off (off + c' * 2) W W2) (hb : Below w.heap.size w W) (hx : x.k = kk) :
    MDone q vb (A ++ (⟨g, off, c', P ++ x :: Q⟩ : Blk) :: C) (setR Op.bytesLess Prod.fst ([], []) (kk, cs) ((rowsOf (A ++ (⟨g, off, c', P ++ x :: Q⟩ : Blk) :: C)).map Rw.pr)) w W2 := by
  have hk := h.kinds
  have hbq : (⟨g, off, c', P ++ x :: Q⟩ : Blk).g ≠ q := (hk.1 _ mem_mid).1
  have hro : ∀ y : Rw, rowsOf (A ++ (⟨g, off, c', P ++ y :: Q⟩ : Blk) :: C) = (rowsOf A ++ P) ++ y :: (Q ++ rowsOf C) := fun y => by
    rw [rowsOf_append, rowsOf_cons]
    show rowsOf A ++ ((P ++ y :: Q) ++ rowsOf C) = _
    simp
  have hasc := h.asc
  rw [hro] at hasc
  have hso := set_old (u := .slice a9 cs.length c9) (cs := cs) hasc hx
  rw [← hro, ← hro] at hso
  have hql : q < W.heap.size := h.lt (.inl (.inl rfl))
  have hbody := h.body.turn (b' := ⟨g, off, c', P ++ (⟨kk, .slice a9 cs.length c9, cs⟩ : Rw) :: Q⟩) hput.2 hput.1 rfl rfl rfl (by simp) (fun r hr => by
    rcases List.mem_append.1 hr with hr | hr
    · exact h.body.row _ mem_mid r (List.mem_append_left _ hr)
    · rcases List.mem_cons.1 hr with rfl | hr
      · exact ⟨ho.mono (Nat.zero_le _), hcz⟩
      · exact h.body.row _ mem_mid r (List.mem_append_right _ (List.mem_cons_of_mem _ hr)))
  have hlen : (rowsOf (A ++ (⟨g, off, c', P ++ (⟨kk, .slice a9 cs.length c9, cs⟩ : Rw) :: Q⟩ : Blk) :: C)).length = (rowsOf (A ++ (⟨g, off, c', P ++ x :: Q⟩ : Blk) :: C)).length := by rw [hro, hro]; simp
  refine ⟨vb, _, ⟨?_, hbody, hso.2⟩, hso.1.symm, (Turn.of_below hb).trans ((Turn.of_within hput.2).mono fun k hk _ => ?_), fun k hk => ?_, fun k hk => ?_⟩
  · rw [hlen]
    exact (hput.2.rest q hql (fun e => hbq e.symm)).trans h.head
  · subst hk
    exact .inr (.inr ⟨_, mem_mid, rfl⟩)
  · rcases hk with rfl | hk | ⟨y, hy, rfl⟩
    · exact .inl (.inl rfl)
    · exact .inl (.inr (.inl hk))
    · rcases List.mem_append.1 hy with hy | hy
      · exact .inl (.inr (.inr ⟨y, List.mem_append_left _ hy, rfl⟩))
      · rcases List.mem_cons.1 hy with rfl | hy
        · exact .inl (.inr (.inr ⟨_, mem_mid, rfl⟩))
        · exact .inl (.inr (.inr ⟨y, List.mem_append_right _ (List.mem_cons_of_mem _ hy), rfl⟩))
  · obtain ⟨r, hr, hrk⟩ := cellB_iff.1 hk
    rw [hro] at hr
    rcases List.mem_append.1 hr with hr | hr
    · exact .inl (cellB_iff.2 ⟨r, by rw [hro]; exact List.mem_append_left _ hr, hrk⟩)
    · rcases List.mem_cons.1 hr with rfl | hr
      · exact .inr (ho.lt k hrk).1
      · exact .inl (cellB_iff.2 ⟨r, by rw [hro]; exact List.mem_append_right _ (List.mem_cons_of_mem _ hr), hrk⟩)
set_option maxRecDepth 100000 in
set_option maxHeartbeats 12800000 in
theorem mset_c {w : World} {q mx cap : Nat} {vb : Value} {BS : List Blk} {x0 : Option Addr} {kk : List UInt8} {cs : List Cl} (h : MapIn w q vb BS) (hf : (rowsOf BS).length ≤ 900000) (hl : Cls w x0 mx cap cs) (hm : mx ≤ 1000000) (hk : kk ≠ []) :
    Calls Try.prog 17 #[.pointer (some ⟨q, 0, none⟩), .agg #[.string (text kk), .slice x0 mx cap]] w (fun e w' => e = .returned (.int .i64 0) ∧ MDone q vb BS (setR Op.bytesLess Prod.fst ([], []) (kk, cs) ((rowsOf BS).map Rw.pr)) w w') := by
  have HZ := Lib.hid (show cs.length ≤ 1000000 by have := hl.len; omega)
  have hb0 := alloc_below w (.cells #[.string (text kk), .slice x0 mx cap] 30)
  have hrw := heap_alloc_new w (.cells #[.string (text kk), .slice x0 mx cap] 30)
  have hmi := h.below hb0
  have hne : (text kk).toList.isEmpty = false := by
    rw [text_toList]
    cases kk with
    | nil => exact absurd rfl hk
    | cons _ _ => rfl
  have HMF := Lib.hid (mfound_c hmi (by omega) kk)
  obtain ⟨c0, -, -, -⟩ := map_cells hmi.head
  obtain ⟨r0, r1, -⟩ := row_cells hrw
  have HMI0 := Lib.hid hmi
  have HRW0 := Lib.hid hrw
  have HBW0 := Lib.hid hb0
  have HL := Lib.hid hl
  have HF := Lib.hid hf
  have HTK := Lib.hid (rfl : text kk = text kk)
  have HNIL := Lib.hid hmi.body.list
  clear h hl hb0 hrw hmi hf
  go_enter Try.func17, Try.ntmps17
  go_upto_region 6 with (first
    | (go_at_call 60; (with_reducible refine (smade_c c0).mono ?_); rintro e9 w9 ⟨rfl, rfl⟩)
    | (go_at_call 61; (with_reducible refine HMF.out.mono ?_); rintro e2 w2 ⟨at', i, is, rfl, hb2, hfd⟩))
  have HMI := Lib.hid (HMI0.out.below hb2)
  have HBW := Lib.hid (HBW0.out.trans (hb2.mono HBW0.out.size))
  have HRW := Lib.hid (fun W (h : Below w2.heap.size w2 W) => row_cells (heap_below HRW0.out (hb2.trans (h.mono hb2.size))))
  clear hb2 c0 r0 r1 HMF HMI0 HRW0 HBW0
  clear hne
  rcases hfd with ⟨hat, rfl, rfl, hall⟩ | ⟨A, b, C, hbs, hat, hin, hlo, hhi, his⟩
  · rcases List.eq_nil_or_concat BS with hbs | ⟨A, b, hbs⟩
    · subst hbs
      obtain rfl : at' = 0 := hat
      have hvb : ∃ ab cb, vb = .slice ab 0 cb := by
        rcases HNIL.out with ⟨e, -⟩ | ⟨gl, cb, e, -⟩
        · exact ⟨_, _, e⟩
        · exact ⟨_, _, e⟩
      obtain ⟨ab, cb, rfl⟩ := hvb
      obtain ⟨r0, r1, -⟩ := HRW.out w2 (Below.refl _ _)
      go_wp2_with (first
        | (go_at_call 62; (with_reducible refine (scopied_c (HL.out.below HBW.out) hm (text kk)).mono ?_); rintro e9 w9 ⟨v9, rfl, ho9, hb9⟩; obtain ⟨a9, c9, ev9, -⟩ := ho9.cls; subst ev9; have HO9 := Lib.hid ho9; have HB9 := Lib.hid (HBW.out.trans (hb9.mono HBW.out.size)); have HH9 := Lib.hid (show HeadAt w9 q 0 (.slice ab 0 cb) from (HMI.out.below hb9).head); clear ho9 hb9)
        | (go_at_call 63; (with_reducible refine (minsert0_c (k := kk) HH9.out (HO9.out.mono (Nat.zero_le _)) HZ.out _ _).mono ?_); rintro e8 w8 ⟨rfl, hp8⟩))
      go_ret
      refine ⟨rfl, hp8.done HB9.out (List.pairwise_singleton _ _) ?_ (fun r hr => ?_)⟩
      · rw [show (rowsOf ([] : List Blk)).map Rw.pr = [] from rfl, setR_eq strictT Prod.fst _ _ _ List.Pairwise.nil]
        rfl
      · rw [List.mem_singleton] at hr
        subst hr
        exact .inr fun k hk => Nat.le_trans HBW.out.size (HO9.out.lt k hk).1
    · have hbs : BS = A ++ [b] := by rw [hbs, List.concat_eq_append]
      subst hbs
      obtain ⟨g, off, c', l⟩ := b
      obtain ⟨gl, cb, hvb, -⟩ := HMI.out.body.vb_some
      obtain ⟨nb, hnb⟩ : ∃ z, (A ++ [(⟨g, off, c', l⟩ : Blk)]).length = z := ⟨_, rfl⟩
      rw [hnb] at hvb hat
      subst hvb
      obtain rfl : at' = nb := hat
      have HNB := Lib.hid hnb
      have HALL := Lib.hid hall
      clear hnb hall
      obtain ⟨r0, r1, -⟩ := HRW.out w2 (Below.refl _ _)
      go_wp2_with (first
        | (go_at_call 62; (with_reducible refine (scopied_c (HL.out.below HBW.out) hm (text kk)).mono ?_); rintro e9 w9 ⟨v9, rfl, ho9, hb9⟩; obtain ⟨a9, c9, ev9, -⟩ := ho9.cls; subst ev9; have HO9 := Lib.hid ho9; have HB9 := Lib.hid (HBW.out.trans (hb9.mono HBW.out.size)); have HM9 := Lib.hid (HMI.out.below hb9); clear ho9 hb9)
        | (go_at_call 63; (with_reducible refine (minsert_c (k := kk) (i := l.length) (al := A.length) HM9.out.head HM9.out.body HNB.out.symm rfl rfl (by have := HF.out; omega) (HO9.out.mono (Nat.zero_le _)) HZ.out (Nat.le_refl _) (.inr ⟨rfl, rfl, rfl⟩)).mono ?_); rintro e8 w8 ⟨rfl, hp8⟩))
      go_ret
      have hsn := set_new (P := rowsOf (A ++ [(⟨g, off, c', l⟩ : Blk)])) (Q := []) (k := kk) (u := .slice a9 cs.length c9) (cs := cs) (by rw [List.append_nil]; exact HMI.out.asc) HALL.out (fun r hr => (nomatch hr))
      rw [List.append_nil, List.append_nil] at hsn
      have he : rowsOf A ++ (l.take l.length ++ [(⟨kk, .slice a9 cs.length c9, cs⟩ : Rw)] ++ l.drop l.length ++ rowsOf []) = rowsOf (A ++ [(⟨g, off, c', l⟩ : Blk)]) ++ [⟨kk, .slice a9 cs.length c9, cs⟩] := by
        rw [rowsOf_append, rowsOf_cons, List.take_length, List.drop_length]
        simp [rowsOf]
      rw [he] at hp8
      refine ⟨rfl, hp8.done HB9.out hsn.2 hsn.1.symm (fun r hr => ?_)⟩
      rcases List.mem_append.1 hr with hr | hr
      · exact .inl ⟨r, hr, rfl⟩
      · rw [List.mem_singleton] at hr
        subst hr
        exact .inr fun k hk => Nat.le_trans HBW.out.size (HO9.out.lt k hk).1
  · subst hbs
    obtain ⟨g, off, c', l⟩ := b
    replace hin : i < l.length := hin
    obtain ⟨gl, cb, hvb, -⟩ := HMI.out.body.vb_some
    obtain ⟨nb, hnb⟩ : ∃ z, (A ++ (⟨g, off, c', l⟩ : Blk) :: C).length = z := ⟨_, rfl⟩
    rw [hnb] at hvb
    subst hvb
    subst hat
    replace hlo : ∀ r ∈ rowsOf A ++ l.take i, Op.bytesLess r.k kk = true := hlo
    replace hhi : ∀ r ∈ l.drop i ++ rowsOf C, Op.bytesLess r.k kk = false := hhi
    replace his : is = ((l.getD i Rw.zero).k == kk) := his
    have hsp : l = l.take i ++ l.getD i Rw.zero :: l.drop (i + 1) := by rw [← drop_first hin, List.take_append_drop]
    have hpq : rowsOf (A ++ (⟨g, off, c', l⟩ : Blk) :: C) = (rowsOf A ++ l.take i) ++ (l.drop i ++ rowsOf C) := by
      rw [rowsOf_append, rowsOf_cons]
      show rowsOf A ++ (l ++ rowsOf C) = _
      rw [List.append_assoc (rowsOf A), ← List.append_assoc (l.take i) (l.drop i), List.take_append_drop]
    have HNB := Lib.hid hnb
    obtain ⟨r0, r1, -⟩ := HRW.out w2 (Below.refl _ _)
    by_cases hx : (l.getD i Rw.zero).k = kk
    · obtain rfl : is = true := by rw [his]; simpa using hx
      obtain ⟨x, hxx⟩ : ∃ z, l.getD i Rw.zero = z := ⟨_, rfl⟩
      rw [hxx] at hsp hx
      obtain ⟨P, hP⟩ : ∃ z, l.take i = z := ⟨_, rfl⟩
      obtain ⟨Q, hQ⟩ : ∃ z, l.drop (i + 1) = z := ⟨_, rfl⟩
      have hpl : i = P.length := by rw [← hP, List.length_take]; omega
      rw [hP, hQ] at hsp
      clear hxx hP hQ hlo hhi his hpq r0 r1
      subst hsp
      obtain ⟨hnb2, hncb, hcmax, hcc⟩ := HMI.out.body.cell_at
      obtain ⟨m, hmm⟩ : ∃ z, (P ++ x :: Q).length = z := ⟨_, rfl⟩
      obtain ⟨al, hal⟩ : ∃ z, A.length = z := ⟨_, rfl⟩
      have hbmem := (HMI.out.body.blk _ mem_mid).2
      have hbat : At 2 30 Rw.arr w2 g off c' (P ++ x :: Q) := hbmem
      have hcl := hbat.le
      have hcm := hbat.max
      rw [hmm] at hin hcl
      have hvl : (⟨g, off, c', P ++ x :: Q⟩ : Blk).val = .slice (some ⟨g, off, none⟩) m c' := by simp only [Blk.val, hmm]
      rw [hvl, hal] at hcc
      have hall : al < nb := by rw [← hal, ← hnb]; simp
      have halb : (al : Int) < (nb : Int) := by omega
      have halc : (al : Int) < (cb : Int) := by omega
      have himi : (i : Int) < (m : Int) := by omega
      have himc : (i : Int) < (c' : Int) := by omega
      have hgll : gl < w2.heap.size := World.block_lt_of_cell? w2 ⟨gl, al, none⟩ hcc
      have HC := Lib.hid (fun W (h : Below w2.heap.size w2 W) => (h.cell (p := ⟨gl, al, none⟩) hgll).trans hcc)
      have HM := Lib.hid (fun W (h : Below w2.heap.size w2 W) => map_cells (heap_below HMI.out.head h))
      have HRO := Lib.hid (fun W (h : Below w2.heap.size w2 W) => (show W.cell? ⟨g, off + i * 2, none⟩ = some (.string (text x.k)) ∧ W.cell? ⟨g, off + i * 2 + 1, none⟩ = some x.u from by
        have h1 := (hbat.below h).ls (z := Rw.zero) rw_size
        obtain ⟨b8, o8, e8, hc8⟩ := h1.at (k := i) (by rw [hmm]; exact hin)
        injection e8 with e8
        injection e8 with e81 e82
        subst e81 e82
        have e9 : (P ++ x :: Q).getD i Rw.zero = x := by rw [hpl, List.getD_eq_getElem?_getD, List.getElem?_append_right (Nat.le_refl _), Nat.sub_self]; rfl
        exact ⟨hc8 W (Below.refl _ _) 0 _ (by rw [e9]; rfl), hc8 W (Below.refl _ _) 1 _ (by rw [e9]; rfl)⟩))
      have HPL := Lib.hid hpl
      obtain ⟨tk, htk⟩ : ∃ z, text kk = z := ⟨_, rfl⟩
      have HTK := Lib.hid htk
      have HFIN := Lib.hid (fun (W W2 : World) (a9 : Option Addr) (c9 : Nat) (h1 : MapIn W q (.slice (some ⟨gl, 0, none⟩) nb cb) (A ++ (⟨g, off, c', P ++ x :: Q⟩ : Blk) :: C)) (h2 : OwnC W w.heap.size (.slice a9 cs.length c9) cs) (h3 : At 2 30 Rw.arr W2 g off c' (P ++ (⟨kk, .slice a9 cs.length c9, cs⟩ : Rw) :: Q) ∧ Within g off (off + c' * 2) W W2) (h4 : Below w.heap.size w W) => mdone_old h1 h2 HZ.out h3 h4 hx)
      simp only [htk, hal]
      rw [htk] at HRW
      clear hbmem hbat hvl hgll hcc htk hmm hx hpl hall hnb hal hnb2
      go_upto_region 7 with (fail)
      refine wp_region_flow_tail 11 [none, none, none, none, none, none, none, none, none, none, none, none, none, none, none, none, none, none, none, none, none, none, none, none, none, some 0, some 1, some 2, some 3, some 4, some 5, some 6, some 7, some 8, some 9, some 10, none, none, none, none, none, none] (fun i => [undef, undef, undef, undef, undef, undef, undef, undef, undef, undef, undef].getD i undef) [(fun v _ => v = .pointer (some ⟨q, 0, none⟩)), (fun v _ => v = .pointer (some ⟨q, 0, none⟩)), (fun v _ => v = .pointer (some ⟨q, 2, none⟩)), (fun v _ => v = .slice (some ⟨gl, 0, none⟩) nb cb), (fun v _ => v = .int .i64 (al : Int)), (fun v _ => v = .pointer (some ⟨gl, al, none⟩)), (fun v _ => v = .slice (some ⟨g, off, none⟩) m c'), (fun v _ => v = .int .i64 (i : Int)), (fun v _ => v = .agg #[.string tk, .slice x0 mx cap]), (RowV w.heap.size tk cs), (fun v _ => v = .pointer (some ⟨g, off + i * 2, none⟩))] (fun _ => False) (by kernel_rfl) (by kernel_rfl) (by kernel_rfl) rfl rfl rfl ?_ ?_ ?_
      · intro g hg v X Y hX hY hv
        simp only [List.mem_cons, List.not_mem_nil, or_false] at hg
        rcases hg with rfl | rfl | rfl | rfl | rfl | rfl | rfl | rfl | rfl | rfl | rfl
        all_goals first
          | exact hv
          | (obtain ⟨a9, c9, e9, ho9⟩ := hv; exact ⟨a9, c9, e9, ho9.kept hY⟩)
      · simp only [flowOpsF, List.take_succ_cons, List.take_zero, and_true]
        refine ⟨?_, ?_, ?_, ?_, ?_, ?_, ?_, ?_, ?_, ?_, ?_⟩
        · intro xs W hW hn
          simp only [flowAct, List.zipWith_cons_cons, List.zipWith_nil_left]
          go_wp2_with (fail)
          exact ⟨rfl, _, rfl, Below.refl _ _, rfl, fun h => h.elim⟩
        · intro xs W hW hn
          simp [flowNeeds, Region.binds] at hn
          simp only [flowAct, List.zipWith_cons_cons, List.zipWith_nil_left]
          try simp only [hn]
          go_wp2_with (fail)
          exact ⟨rfl, _, rfl, Below.refl _ _, rfl, fun h => h.elim⟩
        · intro xs W hW hn
          simp [flowNeeds, Region.binds] at hn
          simp only [flowAct, List.zipWith_cons_cons, List.zipWith_nil_left]
          try simp only [hn]
          go_wp2_with (fail)
          exact ⟨rfl, _, rfl, Below.refl _ _, rfl, fun h => h.elim⟩
        · intro xs W hW hn
          obtain ⟨m0, m1, m2, mf⟩ := HM.out W hW
          simp [flowNeeds, Region.binds] at hn
          simp only [flowAct, List.zipWith_cons_cons, List.zipWith_nil_left]
          try simp only [hn]
          go_wp2_with (fail)
          exact ⟨rfl, _, rfl, Below.refl _ _, rfl, fun h => h.elim⟩
        · intro xs W hW hn
          simp only [flowAct, List.zipWith_cons_cons, List.zipWith_nil_left]
          go_wp2_with (fail)
          exact ⟨rfl, _, rfl, Below.refl _ _, rfl, fun h => h.elim⟩
        · intro xs W hW hn
          simp [flowNeeds, Region.binds] at hn
          simp only [flowAct, List.zipWith_cons_cons, List.zipWith_nil_left]
          try simp only [hn]
          go_wp2_with (fail)
          exact ⟨rfl, _, rfl, Below.refl _ _, rfl, fun h => h.elim⟩
        · intro xs W hW hn
          have c0 := HC.out W hW
          simp [flowNeeds, Region.binds] at hn
          simp only [flowAct, List.zipWith_cons_cons, List.zipWith_nil_left]
          try simp only [hn]
          go_wp2_with (fail)
          exact ⟨rfl, _, rfl, Below.refl _ _, rfl, fun h => h.elim⟩
        · intro xs W hW hn
          simp only [flowAct, List.zipWith_cons_cons, List.zipWith_nil_left]
          go_wp2_with (fail)
          exact ⟨rfl, _, rfl, Below.refl _ _, rfl, fun h => h.elim⟩
        · intro xs W hW hn
          obtain ⟨r0, r1, -⟩ := HRW.out W hW
          simp only [flowAct, List.zipWith_cons_cons, List.zipWith_nil_left]
          go_wp2_with (fail)
          exact ⟨rfl, _, rfl, Below.refl _ _, rfl, fun h => h.elim⟩
        · intro xs W hW hn
          simp [flowNeeds, Region.binds] at hn
          simp only [flowAct, List.zipWith_cons_cons, List.zipWith_nil_left]
          try simp only [hn]
          go_wp2_with (go_at_call 62; (with_reducible refine (scopied_c (HL.out.below (HBW.out.trans (hW.mono HBW.out.size))) hm tk).mono ?_); rintro e9 w9 ⟨v9, rfl, ho9, hb9⟩; obtain ⟨a9, c9, ev9, -⟩ := ho9.cls; subst ev9)
          exact ⟨rfl, _, rfl, hb9, ⟨a9, c9, rfl, ho9.mono (by have := HBW.out.size; have := hW.size; omega)⟩, fun h => h.elim⟩
        · intro xs W hW hn
          simp [flowNeeds, Region.binds] at hn
          simp only [flowAct, List.zipWith_cons_cons, List.zipWith_nil_left]
          try simp only [hn]
          go_wp2_with (fail)
          exact ⟨rfl, _, rfl, Below.refl _ _, rfl, fun h => h.elim⟩
      · intro xs W hW hall hfr
        clear hfr
        simp only [flowAll, and_true, Nat.zero_add, Nat.reduceAdd] at hall
        obtain ⟨-, -, -, -, -, -, -, -, -, ⟨a9, c9, h9, ho9⟩, h10⟩ := hall
        simp only [flowAct, List.zipWith_cons_cons, List.zipWith_nil_left, List.drop_succ_cons, List.drop_zero]
        simp only [h9, h10]
        clear h9 h10
        have HO9 := Lib.hid ho9
        have hat := (HMI.out.below hW).body.blk _ mem_mid |>.2
        have hat2 : At 2 30 Rw.arr W g off c' (P ++ x :: Q) := hat
        have hput := hat2.put2 (r := ⟨kk, .slice a9 cs.length c9, cs⟩) HPL.out
        rw [HTK.out] at hput
        have HPUT := Lib.hid hput
        obtain ⟨s0, s1⟩ := HRO.out W hW
        have hfz : ∀ j, W.frozen? ⟨g, j, none⟩ = false := fun j => hat2.fz j
        have HB9 := Lib.hid (HBW.out.trans (hW.mono HBW.out.size))
        have HMW := Lib.hid (HMI.out.below hW)
        clear hat hat2 hput ho9 hW
        go_wp2
        go_ret
        refine ⟨rfl, HFIN.out W _ a9 c9 HMW.out HO9.out HPUT.out HB9.out⟩

    · obtain rfl : is = false := by rw [his]; simpa using hx
      have hasc := HMI.out.asc
      rw [hpq] at hasc
      have hQ := all_above (asc_part hasc).2 hhi (fun y Q' e => by
        rw [drop_first hin, List.cons_append] at e
        injection e with e1 _
        rw [← e1]; exact hx)
      have HSN := Lib.hid (fun u => set_new (u := u) (cs := cs) hasc hlo hQ)
      have HPQ := Lib.hid hpq
      clear hasc hQ hlo hhi his hsp hpq hnb
      have hil : i ≤ l.length := by omega
      clear hin hx
      go_wp2_with (first
        | (go_at_call 62; (with_reducible refine (scopied_c (HL.out.below HBW.out) hm (text kk)).mono ?_); rintro e9 w9 ⟨v9, rfl, ho9, hb9⟩; obtain ⟨a9, c9, ev9, -⟩ := ho9.cls; subst ev9; have HO9 := Lib.hid ho9; have HB9 := Lib.hid (HBW.out.trans (hb9.mono HBW.out.size)); have HM9 := Lib.hid (HMI.out.below hb9); clear ho9 hb9)
        | (go_at_call 63; (with_reducible refine (minsert_c (k := kk) (i := i) (al := A.length) HM9.out.head HM9.out.body HNB.out.symm rfl rfl (by have := HF.out; omega) (HO9.out.mono (Nat.zero_le _)) HZ.out hil (.inl ⟨rfl, rfl⟩)).mono ?_); rintro e8 w8 ⟨rfl, hp8⟩))
      go_ret
      have hsn := HSN.out (.slice a9 cs.length c9)
      have he : rowsOf A ++ (l.take i ++ [(⟨kk, .slice a9 cs.length c9, cs⟩ : Rw)] ++ l.drop i ++ rowsOf C) = rowsOf A ++ l.take i ++ [(⟨kk, .slice a9 cs.length c9, cs⟩ : Rw)] ++ (l.drop i ++ rowsOf C) := by simp
      rw [he] at hp8
      rw [← HPQ.out] at hsn
      refine ⟨rfl, hp8.done HB9.out hsn.2 hsn.1.symm (fun r hr => ?_)⟩
      rw [HPQ.out]
      rcases List.mem_append.1 hr with hr | hr
      · rcases List.mem_append.1 hr with hr | hr
        · exact .inl ⟨r, List.mem_append_left _ hr, rfl⟩
        · rw [List.mem_singleton] at hr
          subst hr
          exact .inr fun k hk => Nat.le_trans HBW.out.size (HO9.out.lt k hk).1
      · exact .inl ⟨r, List.mem_append_right _ hr, rfl⟩
end Go.Proofs.Ytbpgfmcnpifmdaa
end

section
namespace Go.Proofs.Ytbpgfmcnpifmdaa
open Go.RowKit Go Go.Sort
set_option linter.unusedVariables false
set_option maxRecDepth 20000

theorem At.row_at {W : World} {g off cap i : Nat} {l : List Rw} (h : At 2 30 Rw.arr W g off cap l) (hi : i < l.length) : W.cell? ⟨g, off + i * 2, none⟩ = some (.string (text (l.getD i Rw.zero).k)) ∧ W.cell? ⟨g, off + i * 2 + 1, none⟩ = some (l.getD i Rw.zero).u := by
  have h1 := h.ls (z := Rw.zero) rw_size
  obtain ⟨b8, o8, e8, hc8⟩ := h1.at (k := i) hi
  injection e8 with e8
  injection e8 with e81 e82
  subst e81 e82
  exact ⟨hc8 W (Below.refl _ _) 0 _ rfl, hc8 W (Below.refl _ _) 1 _ rfl⟩
set_option maxRecDepth 100000 in
theorem mlen_nil {w : World} : Calls Try.prog 28 #[.pointer none] w (fun e w' => e = .returned (.int .i64 0) ∧ w' = w) := by
  go_enter Try.func28, Try.ntmps28
  go_wp2_with (go_at_call 60; (with_reducible refine (smade_nil _).mono ?_); rintro e9 w9 ⟨rfl, rfl⟩)
  go_ret
  exact ⟨rfl, rfl⟩
set_option maxRecDepth 100000 in
theorem mlen_un {w : World} {q : Nat} (hq : w.cell? ⟨q, 0, none⟩ = some (.bool false)) : Calls Try.prog 28 #[.pointer (some ⟨q, 0, none⟩)] w (fun e w' => e = .returned (.int .i64 0) ∧ w' = w) := by
  go_enter Try.func28, Try.ntmps28
  go_wp2_with (go_at_call 60; (with_reducible refine (smade_c hq).mono ?_); rintro e9 w9 ⟨rfl, rfl⟩)
  go_ret
  exact ⟨rfl, rfl⟩
set_option maxRecDepth 100000 in
theorem mlen_c {w : World} {q n : Nat} {vb : Value} (hh : HeadAt w q n vb) : Calls Try.prog 28 #[.pointer (some ⟨q, 0, none⟩)] w (fun e w' => e = .returned (.int .i64 (n : Int)) ∧ w' = w) := by
  obtain ⟨m0, m1, m2, mf⟩ := map_cells hh
  clear hh
  go_enter Try.func28, Try.ntmps28
  go_wp2_with (go_at_call 60; (with_reducible refine (smade_c m0).mono ?_); rintro e9 w9 ⟨rfl, rfl⟩)
  go_ret
  exact ⟨rfl, rfl⟩
/-- What Get tells where there is nothing. -/
def NoRow (w : World) (e : Ending) (w' : World) : Prop := e = .returned (.tuple #[.agg #[.string ⟨#[]⟩, .slice none 0 0], .bool false]) ∧ Below w.heap.size w w'
set_option maxRecDepth 100000 in
theorem mgetr_nil {w : World} (s : ByteArray) : Calls Try.prog 22 #[.pointer none, .string s] w (NoRow w) := by
  have hb := alloc_below w (.cells #[.string ⟨#[]⟩, .slice none 0 0] 30)
  have hz := heap_alloc_new w (.cells #[.string ⟨#[]⟩, .slice none 0 0] 30)
  obtain ⟨z0, z1, zf⟩ := row_cells hz
  have HZ := Lib.hid hz
  have HB := Lib.hid hb
  clear hz hb
  go_enter Try.func22, Try.ntmps22
  go_wp2_with (go_at_call 60; (with_reducible refine (smade_nil _).mono ?_); rintro e9 w9 ⟨rfl, rfl⟩)
  refine bodyPost_ret (res_cell_tmp rfl _ _ w.heap.size 30 _ (0, 0) _ (.bool false) rfl rfl HZ.out Try.underlying30 rfl (by kernel_rfl)) rfl ?_
  exact ⟨rfl, HB.out⟩
set_option maxRecDepth 100000 in
theorem mgetr_un {w : World} {q : Nat} (hq : w.cell? ⟨q, 0, none⟩ = some (.bool false)) (s : ByteArray) : Calls Try.prog 22 #[.pointer (some ⟨q, 0, none⟩), .string s] w (NoRow w) := by
  have hql : q < w.heap.size := World.block_lt_of_cell? w ⟨q, 0, none⟩ hq
  have hb := alloc_below w (.cells #[.string ⟨#[]⟩, .slice none 0 0] 30)
  have hq2 := (hb.cell (p := ⟨q, 0, none⟩) hql).trans hq
  have hz := heap_alloc_new w (.cells #[.string ⟨#[]⟩, .slice none 0 0] 30)
  obtain ⟨z0, z1, zf⟩ := row_cells hz
  have HZ := Lib.hid hz
  have HB := Lib.hid hb
  clear hz hb hq
  go_enter Try.func22, Try.ntmps22
  go_wp2_with (go_at_call 60; (with_reducible refine (smade_c hq2).mono ?_); rintro e9 w9 ⟨rfl, rfl⟩)
  refine bodyPost_ret (res_cell_tmp rfl _ _ w.heap.size 30 _ (0, 0) _ (.bool false) rfl rfl HZ.out Try.underlying30 rfl (by kernel_rfl)) rfl ?_
  exact ⟨rfl, HB.out⟩
set_option maxRecDepth 100000 in
set_option maxHeartbeats 6400000 in
theorem mgetr_c {w : World} {q : Nat} {vb : Value} {BS : List Blk} (h : MapIn w q vb BS) (hf : (rowsOf BS).length ≤ 1000000) (key : List UInt8) :
    Calls Try.prog 22 #[.pointer (some ⟨q, 0, none⟩), .string (text key)] w (GotPost (look ((rowsOf BS).map Rw.pr) key) (text key) w) := by
  have hb := alloc_below w (.cells #[.string ⟨#[]⟩, .slice none 0 0] 30)
  have hz := heap_alloc_new w (.cells #[.string ⟨#[]⟩, .slice none 0 0] 30)
  have hmi := h.below hb
  have HMF := Lib.hid (mfound_c hmi hf key)
  obtain ⟨c0, -, -, -⟩ := map_cells hmi.head
  have HZ := Lib.hid hz
  have HB := Lib.hid hb
  have HMI := Lib.hid hmi
  clear h hb hz hmi hf
  obtain ⟨tk, htk⟩ : ∃ z, text key = z := ⟨_, rfl⟩
  rw [htk] at HMF ⊢
  have HTK := Lib.hid htk
  clear htk
  go_enter Try.func22, Try.ntmps22
  go_upto_region 4 with (first
    | (go_at_call 60; (with_reducible refine (smade_c c0).mono ?_); rintro e9 w9 ⟨rfl, rfl⟩)
    | (go_at_call 61; (with_reducible refine HMF.out.mono ?_); rintro e2 w2 ⟨at', i, is, rfl, hb2, hfd⟩))
  have hz2 := heap_below HZ.out hb2
  have HM2 := Lib.hid (HMI.out.below hb2)
  have HB2 := Lib.hid (HB.out.trans (hb2.mono HB.out.size))
  have HBe := Lib.hid (rfl : w.heap.size = w.heap.size)
  clear hb2 c0 HMF
  obtain ⟨z0, z1, zf⟩ := row_cells hz2
  have HZ2 := Lib.hid hz2
  clear hz2
  have hcase : (is = false ∧ look ((rowsOf BS).map Rw.pr) key = none) ∨ (is = true ∧ ∃ A g off c' l C, BS = A ++ (⟨g, off, c', l⟩ : Blk) :: C ∧ at' = A.length ∧ i < l.length ∧ (l.getD i Rw.zero).k = key) := by
    rcases hfd with ⟨hat, rfl, rfl, hall⟩ | ⟨A, b, C, hbs, hat, hin, hlo, hhi, his⟩
    · exact .inl ⟨rfl, look_no fun r hr e => by
        have := hall r hr
        rw [e, strictT.irr] at this
        cases this⟩
    · obtain ⟨g, off, c', l⟩ := b
      replace hin : i < l.length := hin
      replace his : is = ((l.getD i Rw.zero).k == key) := his
      by_cases hx : (l.getD i Rw.zero).k = key
      · exact .inr ⟨by rw [his]; simpa using hx, A, g, off, c', l, C, hbs, hat, hin, hx⟩
      · refine .inl ⟨by rw [his]; simpa using hx, ?_⟩
        subst hbs
        replace hlo : ∀ r ∈ rowsOf A ++ l.take i, Op.bytesLess r.k key = true := hlo
        replace hhi : ∀ r ∈ l.drop i ++ rowsOf C, Op.bytesLess r.k key = false := hhi
        have hpq : rowsOf (A ++ (⟨g, off, c', l⟩ : Blk) :: C) = (rowsOf A ++ l.take i) ++ (l.drop i ++ rowsOf C) := by
          rw [rowsOf_append, rowsOf_cons]
          show rowsOf A ++ (l ++ rowsOf C) = _
          rw [List.append_assoc (rowsOf A), ← List.append_assoc (l.take i) (l.drop i), List.take_append_drop]
        have hasc := HM2.out.asc
        rw [hpq] at hasc ⊢
        have hQ := all_above (asc_part hasc).2 hhi (fun y Q' e => by
          rw [drop_first hin, List.cons_append] at e
          injection e with e1 _
          rw [← e1]; exact hx)
        exact look_no fun r hr e => by
          rcases List.mem_append.1 hr with hr | hr
          · have := hlo r hr
            rw [e, strictT.irr] at this
            cases this
          · have := hQ r hr
            rw [e, strictT.irr] at this
            cases this
  clear hfd
  rcases hcase with ⟨rfl, hno⟩ | ⟨rfl, A, g, off, c', l, C, hbs, hat, hin, hx⟩
  · have HNO := Lib.hid hno
    clear hno
    go_wp2
    refine bodyPost_ret (res_cell_tmp rfl _ _ w.heap.size 30 _ (0, 0) _ (.bool false) rfl rfl (row_set HZ2.out ⟨#[]⟩ (.slice none 0 0)) Try.underlying30 rfl (by kernel_rfl)) rfl ?_
    exact .inr ⟨HNO.out, rfl, (HB2.out.setCell (p := ⟨w.heap.size, 0, none⟩) (Nat.le_refl _) _).setCell (p := ⟨w.heap.size, 1, none⟩) (Nat.le_refl _) _⟩
  · subst hbs
    obtain ⟨al, hal⟩ : ∃ z, A.length = z := ⟨_, rfl⟩
    rw [hal] at hat
    subst hat
    obtain ⟨gl, cb, hvb, -⟩ := HM2.out.body.vb_some
    obtain ⟨nb, hnb⟩ : ∃ z, (A ++ (⟨g, off, c', l⟩ : Blk) :: C).length = z := ⟨_, rfl⟩
    rw [hnb] at hvb
    subst hvb
    obtain ⟨hnb2, hncb, hcmax, hcc⟩ := HM2.out.body.cell_at
    have hbat : At 2 30 Rw.arr w2 g off c' l := (HM2.out.body.blk _ mem_mid).2
    obtain ⟨m, hmm⟩ : ∃ z, l.length = z := ⟨_, rfl⟩
    have hcl := hbat.le
    have hcm := hbat.max
    obtain ⟨r0, r1⟩ := hbat.row_at hin
    have hlk : look ((rowsOf (A ++ (⟨g, off, c', l⟩ : Blk) :: C)).map Rw.pr) key = some (l.getD i Rw.zero).cs := by
      have hpq : rowsOf (A ++ (⟨g, off, c', l⟩ : Blk) :: C) = (rowsOf A ++ l.take i) ++ l.getD i Rw.zero :: (l.drop (i + 1) ++ rowsOf C) := by
        rw [rowsOf_append, rowsOf_cons]
        show rowsOf A ++ (l ++ rowsOf C) = _
        rw [← List.cons_append, ← drop_first hin, List.append_assoc (rowsOf A), ← List.append_assoc (l.take i) (l.drop i), List.take_append_drop]
      have hasc := HM2.out.asc
      rw [hpq] at hasc ⊢
      exact look_at hasc hx
    have hrow := HM2.out.body.row _ mem_mid _ (show l.getD i Rw.zero ∈ l from rw_mem hin)
    obtain ⟨y, hy⟩ : ∃ y, l.getD i Rw.zero = y := ⟨_, rfl⟩
    rw [hy] at hx r0 r1 hlk hrow
    obtain ⟨ky, uy, cy⟩ := y
    simp only at hx r0 r1 hlk hrow
    obtain ⟨ay, ccy, eu, hcy⟩ := hrow.1.cls
    subst eu
    have hvl : (⟨g, off, c', l⟩ : Blk).val = .slice (some ⟨g, off, none⟩) m c' := by simp only [Blk.val, hmm]
    rw [hvl, hal] at hcc
    rw [hmm] at hin hcl
    obtain ⟨n, hn⟩ : ∃ z, (rowsOf (A ++ (⟨g, off, c', l⟩ : Blk) :: C)).length = z := ⟨_, rfl⟩
    have hhd := HM2.out.head
    rw [hn] at hhd
    obtain ⟨m0, m1, m2, mf⟩ := map_cells hhd
    have hall : at' < nb := by rw [← hal, ← hnb]; simp
    have halb : (at' : Int) < (nb : Int) := by omega
    have halc : (at' : Int) < (cb : Int) := by omega
    have himi : (i : Int) < (m : Int) := by omega
    have himc : (i : Int) < (c' : Int) := by omega
    have HTX := Lib.hid (show text ky = tk by rw [hx, HTK.out])
    have HLK := Lib.hid hlk
    rw [HTX.out] at r0
    have HCP := Lib.hid (scopied_c hcy hrow.2 tk)
    clear hbat hhd hn hmm hvl hal hnb hall hnb2 hx hlk hrow hy hcy
    go_wp2_with (go_at_call 62; (with_reducible refine HCP.out.mono ?_); rintro e9 w9 ⟨v9, rfl, ho9, hb9⟩; obtain ⟨a9, c9, rfl, -⟩ := ho9.cls; have hz9 := heap_below HZ2.out hb9; have HO9 := Lib.hid ho9; have HB9 := Lib.hid hb9; have HZ9 := Lib.hid hz9; clear ho9 hb9 z0 z1 zf; obtain ⟨z0, z1, zf⟩ := row_cells hz9; clear hz9)
    refine bodyPost_ret (res_cell_tmp rfl _ _ w.heap.size 30 _ (0, 0) _ (.bool true) rfl rfl (row_set HZ9.out tk (.slice a9 cy.length c9)) Try.underlying30 rfl (by kernel_rfl)) rfl ?_
    refine .inl ⟨_, _, _, HLK.out, rfl, ?_, ?_⟩
    · exact own_set (i := 1) (show (w9.setCell ⟨w.heap.size, 0, none⟩ (.string tk)).heap[w.heap.size]? = _ from (heap_setCell_same _ _ 0 _ _ _ HZ9.out).trans rfl) (by decide) (own_set (i := 0) HZ9.out (by decide) (HO9.out.mono HB2.out.size))
    · exact (((HB2.out.trans (HB9.out.mono HB2.out.size)).setCell (p := ⟨w.heap.size, 0, none⟩) (Nat.le_refl _) _).setCell (p := ⟨w.heap.size, 1, none⟩) (Nat.le_refl _) _)
end Go.Proofs.Ytbpgfmcnpifmdaa
end

section
namespace Go.Proofs.Ytbpgfmcnpifmdaa
open Go.RowKit Go
set_option linter.unusedVariables false
variable {F : Fence} {n : Nat} {P : Program}

/-- The iterator's word. -/
def SeqTellsW {α : Type} (F : Fence) (n : Nat) (P : Program) (T : TypeId) (g : Nat) (lb : Array Value) (encs : α → Array Value) (Kp : World → World → Prop) (Qx : List α → α → World → Prop) (G : α → Prop) (S Sp : List α → World → Prop) (w : World) : Prop :=
  ∀ (l : Nat) (J Jx : List α → World → Prop) (W : World), Below w.heap.size w W → AbidesC W.heap.size T J →
    (∀ pre x W1, J pre W1 → Qx pre x W1 → YieldAt F (n - 1) P l (encs x) W1 (TellsR Kp G J Jx pre x W1)) → J [] W →
    CallsIn F n P g (#[.func (.yield l) #[] #[]] ++ lb) W fun e W' => (∃ v, e = .returned v) ∧ ((∃ xs, S xs W' ∧ J xs W') ∨ (∃ pre, Sp pre W' ∧ Jx pre W'))

theorem wpIn_range_tellsW {α : Type} {g : Operand} {ps : Array Tmp} {assign body : Code} {Q : Exit → Act → World → Prop} {a : Act} {w : World}
    (hro : F.round = none) (h1 : 1 ≤ n) {gf : Nat} {lb : Array Value} (hg : a.eval g = .func (.func gf) #[] lb) (hFg : F.fn gf) (eg : ∀ args w, (callFunc gf args).run P w = .ok (.enter gf args) w)
    {encs : α → Array Value} {Kp : World → World → Prop} {Qx : List α → α → World → Prop} {G : α → Prop} {S Sp : List α → World → Prop} {T : TypeId} (hseq : SeqTellsW F (n - 1) P T gf lb encs Kp Qx G S Sp w)
    (hKt : ∀ {A B C : World}, Kp A B → Kp B C → Kp A C) (hKb : ∀ (W : World) (l : Nat) (o o' : Obj), w.heap.size ≤ l → W.heap[l]? = some o → o.isCells = false → o.isWalk = false → Kp W (W.putObj l o'))
    (hS : OwnFrom w.heap.size S) (hSp : OwnFrom w.heap.size Sp) (hps : ∀ x, (encs x).size = ps.size)
    (I : List α → World → Prop) (Ix : Code → List α → World → Prop) (hI : OwnT w.heap.size T I) (hIx : ∀ c, OwnFrom w.heap.size (Ix c)) (h0 : I [] w) (Ax : α → Act → World → Prop) (hAx : ∀ x a', OwnFrom w.heap.size (fun (_ : Unit) W => Ax x a' W))
    (hassign : ∀ (l : Nat) (pre : List α) (x : α) (W : World) (K : Act → World → Prop), I pre W → Qx pre x W → (∀ a' W', KeepsFrom w.heap.size W W' → Kp W W' → I pre W' → Ax x a' W' → K a' W') →
      assign.wpIn (F.inRound l) (n - 1 - 1) P (Exit.then K (fun _ _ _ => False)) { tmps := (ps.zip (encs x)).foldl (fun t (p, v) => t.setIfInBounds p v) a.tmps, defers := [] } W)
    (hbody : ∀ (l : Nat) (pre : List α) (x : α) (a' : Act) (W : World), I pre W → Ax x a' W → body.wpIn (F.inRound l) (n - 1 - 1) P (RoundPost w.heap.size Kp G I Ix pre x W) a' W)
    (hdone : ∀ (D : Nat) (xs : List α) (W : World), w.heap.size ≤ D → S xs W → I xs W → W.heap[D]? = some (.deferred (some [])) → Q .normal { a with defers := { target := .collected D, args := #[] } :: a.defers } W)
    (hstop : ∀ (D : Nat) (c : Code) (pre : List α) (W : World), w.heap.size ≤ D → Sp pre W → Ix c pre W → W.heap[D]? = some (.deferred (some [])) → c.wpIn F n P Q { a with defers := { target := .collected D, args := #[] } :: a.defers } W) :
    (Code.rangeFunc g ps assign body).wpIn F n P Q a w := by
  refine wpIn_rangeFunc fun fn hfn => ?_
  rw [hro]
  obtain ⟨rec, hrec⟩ : ∃ rec : LoopState → Option Code → Loop, rec = fun st pe => { state := st, pending := pe, fn, tmps := a.tmps, params := ps, assign, body, defers := w.heap.size } := ⟨_, rfl⟩
  obtain ⟨W1, hW1⟩ : ∃ W1, (w.alloc (.deferred (some []))).alloc (.loop (rec .ready none)) = W1 := ⟨_, rfl⟩
  have hL1 : W1.heap[w.heap.size + 1]? = some (.loop (rec .ready none)) := by
    rw [← hW1]; have := World.alloc_heap_new (w.alloc (.deferred (some []))) (.loop (rec .ready none)); rwa [World.size_alloc] at this
  have hK1 : W1.heap[w.heap.size]? = some (.deferred (some [])) := by
    rw [← hW1]; exact (Below.heap_alloc _ _ _ (by simp)).trans (World.alloc_heap_new w _)
  have hI1 : I [] W1 := by rw [← hW1]; exact hI.from.alloc _ (hI.from.alloc _ h0)
  have hb1 : Below w.heap.size w W1 := by
    rw [← hW1]; exact ((Below.refl _ w).alloc (Nat.le_refl _) _).alloc (by simp) _
  refine ⟨w.heap.size + 1, [{ target := .collected w.heap.size, args := #[] }], W1, { target := .fn (.func gf) lb, args := #[.func (.yield (w.heap.size + 1)) #[] #[]] }, W1, gf,
    #[.func (.yield (w.heap.size + 1)) #[] #[]] ++ lb, W1, ?_, ?_, ?_, ?_, fun _ => h1, ?_⟩
  · rw [← hW1, hrec]; exact run_enterLoop_outer _ _ _ _ _
  · simp only [resolve, hg]
    simp [go_sem]
  · intro f' hf'; simp [Target.leads] at hf'; subst hf'; exact hFg
  · simp [invoke, go_sem, eg]
  have hnw : ∀ {A B : World} {row : Option Nat}, (∀ r, row = some r → W1.heap.size ≤ r ∧ ∃ o : Obj, A.heap[r]? = some o ∧ (o.isWalk = true ∨ ∃ cs fr, o = .cells cs T fr)) → (∀ r, row = some r → w.heap.size ≤ r ∧ ∃ o : Obj, A.heap[r]? = some o ∧ (o.isCells = false ∨ ∃ cs fr, o = .cells cs T fr)) :=
    fun hr r e => by obtain ⟨hB, o, ho, hw⟩ := hr r e; exact ⟨by have := hb1.size; omega, o, ho, hw.imp_left Obj.not_cells_of_walk⟩
  have hloop : ∀ {A B : World} {row : Option Nat} {k : Nat} {o : Obj}, A.grownBy B row → (∀ r, row = some r → W1.heap.size ≤ r ∧ ∃ o : Obj, A.heap[r]? = some o ∧ (o.isWalk = true ∨ ∃ cs fr, o = .cells cs T fr)) → A.heap[k]? = some o → o.isWalk = false → o.isCells = false → B.heap[k]? = some o :=
    fun hg hr hk h1 h2 => (hg.block _ (Array.getElem?_eq_some_iff.1 hk).1 (fun e => by
      obtain ⟨_, o', ho, hc⟩ := hr _ e.symm
      rw [hk] at ho
      cases ho
      rcases hc with hc | ⟨cs, fr, hc⟩
      · rw [hc] at h1; cases h1
      · rw [hc] at h2; cases h2)).trans hk
  refine (hseq (w.heap.size + 1)
    (fun pre W => I pre W ∧ W.heap[w.heap.size + 1]? = some (.loop (rec .ready none)) ∧ W.heap[w.heap.size]? = some (.deferred (some [])))
    (fun pre W => ∃ c, Ix c pre W ∧ W.heap[w.heap.size + 1]? = some (.loop (rec .done (some c))) ∧ W.heap[w.heap.size]? = some (.deferred (some [])))
    W1 hb1
    (fun s A B row hs hg' hr => ⟨hI s A B row hs.1 hg' (hnw (B := B) hr), hloop hg' hr hs.2.1 rfl rfl, hloop hg' hr hs.2.2 rfl rfl⟩)
    ?_ ⟨hI1, hL1, hK1⟩).mono ?_
  · -- one round
    rintro pre x W ⟨hi, hl, hk⟩ hqx
    have hy := run_yield (P := P) (args := encs x) hl (by rw [hrec]; exact hps x)
    rw [hrec] at hy
    refine ⟨fn, _, assign, body, hy, roundIn_of_wpIn hfn (hassign _ pre x W _ hi hqx ?_)⟩
    clear hy
    intro a' Wa hkfa hkpa hia hax
    have hla := hkfa.same _ _ (by omega) hl rfl
    have hka := hkfa.same _ _ (Nat.le_refl _) hk rfl
    have hlt : w.heap.size + 1 < Wa.heap.size := (Array.getElem?_eq_some_iff.1 hla).1
    refine ⟨_, run_beginRound hla (by rw [hrec]), ?_⟩
    obtain ⟨Wb, hWb⟩ : ∃ Wb, Wa.putObj (w.heap.size + 1) (.loop { rec .ready none with state := .busy }) = Wb := ⟨_, rfl⟩
    have hlb : Wb.heap[w.heap.size + 1]? = some (.loop { rec .ready none with state := .busy }) := by rw [← hWb]; exact World.putObj_heap_same hlt
    have hkb : Wb.heap[w.heap.size]? = some (.deferred (some [])) := by rw [← hWb]; exact (World.putObj_heap_other (by omega)).trans hka
    have hwb : Kp W Wb := hKt hkpa (by rw [← hWb]; exact hKb _ _ _ _ (by omega) hla rfl rfl)
    have hib : I pre Wb := by rw [← hWb]; exact hI.from.putObj _ hia (by omega) hla rfl
    have hab : Ax x a' Wb := by rw [← hWb]; exact (hAx x a').putObj (s := ()) _ hax (by omega) hla rfl
    rw [hWb]
    refine wpIn_mono (hbody _ pre x a' Wb hib hab) ?_
    have fin : ∀ (jump : Option Code) (W3 : World), KeepsFrom w.heap.size Wb W3 → Kp Wb W3 →
        ∃ W4, (Instr.endRound (w.heap.size + 1) jump).run P W3 = .ok (.bool jump.isNone) W4 ∧ W4 = W3.putObj (w.heap.size + 1) (.loop (rec (if jump.isNone then .ready else .done) jump)) ∧
        W3.heap[w.heap.size + 1]? = some (.loop { rec .ready none with state := .busy }) ∧
        W4.heap[w.heap.size + 1]? = some (.loop (rec (if jump.isNone then .ready else .done) jump)) ∧ W4.heap[w.heap.size]? = some (.deferred (some [])) ∧ Kp W W4 := fun jump W3 hk3 hp3 => by
      have hl3 := hk3.same _ _ (by omega) hlb rfl
      have hr := run_endRound (P := P) jump hl3
      rw [hrec] at hr
      refine ⟨_, hr, by rw [hrec], hl3, ?_, ?_, hKt hwb (hKt hp3 (hKb _ _ _ _ (by omega) hl3 rfl rfl))⟩
      · rw [hrec]; exact World.putObj_heap_same (Array.getElem?_eq_some_iff.1 hl3).1
      · exact (World.putObj_heap_other (by omega)).trans (hk3.same _ _ (Nat.le_refl _) hkb rfl)
    have leaves : ∀ (c : Code) (W3 : World), KeepsFrom w.heap.size Wb W3 → Kp Wb W3 → Ix c (pre ++ [x]) W3 → ∃ v W4, (Instr.endRound (w.heap.size + 1) (some c)).run P W3 = .ok v W4 ∧
        TellsR Kp G (fun pre W => I pre W ∧ W.heap[w.heap.size + 1]? = some (.loop (rec .ready none)) ∧ W.heap[w.heap.size]? = some (.deferred (some [])))
          (fun pre W => ∃ c, Ix c pre W ∧ W.heap[w.heap.size + 1]? = some (.loop (rec .done (some c))) ∧ W.heap[w.heap.size]? = some (.deferred (some []))) pre x W (.returned v) W4 := fun c W3 hk3 hp3 hi3 => by
      obtain ⟨W4, hr, rfl, hl3, hl4, hk4, hp4⟩ := fin (some c) W3 hk3 hp3
      exact ⟨_, _, hr, .inr ⟨rfl, ⟨c, (hIx _).putObj _ hi3 (by omega) hl3 rfl, hl4, hk4⟩, hp4⟩⟩
    rintro e a3 W3 hp
    cases e with
    | normal =>
      obtain ⟨hk3, hp3, hgx, hi3⟩ := hp
      obtain ⟨W4, hr, rfl, hl3, hl4, hk4, hp4⟩ := fin none W3 hk3 hp3
      exact ⟨_, _, hr, .inl ⟨rfl, ⟨hI.from.putObj _ hi3 (by omega) hl3 rfl, hl4, hk4⟩, hp4, hgx⟩⟩
    | ret => exact leaves .ret W3 hp.1 hp.2.1 hp.2.2
    | exit id => exact leaves (.exit id) W3 hp.1 hp.2.1 hp.2.2
    | goto t => exact leaves (.goto t) W3 hp.1 hp.2.1 hp.2.2
    | panic ch => exact hp.elim
    | outgrown => exact hp.elim
  · -- behind the iterator
    rintro e W2 ⟨⟨v, rfl⟩, (⟨xs, hSx, hi, hl, hk⟩ | ⟨pre, hSx, c, hi, hl, hk⟩)⟩
    · exact ⟨none, _, by have := run_endLoop (P := P) hl (by rw [hrec]; simp); rw [hrec] at this; exact this, hdone _ xs _ (Nat.le_refl _) (hS.putObj _ hSx (by omega) hl rfl) (hI.from.putObj _ hi (by omega) hl rfl) ((World.putObj_heap_other (by omega)).trans hk)⟩
    · exact ⟨some c, _, by have := run_endLoop (P := P) hl (by rw [hrec]; simp); rw [hrec] at this; exact this, hstop _ c pre _ (Nat.le_refl _) (hSp.putObj _ hSx (by omega) hl rfl) ((hIx c).putObj _ hi (by omega) hl rfl) ((World.putObj_heap_other (by omega)).trans hk)⟩
end Go.Proofs.Ytbpgfmcnpifmdaa
end

