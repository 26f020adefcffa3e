/-
  Join: the reference's Needed.
-/
import Derived.Test.YtkjpmdpljdgcjaaYF
namespace Go.Proofs.Ytkjpmdpljdgcjaa
open Go.RowKit Go Go.Sort
set_option linter.unusedVariables false
set_option maxRecDepth 20000

def NeedPost (l : List Cl) (w : World) (e : Ending) (w' : World) : Prop := ∃ v, e = .returned v ∧ OwnN w' w.heap.size v (needN l l.length) ∧ Below w.heap.size w w'

set_option maxHeartbeats 6400000 in
theorem rneeded_c {w : World} {x : Option Addr} {m cap : Nat} {l : List Cl} (hl : Cls w x m cap l) (hm : m ≤ 1000000000) : Calls Try.prog 19 #[.slice x m cap] w (NeedPost l w) := by
  have hln := hl.len
  have hnle := hl.le
  have hnm := hl.max
  have HL := Lib.hid hl
  clear hl
  go_enter Try.func19, Try.ntmps19
  go_wp2
  go_loopw [3, 4] (fun v i wr => ∃ k : Nat, k ≤ m ∧ i = .int .i64 k ∧ OwnN wr w.heap.size v (needN l k) ∧ Below w.heap.size w wr) (fun _ i _ => m - (intOf i).toNat)
  case atStart => exact ⟨0, by omega, rfl, OwnN.nil _ _, Below.refl _ _⟩
  case round =>
    obtain ⟨i, hk, rfl, ho, hB⟩ := hrel
    by_cases hlt : i < m
    · have hki : (i : Int) < (m : Int) := by omega
      have hki2 : (i : Int) < (cap : Int) := by omega
      have hki3 : (i : Int) ≤ (cap : Int) := by omega
      obtain ⟨bk, off, rfl, hat⟩ := HL.out.at hlt
      obtain ⟨R, hR⟩ : ∃ R, withinS (l.getD i Cl.zero) (joinC (l.take i)) = R := ⟨_, rfl⟩
      have HST := Lib.hid (needN_step l i R hR)
      have hJC := fun W (h : Below wr.heap.size wr W) => rjoin_c ((HL.out.take hk).below (hB.trans (h.mono hB.size)))
      obtain ⟨y, hy⟩ : ∃ y, l.getD i Cl.zero = y := ⟨_, rfl⟩
      obtain ⟨j, hj⟩ : ∃ j, joinC (l.take i) = j := ⟨_, rfl⟩
      rw [hy, hj] at hR
      rw [hy] at hat
      rw [hj] at hJC
      obtain ⟨n, s, a, b, g, t, d, e⟩ := j
      obtain ⟨n', s', a', b', g', t', d', e'⟩ := y
      have HPW := Lib.hid (fun W (h : Below wr.heap.size wr W) => hat W (hB.trans (h.mono hB.size)))
      have HJC := Lib.hid hJC
      have hC := fun W => rwithin_c n' s' a' b' g' t' d' e' n s a b g t d e W
      rw [hR] at hC
      have HC := Lib.hid hC
      have HO := Lib.hid ho
      have HB := Lib.hid hB
      clear hat hy hj hR hJC hC ho hB
      go_upto_region 5 with (fail)
      refine wp_region_flow [none, none, none, none, none, none, none, none, none, none, none, some 0, some 1, some 2, some 3, some 4, some 5, some 6, some 7, some 8, some 9, none, none, none, none, none] (fun i => [u11, u12, u13, u14, u15, u16, u17, u18, u19, u20].getD i undef) [(fun v _ => v = .slice (some ⟨bk, off, none⟩) m cap), (fun v _ => v = .int .i64 (i : Int)), (fun v _ => v = .pointer (some ⟨bk, off + i * 8, none⟩)), (fun v _ => v = .agg #[.int .i64 n', .int .i64 s', .int .i64 a', .int .i64 b', .bool g', .string (text t'), .int .i64 d', .int .i64 e']), (fun v _ => v = .slice (some ⟨bk, off, none⟩) m cap), (fun v _ => v = .int .i64 (i : Int)), (fun v _ => v = .slice (some ⟨bk, off, none⟩) i cap), (fun v _ => v = .agg #[.int .i64 n, .int .i64 s, .int .i64 a, .int .i64 b, .bool g, .string (text t), .int .i64 d, .int .i64 e]), (fun v _ => v = .bool R), (fun v _ => v = .bool (!R))] (by kernel_rfl) (by kernel_rfl) rfl rfl rfl ?_ ?_ ?_
      · intro g hg v X Y hX hY hv
        simp only [List.mem_cons, List.not_mem_nil, or_false] at hg
        rcases hg with rfl | rfl | rfl | rfl | rfl | rfl | rfl | rfl | rfl | rfl
        all_goals first
          | exact hv
          | exact hv.kept hY
      · simp only [flowOps, and_true]
        refine ⟨?_, ?_, ?_, ?_, ?_, ?_, ?_, ?_, ?_, ?_⟩
        · intro xs W hW hn
          simp only [flowAct, List.zipWith_cons_cons, List.zipWith_nil_left]
          go_wp2_with (fail)
          exact ⟨rfl, _, rfl, Below.refl _ _, rfl⟩
        · intro xs W hW hn
          simp only [flowAct, List.zipWith_cons_cons, List.zipWith_nil_left]
          go_wp2_with (fail)
          exact ⟨rfl, _, rfl, Below.refl _ _, rfl⟩
        · intro xs W hW hn
          simp [flowNeeds, Region.binds] at hn
          simp only [flowAct, List.zipWith_cons_cons, List.zipWith_nil_left]
          try simp only [hn]
          go_wp2_with (fail)
          exact ⟨rfl, _, rfl, Below.refl _ _, rfl⟩
        · intro xs W hW hn
          obtain ⟨p0, p1, p2, p3, p4, p5, p6, p7⟩ := HPW.out W hW
          simp only at p0 p1 p2 p3 p4 p5 p6 p7
          simp [flowNeeds, Region.binds] at hn
          simp only [flowAct, List.zipWith_cons_cons, List.zipWith_nil_left]
          try simp only [hn]
          go_wp2_with (fail)
          exact ⟨rfl, _, rfl, Below.refl _ _, rfl⟩
        · intro xs W hW hn
          simp only [flowAct, List.zipWith_cons_cons, List.zipWith_nil_left]
          go_wp2_with (fail)
          exact ⟨rfl, _, rfl, Below.refl _ _, rfl⟩
        · intro xs W hW hn
          simp only [flowAct, List.zipWith_cons_cons, List.zipWith_nil_left]
          go_wp2_with (fail)
          exact ⟨rfl, _, rfl, Below.refl _ _, rfl⟩
        · intro xs W hW hn
          simp [flowNeeds, Region.binds] at hn
          simp only [flowAct, List.zipWith_cons_cons, List.zipWith_nil_left]
          simp only [hn]
          go_wp2_with (fail)
          exact ⟨rfl, _, rfl, Below.refl _ _, rfl⟩
        · intro xs W hW hn
          simp [flowNeeds, Region.binds] at hn
          simp only [flowAct, List.zipWith_cons_cons, List.zipWith_nil_left]
          simp only [hn]
          go_wp2_with (go_at_call 14; (with_reducible refine (HJC.out _ hW).mono ?_); rintro e9 w9 ⟨rfl, hb9⟩)
          exact ⟨rfl, _, rfl, hb9, rfl⟩
        · intro xs W hW hn
          simp [flowNeeds, Region.binds] at hn
          simp only [flowAct, List.zipWith_cons_cons, List.zipWith_nil_left]
          simp only [hn]
          go_wp2_with (go_at_call 16; (with_reducible refine (HC.out _).mono ?_); rintro e9 w9 ⟨rfl, hb9⟩)
          exact ⟨rfl, _, rfl, hb9, rfl⟩
        · intro xs W hW hn
          simp [flowNeeds, Region.binds] at hn
          simp only [flowAct, List.zipWith_cons_cons, List.zipWith_nil_left]
          try simp only [hn]
          go_wp2_with (fail)
          exact ⟨rfl, _, rfl, Below.refl _ _, rfl⟩
      · intro xs W hW hall
        simp only [flowAll, and_true, Nat.zero_add, Nat.reduceAdd] at hall
        obtain ⟨-, -, -, -, -, -, -, -, -, e9⟩ := hall
        simp only [flowAct, List.zipWith_cons_cons, List.zipWith_nil_left]
        simp only [e9]
        have HO2 := Lib.hid (HO.out.kept hW)
        have HB2 := Lib.hid (HB.out.trans (hW.mono HB.out.size))
        cases R with
        | true =>
          have HST2 := Lib.hid (show needN l (i + 1) = needN l i by rw [HST.out]; rfl)
          go_wp2
          go_roundw
          case rel => exact ⟨i + 1, by omega, rfl, by rw [HST2.out]; exact HO2.out, HB2.out⟩
          case measure => simp [intOf]; omega
        | false =>
          have HST2 := Lib.hid (show needN l (i + 1) = needN l i ++ [(i : Int)] by rw [HST.out]; rfl)
          have hmx : (needN l i).length ≤ 1000000000 := Nat.le_trans (needN_le l i) (by omega)
          have HMX := Lib.hid hmx
          clear hmx
          go_wp2_with (at_builtin; go_loud (refine wpList_append_int rfl (.tmp 21) (.tmp 23) rfl rfl HO2.out rfl HMX.out HB2.out.size ?_); intro v9 w9 ho9 hg9)
          go_roundw
          case rel => exact ⟨i + 1, by omega, rfl, by rw [HST2.out]; exact ho9, (HB2.out.alloc HB2.out.size _).grown hg9 (by have := HB2.out.size; simp; omega) (fun k hk => (HO2.out.lt k hk).1)⟩
          case measure => simp [intOf]; omega
    · obtain rfl : i = m := by omega
      rw [← hln] at ho
      have HO := Lib.hid ho
      have HB := Lib.hid hB
      clear ho hB
      go_wp2
      go_ret
      exact ⟨_, rfl, HO.out, HB.out⟩
end Go.Proofs.Ytkjpmdpljdgcjaa
