/-
  Join: the function over which Needed goes.
-/
import Derived.Test.YtkjpmdpljdgcjaaYG
import Derived.Test.YtkjpmdpljdgcjaaYL
import Derived.Shelf.Abstract
import Derived.WalkKit
import Derived.OwnWalkIn
import Derived.TacticsInMore
import Derived.LoopNIn
import Derived.LoopIn
namespace Go.Proofs.Ytkjpmdpljdgcjaa
open Go.RowKit Go Go.Sort
set_option linter.unusedVariables false
set_option maxRecDepth 20000

/-- What the iterator hands over, by its number. -/
def jenc (l : List Cl) (k : Nat) : Array Value := #[.int .i64 (k : Int), .agg (joinC (l.take k)).arr]
/-- What a round keeps: what lay below, every cell's block, and the box of the list. -/
structure KC (n₀ Bn : Nat) (W W' : World) : Prop where
  below : Below n₀ W W'
  cells : ∀ (k : Nat) cs fr, W.heap[k]? = some (.cells cs 27 fr) → W'.heap[k]? = some (.cells cs 27 fr)
  box : ∀ (o : Obj), W.heap[Bn]? = some o → W'.heap[Bn]? = some o
theorem KC.refl (n₀ Bn : Nat) (W : World) : KC n₀ Bn W W := ⟨Below.refl _ _, fun _ _ _ h => h, fun _ h => h⟩
theorem KC.trans {n₀ Bn : Nat} {A B C : World} (h : KC n₀ Bn A B) (k : KC n₀ Bn B C) : KC n₀ Bn A C :=
  ⟨h.below.trans k.below, fun i cs fr hi => k.cells i cs fr (h.cells i cs fr hi), fun o ho => k.box o (h.box o ho)⟩
theorem KC.of_below {n₀ Bn : Nat} {W W' : World} (hn : n₀ ≤ W.heap.size) (h : Below W.heap.size W W') : KC n₀ Bn W W' :=
  ⟨h.mono hn, fun k cs fr hk => (h.block k (Array.getElem?_eq_some_iff.1 hk).1).trans hk, fun o hk => (h.block Bn (Array.getElem?_eq_some_iff.1 hk).1).trans hk⟩
theorem KC.putObj {n₀ Bn : Nat} (W : World) (l : Nat) (o o' : Obj) (hl : n₀ ≤ l) (hb : Bn < l) (h : W.heap[l]? = some o) (ho : o.isCells = false) : KC n₀ Bn W (W.putObj l o') :=
  ⟨(Below.refl n₀ W).grown (grownBy_putObj' W l o') (by have := (Array.getElem?_eq_some_iff.1 h).1; omega) (fun k e => by cases e; omega),
   fun k cs fr hk => (World.putObj_heap_other (by rintro rfl; rw [h] at hk; cases hk; cases ho)).trans hk,
   fun o hk => (World.putObj_heap_other (by omega)).trans hk⟩
theorem KC.cel {n₀ Bn q : Nat} {W W' : World} {c : Cl} (h : KC n₀ Bn W W') (hc : CelC W q c) : CelC W' q c := h.cells q _ _ hc
theorem grown_belowH {W W' : World} (h : Below W.heap.size W W') : W.grownBy W' none := ⟨h.os, h.tape, h.output, h.size, fun i hi _ => h.block i hi⟩
theorem Wrote.grown {z : Nat} {cs : Array Value} {t : TypeId} {w w' : World} (h : Wrote z cs t w w') : w.grownBy w' (some z) := ⟨h.os, h.tape, h.output, h.size, fun i hi hne => h.rest i hi (fun e => hne (by rw [e]))⟩
/-- The value of the place at which it stands. -/
def placeOf : Value → Nat | .int _ n => n.toNat | _ => 0

set_option maxRecDepth 100000 in
set_option maxHeartbeats 400000 in
theorem joins_c {w : World} {x : Option Addr} {m cap : Nat} :
    Calls Try.prog 29 #[.slice x m cap] w fun e w' => e = .returned (.func (.func 40) #[] #[.pointer (some ⟨w.heap.size, 0, none⟩)]) ∧ w' = w.alloc (.cells #[.slice x m cap] 28) := by
  go_enter Try.func29, Try.ntmps29
  go_wp2
  go_ret
  exact ⟨rfl, rfl⟩

theorem join_none (W : World) : Calls Try.prog 13 #[.slice none 0 0] W (Tells (.agg #[.int .i64 0, .int .i64 0, .int .i64 0, .int .i64 0, .bool false, .string ⟨#[]⟩, .int .i64 0, .int .i64 0]) W) := join_c (Cls.nil W)

set_option maxRecDepth 100000 in
set_option maxHeartbeats 3200000 in
theorem joins_tells {w0 w : World} {x : Option Addr} {m cap : Nat} {l : List Cl} (hl : Cls w0 x m cap l) (hw : Below w0.heap.size w0 w) (N Bn : Nat) (hBn : Bn < w.heap.size)
    (hc : w.heap[Bn]? = some (.cells #[.slice x m cap] 28 (0, 0))) :
    SeqTells Fence.wide N Try.prog 27 40 #[.pointer (some ⟨Bn, 0, none⟩)] (jenc l) (KC w0.heap.size Bn) (fun pre k => k = pre.length ∧ k < m) (fun _ => True)
      (fun xs _ => xs.length = m) (fun _ _ => True) w := fun q J Jx W hW hJ hY h0 => by
  have hle := hl.le
  have hmax := hl.max
  have hlen := hl.len
  refine callsIn_of_wp Try.func40 rfl trivial ?_ rfl
  simp only [Try.ntmps40, List.size_toArray, List.length_cons, List.length_nil, Nat.reduceAdd, Nat.reduceSub, Array.replicate_succ, Array.replicate_zero, List.push_toArray, List.append_toArray, List.nil_append, List.cons_append]
  have HLEN := Lib.hid hlen
  have hW0 : w0.heap.size ≤ W.heap.size := Nat.le_trans hw.size hW.size
  clear hlen
  gi_wp2_with fail
  refine ⟨trivial, fun h => (by cases h), (callsIn_wide.2 (join_none W)).mono ?_⟩
  rintro e w1 ⟨rfl, hb1⟩
  have hcell : (w1.alloc (.cells #[.int .i64 0, .int .i64 0, .int .i64 0, .int .i64 0, .bool false, .string ⟨#[]⟩, .int .i64 0, .int .i64 0] 27)).cell? ⟨Bn, 0, none⟩ = some (.slice x m cap) := by
    have := ((hb1.alloc hb1.size (.cells #[.int .i64 0, .int .i64 0, .int .i64 0, .int .i64 0, .bool false, .string ⟨#[]⟩, .int .i64 0, .int .i64 0] 27)).block Bn (Nat.lt_of_lt_of_le hBn hW.size)).trans ((hW.block Bn hBn).trans hc)
    simp [World.cell?, this]
  have hq := zeros w1
  have hbA := hb1.alloc hb1.size (.cells #[.int .i64 0, .int .i64 0, .int .i64 0, .int .i64 0, .bool false, .string ⟨#[]⟩, .int .i64 0, .int .i64 0] 27)
  have hAl : W.heap.size ≤ w1.heap.size := hb1.size
  gi_wp2_with fail
  gi_loopw [9] (fun p wr => ∃ (pre : List Nat) (k : Nat), p = .int .i64 k ∧ k ≤ m ∧ pre.length = k ∧ J pre wr ∧ CelC wr w1.heap.size (joinC (l.take k)) ∧ Below w0.heap.size w0 wr ∧ W.heap.size < wr.heap.size ∧ W.heap.size ≤ w1.heap.size ∧ wr.heap[Bn]? = some (.cells #[.slice x m cap] 28 (0, 0)))
    (fun p wr => m - placeOf p)
  case atStart =>
    exact ⟨[], 0, rfl, Nat.zero_le _, rfl, hJ [] W _ none h0 (grown_belowH hbA) (fun r e => by cases e), hq, hw.trans ((hW.mono hw.size).trans (hbA.mono (Nat.le_trans hw.size hW.size))), by have := hb1.size; simp; omega, hAl, ((hbA.block Bn (Nat.lt_of_lt_of_le hBn hW.size)).trans ((hW.block Bn hBn).trans hc))⟩
  case round =>
    clear hq hcell hAl
    obtain ⟨pre, k, rfl, hk, hpl, hJp, hA, hbw, hsW, hAW, hbox⟩ := hrel
    obtain ⟨A, hAe⟩ : ∃ q, w1.heap.size = q := ⟨_, rfl⟩
    rw [hAe] at hA hAW ⊢
    clear hAe hbA
    by_cases hlt : k < m
    · have hki : (k : Int) < (m : Int) := by omega
      have hki2 : (k : Int) < (cap : Int) := by omega
      obtain ⟨bk, off, rfl, hat⟩ := hl.at hlt
      have HJ := Lib.hid (join_take l k (by have := HLEN.out; omega))
      obtain ⟨y, hy1⟩ : ∃ y, l.getD k Cl.zero = y := ⟨_, rfl⟩
      obtain ⟨j, hj1⟩ : ∃ j, joinC (l.take k) = j := ⟨_, rfl⟩
      rw [hy1] at HJ hat
      rw [hj1] at hA HJ
      obtain ⟨n, s, a, b, g, t, d, e⟩ := j
      obtain ⟨n', s', a', b', g', t', d', e'⟩ := y
      obtain ⟨p0, p1, p2, p3, p4, p5, p6, p7⟩ := hat wr hbw
      simp only at p0 p1 p2 p3 p4 p5 p6 p7
      have hA1 : Cel wr A n s a b g t d e := hA
      have hA2 := hA1.alloc (.cells #[.int .i64 n', .int .i64 s', .int .i64 a', .int .i64 b', .bool g', .string (text t'), .int .i64 d', .int .i64 e'] 27)
      have hC2 := Cel.new wr n' s' a' b' g' t' d' e'
      have hbX : Below wr.heap.size wr (wr.alloc (.cells #[.int .i64 n', .int .i64 s', .int .i64 a', .int .i64 b', .bool g', .string (text t'), .int .i64 d', .int .i64 e'] 27)) := alloc_below _ _
      obtain ⟨fn, tmps, assign, body, hy, hR⟩ := hY pre k (wr.alloc (.cells #[.int .i64 n', .int .i64 s', .int .i64 a', .int .i64 b', .bool g', .string (text t'), .int .i64 d', .int .i64 e'] 27)) (hJ pre wr _ none hJp (grown_belowH hbX) (fun r e => by cases e)) ⟨hpl.symm, hlt⟩
      unfold jenc at hy
      rw [hj1] at hy
      simp only [Cl.arr] at hy
      obtain ⟨c0, c1, c2, c3, c4, c5, c6, c7⟩ := hA2.cs
      have HC2 := Lib.hid hC2
      have HBX := Lib.hid hbX
      have HA2 := Lib.hid hA2
      clear hat hy1 hA hA1 hC2 hbX hA2
      obtain ⟨gx, hgx⟩ : ∃ g, wr.heap.size = g := ⟨_, rfl⟩
      have HGX := Lib.hid hgx
      clear hgx
      gi_wp2_with fail
      refine ⟨fun h => (by cases h), hR.mono ?_⟩
      rintro e W2 (⟨rfl, hJ2, hk2, -⟩ | ⟨rfl, hJx2, hk2⟩)
      · have hA3 : Cel W2 A n s a b g t d e := hk2.cel (c := ⟨n, s, a, b, g, t, d, e⟩) HA2.out
        have hC3 : Cel W2 wr.heap.size n' s' a' b' g' t' d' e' := hk2.cel (c := ⟨n', s', a', b', g', t', d', e'⟩) HC2.out
        have hb2 : Below w0.heap.size w0 W2 := hbw.trans (((HBX.out.mono (by have := hw.size; have := hW.size; omega))).trans hk2.below)
        have hs2 : wr.heap.size < W2.heap.size := by have := hk2.below.size; simp at this; omega
        have hbx2 : W2.heap[Bn]? = some (.cells #[.slice (some ⟨bk, off, none⟩) m cap] 28 (0, 0)) := hk2.box _ ((HBX.out.block Bn (Array.getElem?_eq_some_iff.1 hbox).1).trans hbox)
        clear c0 c1 c2 c3 c4 c5 c6 c7 p0 p1 p2 p3 p4 p5 p6 p7 hy hR HC2 HBX HA2
        obtain ⟨c0, c1, c2, c3, c4, c5, c6, c7⟩ := hA3.cs
        obtain ⟨k0, k1, k2, k3, k4, k5, k6, k7⟩ := hC3.cs
        have HA3 := Lib.hid hA3
        have hT2 : joinC [⟨n, s, a, b, g, t, d, e⟩, ⟨n', s', a', b', g', t', d', e'⟩] = twoS ⟨n, s, a, b, g, t, d, e⟩ ⟨n', s', a', b', g', t', d', e'⟩ := join_two (by rw [← hj1]; exact join_upAll _)
        obtain ⟨T, hT⟩ : ∃ q, twoS ⟨n, s, a, b, g, t, d, e⟩ ⟨n', s', a', b', g', t', d', e'⟩ = q := ⟨_, rfl⟩
        rw [hT] at HJ hT2
        have hcj := join_c (cls2 W2 n s a b g t d e n' s' a' b' g' t' d' e')
        rw [hT2] at hcj
        obtain ⟨n'', s'', a'', b'', g'', t'', d'', e''⟩ := T
        simp only [Cl.arr] at hcj
        have HCJ := Lib.hid hcj
        clear hcj hA3 hT hT2
        gi_wp2_with fail
        refine ⟨trivial, fun h => (by cases h), (callsIn_wide.2 HCJ.out).mono ?_⟩
        rintro e w3 ⟨rfl, hb3⟩
        have hb23 : Below W2.heap.size W2 w3 := (alloc_below W2 _).trans (hb3.mono (by simp))
        have hA4 := HA3.out.kept hb23
        obtain ⟨o0, o1, o2, o3, o4, o5, o6, o7⟩ := hA4.cs
        have ofz := hA4.fz
        have HA4 := Lib.hid hA4
        have HB23 := Lib.hid hb23
        clear hA4 hb23 hb3 c0 c1 c2 c3 c4 c5 c6 c7 k0 k1 k2 k3 k4 k5 k6 k7 HA3
        gi_wp2_with fail
        have hw := Wrote.of_put n s a b g t d e (Below.refl _ w3) HA4.out n'' s'' a'' b'' g'' t'' d'' e''
        go_roundw
        case rel =>
          have hAl : A < w3.heap.size := HA4.out.lt
          have hJ3 := hJ (pre ++ [k]) w3 _ (some A) (hJ (pre ++ [k]) W2 w3 none hJ2 (grown_belowH HB23.out) (fun r e => by cases e)) hw.grown (fun r e => by cases e; exact ⟨by omega, _, HA4.out, .inr ⟨_, _, rfl⟩⟩)
          have hbx3 := (hw.rest Bn (Nat.lt_of_lt_of_le (Array.getElem?_eq_some_iff.1 hbx2).1 HB23.out.size) (by have := hW.size; omega)).trans ((HB23.out.block Bn (Array.getElem?_eq_some_iff.1 hbx2).1).trans hbx2)
          exact ⟨pre ++ [k], k + 1, by go_num, by omega, by simp [hpl], hJ3, by rw [HJ.out]; exact HA4.out.put n'' s'' a'' b'' g'' t'' d'' e'', (hb2.trans (HB23.out.mono hb2.size)).trans (hw.below (by omega) (Nat.le_of_lt hAl)), by have := hw.size; have := HB23.out.size; omega, hAW, hbx3⟩
        case measure => simp [placeOf]; omega
      · gi_wp2
        refine bodyPost_ret (results_none rfl _ _ _) rfl ?_
        exact ⟨⟨_, rfl⟩, .inr ⟨pre ++ [k], trivial, hJx2⟩⟩
    · obtain rfl : k = m := by omega
      gi_wp2
      go_end0
      exact ⟨⟨_, rfl⟩, .inl ⟨pre, hpl, hJp⟩⟩
end Go.Proofs.Ytkjpmdpljdgcjaa
