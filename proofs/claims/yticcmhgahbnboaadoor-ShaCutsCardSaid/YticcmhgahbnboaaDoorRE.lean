/-
  frame.each: the function over which Rows goes: what it hands over, frame by frame.
-/
import Derived.Test.YticcmhgahbnboaaDoorRL
import Derived.Test.YticcmhgahbnboaaDoorFP
import Derived.Shelf.Abstract
import Derived.WalkKit
import Derived.OwnWalkIn
import Derived.TacticsInMore
import Derived.LoopNIn
import Derived.LoopIn
namespace Go.Proofs.YticcmhgahbnboaaDoor
open Go.RowKit Go.Shelf Go
set_option linter.unusedVariables false

/-- What Open can tell of its size. -/
theorem openS_cases (l : List UInt8) : (∃ e, openS l = ([], 0, e) ∧ ¬ e = 0) ∨ (∃ (m : List UInt8) (k : Nat), openS l = (m, (k : Int), 0) ∧ 6 ≤ k ∧ k ≤ l.length ∧ m.length + 6 ≤ k) := by
  rcases findS_cases l with ⟨e, hf, he⟩ | ⟨s, t, hf, h2, hst, ht⟩
  · exact .inl ⟨e, openS_bad hf he, he⟩
  · exact .inr ⟨_, t + 4, openS_good hf, by omega, by omega, by simp; omega⟩

/-- What is handed over: a slice, the bytes that it reads as, how many bytes the frame has, the error. -/
structure Fx where
  v : Value
  m : List UInt8
  size : Int
  e : Int
def Fx.encs (x : Fx) : Array Value := #[.agg #[x.v, .int .i64 x.size], .int .i64 x.e]

/-- What is known of what is handed over, behind so many. -/
def Fx.good (pre : List Fx) (x : Fx) : Prop := pre.length < 100000 ∧ (∃ a n c, x.v = .slice a n c) ∧ 0 ≤ x.size ∧ x.size ≤ 100000

/-- What has been handed over from the beginning on to place a. -/
inductive Walked (l : List UInt8) (B : Nat) (W : World) : List Fx → Nat → Prop
  | nil : Walked l B W [] 0
  | snoc {pre : List Fx} {a : Nat} {x : Fx} (h : Walked l B W pre a) (hok : ∀ y ∈ pre, y.e = 0) (ha : a < l.length) (ho : openS (l.drop a) = (x.m, x.size, x.e)) (hv : OwnB W B 5 x.v x.m) : Walked l B W (pre ++ [x]) (a + x.size.toNat)

theorem Walked.le {l : List UInt8} {B : Nat} {W : World} {xs : List Fx} {a : Nat} (h : Walked l B W xs a) (hok : ∀ y ∈ xs, y.e = 0) : xs.length ≤ a ∧ a ≤ l.length := by
  induction h with
  | nil => exact ⟨Nat.le_refl _, Nat.zero_le _⟩
  | snoc h hok' ha ho hv ih =>
    rename_i pre a x
    have hx := hok x (by simp)
    obtain ⟨h1, h2⟩ := ih hok'
    rcases openS_cases (l.drop a) with ⟨e, he, hne⟩ | ⟨m', k', he, h6, hkl, _⟩
    · rw [ho] at he; injection he with he1 he2; injection he2 with he2 he3; rw [hx] at he3; exact absurd he3.symm hne
    · rw [ho] at he
      injection he with he1 he2
      injection he2 with he2 he3
      rw [List.length_drop] at hkl
      simp; omega

/-- What a round keeps: what lay below, what holds bytes, and the box of the slice. -/
structure KB (n₀ Bn : Nat) (W W' : World) : Prop where
  below : Below n₀ W W'
  bytes : ∀ (k : Nat) cs fr, W.heap[k]? = some (.cells cs 5 fr) → W'.heap[k]? = some (.cells cs 5 fr)
  box : ∀ (o : Obj), W.heap[Bn]? = some o → W'.heap[Bn]? = some o
theorem KB.refl (n₀ Bn : Nat) (W : World) : KB n₀ Bn W W := ⟨Below.refl _ _, fun _ _ _ h => h, fun _ h => h⟩
theorem KB.trans {n₀ Bn : Nat} {A B C : World} (h : KB n₀ Bn A B) (k : KB n₀ Bn B C) : KB n₀ Bn A C :=
  ⟨h.below.trans k.below, fun i cs fr hi => k.bytes i cs fr (h.bytes i cs fr hi), fun o ho => k.box o (h.box o ho)⟩
theorem KB.of_below {n₀ Bn : Nat} {W W' : World} (hn : n₀ ≤ W.heap.size) (h : Below W.heap.size W W') : KB n₀ Bn W W' :=
  ⟨h.mono hn, fun k cs fr hk => (h.block k (Array.getElem?_eq_some_iff.1 hk).1).trans hk, fun o hk => (h.block Bn (Array.getElem?_eq_some_iff.1 hk).1).trans hk⟩
theorem KB.putObj {n₀ Bn : Nat} (W : World) (l : Nat) (o o' : Obj) (hl : n₀ ≤ l) (hb : Bn < l) (h : W.heap[l]? = some o) (ho : o.isCells = false) : KB n₀ Bn W (W.putObj l o') :=
  ⟨(Below.refl n₀ W).grown (grownBy_putObj' W l o') (by have := (Array.getElem?_eq_some_iff.1 h).1; omega) (fun k e => by cases e; omega),
   fun k cs fr hk => (World.putObj_heap_other (by rintro rfl; rw [h] at hk; cases hk; cases ho)).trans hk,
   fun o hk => (World.putObj_heap_other (by omega)).trans hk⟩
/-- What holds bytes is as it was. -/
def SameBytes (W W' : World) : Prop := ∀ (k : Nat) cs fr, W.heap[k]? = some (.cells cs 5 fr) → W'.heap[k]? = some (.cells cs 5 fr)
theorem SameBytes.turn {X Y : World} {row : Option Nat} (hg : X.grownBy Y row) (hr : ∀ r, row = some r → ∃ o : Obj, X.heap[r]? = some o ∧ o.isCells = false) : SameBytes X Y :=
  fun k cs fr hk => (hg.block k (Array.getElem?_eq_some_iff.1 hk).1 (fun e => by obtain ⟨o, ho, hc⟩ := hr k e.symm; rw [hk] at ho; cases ho; cases hc)).trans hk
theorem OwnB.keptBytes {W W' : World} {B : Nat} {v : Value} {m : List UInt8} (h : OwnB W B 5 v m) (k : SameBytes W W') : OwnB W' B 5 v m := by
  refine ⟨h.1, ?_⟩
  rcases h.2 with hn | ⟨g, cap, cur, rfl, hB, hg, rest⟩
  · exact .inl hn
  · exact .inr ⟨g, cap, cur, rfl, hB, k _ _ _ hg, rest⟩
theorem Walked.keptBytes {l : List UInt8} {B : Nat} {W W' : World} {xs : List Fx} {a : Nat} (h : Walked l B W xs a) (k : SameBytes W W') : Walked l B W' xs a := by
  induction h with
  | nil => exact .nil
  | snoc h hok ha ho hv ih => exact .snoc ih hok ha ho (hv.keptBytes k)
theorem OwnB.keptKB {n₀ Bn : Nat} {W W' : World} {B : Nat} {v : Value} {m : List UInt8} (h : OwnB W B 5 v m) (k : KB n₀ Bn W W') : OwnB W' B 5 v m := h.keptBytes k.bytes
theorem Walked.kept {l : List UInt8} {B n₀ Bn : Nat} {W W' : World} {xs : List Fx} {a : Nat} (h : Walked l B W xs a) (k : KB n₀ Bn W W') : Walked l B W' xs a := h.keptBytes k.bytes

theorem grown_of_below {W W' : World} (h : Below W.heap.size W W') : W.grownBy W' none :=
  ⟨h.os, h.tape, h.output, h.size, fun i hi _ => h.block i hi⟩

/-- The value of the place at which each stands. -/
def placeOf : Value → Nat | .int _ n => n.toNat | _ => 0

set_option maxRecDepth 100000 in
set_option maxHeartbeats 400000 in
theorem each_c {w : World} {a : Option Addr} {n cap : Nat} :
    Calls Tryd.prog 41 #[.slice a n cap] w fun e w' => e = .returned (.func (.func 58) #[] #[.pointer (some ⟨w.heap.size, 0, none⟩)]) ∧ w' = w.alloc (.cells #[.slice a n cap] 22) := by
  go_enter Tryd.func41, Tryd.ntmps41
  go_wp2
  go_ret
  exact ⟨rfl, rfl⟩

set_option maxRecDepth 100000 in
set_option maxHeartbeats 1600000 in
theorem each_tells {w0 w : World} {a : Option Addr} {n cap : Nat} {l : List UInt8} (hb : Bys w0 a n cap l) (hn : n ≤ 100000) (hw : Below w0.heap.size w0 w) (N Bn : Nat) (hBn : Bn < w.heap.size)
    (hc : w.heap[Bn]? = some (.cells #[.slice a n cap] 22 (0, 0))) :
    SeqTells Fence.wide N Tryd.prog 58 #[.pointer (some ⟨Bn, 0, none⟩)] Fx.encs (KB w0.heap.size Bn) Fx.good (fun x => x.e = 0)
      (fun xs W => (∀ y ∈ xs, y.e = 0) ∧ Walked l w0.heap.size W xs l.length) (fun xs W => ∃ a, Walked l w0.heap.size W xs a) w := fun q J Jx W hW hJ hY h0 => by
  have hle := hb.le
  have hmax := hb.max
  have hlen := hb.len
  refine callsIn_of_wp Tryd.func58 rfl trivial ?_ rfl
  simp only [Tryd.ntmps58, List.size_toArray, List.length_cons, List.length_nil, Nat.reduceAdd, Nat.reduceSub, Array.replicate_succ, Array.replicate_zero, List.push_toArray, List.append_toArray, List.nil_append, List.cons_append]
  have HLEN := Lib.hid hlen
  clear hlen
  gi_wp2
  gi_loopw [3] (fun p wr => ∃ (pre : List Fx) (k : Nat), p = .int .i64 k ∧ k ≤ n ∧ Walked l w0.heap.size wr pre k ∧ (∀ y ∈ pre, y.e = 0) ∧ J pre wr ∧ Below w0.heap.size w0 wr ∧ w0.heap.size ≤ wr.heap.size ∧ W.heap.size ≤ wr.heap.size ∧ wr.heap[Bn]? = some (.cells #[.slice a n cap] 22 (0, 0)))
    (fun p wr => n - placeOf p)
  case atStart =>
    exact ⟨[], 0, rfl, Nat.zero_le _, .nil, by simp, h0, hw.trans (hW.mono hw.size), Nat.le_trans hw.size hW.size, Nat.le_refl _, (hW.block Bn hBn).trans hc⟩
  case round =>
    obtain ⟨pre, k, rfl, hk, hwk, hok, hJp, hbw, hsz, hsW, hbox⟩ := hrel
    have hcell : wr.cell? ⟨Bn, 0, none⟩ = some (.slice a n cap) := by simp [World.cell?, hbox]
    by_cases hlt : k < n
    · obtain ⟨b, off, rfl⟩ : ∃ b off, a = some ⟨b, off, none⟩ := by
        rcases hb.adr with h | ⟨b, off, h, _⟩
        · omega
        · exact ⟨b, off, h⟩
      have hdr := (hb.below hbw).drop (q := k) hk
      rw [Option.map_some, addr_add] at hdr
      have hcq : ¬ cap = k := by omega
      have hki : (k : Int) ≤ (n : Int) ∧ (k : Int) < (n : Int) := by omega
      obtain ⟨⟨m, sz, er⟩, hO⟩ : ∃ o, openS (l.drop k) = o := ⟨_, rfl⟩
      have hlk : (l.drop k).length = n - k := by rw [List.length_drop, HLEN.out]
      have hszb : 0 ≤ sz ∧ sz ≤ (n : Int) - (k : Int) ∧ (er = 0 → 6 ≤ sz) := by
        rcases openS_cases (l.drop k) with ⟨e, he, hne⟩ | ⟨m', k', he, h6, hkl, _⟩
        · rw [hO] at he
          cases he
          exact ⟨by omega, by omega, fun h => absurd h hne⟩
        · rw [hO] at he
          cases he
          exact ⟨by omega, by omega, fun _ => by omega⟩
      have HC : Hid (Calls Tryd.prog 16 #[.slice (some ⟨b, off + k, none⟩) (n - k) (cap - k)] wr fun e w1 => ∃ v, e = .returned (.tuple #[v, .int .i64 sz, .int .i64 er]) ∧ OwnB w1 wr.heap.size 5 v m ∧ Below wr.heap.size wr w1) :=
        Lib.hid (by have := open_c hdr (by omega); unfold OpenPost at this; rw [hO] at this; exact this)
      have HO := Lib.hid hO
      have hpl := (hwk.le hok).1
      have HWK := Lib.hid hwk
      have HOK := Lib.hid hok
      have HBOX := Lib.hid hbox
      clear hO hwk hok hbox hlk hdr
      gi_wp2_with fail
      refine ⟨trivial, fun h => (by cases h), (callsIn_wide.2 HC.out).mono ?_⟩
      rintro e w1 ⟨v, rfl, hov, hbv⟩
      obtain ⟨av, cv, hve, _⟩ := hov.bys
      obtain ⟨lv, hlv⟩ : ∃ lv, m.length = lv := ⟨_, rfl⟩
      rw [hlv] at hve
      have HLV := Lib.hid hlv
      clear hlv
      subst hve
      obtain ⟨fn, tmps, assign, body, hy, hR⟩ := hY pre ⟨.slice av lv cv, m, sz, er⟩ w1 (hJ pre wr w1 none hJp (grown_of_below hbv) (fun r e => by cases e)) ⟨by omega, ⟨_, _, _, rfl⟩, by show (0 : Int) ≤ sz; omega, by show sz ≤ 100000; omega⟩
      dsimp only [Fx.encs] at hy
      gi_wp2
      refine ⟨fun h => (by cases h), hR.mono ?_⟩
      rintro e W2 (⟨rfl, hJ2, hk2, hg⟩ | ⟨rfl, hJx2, hk2⟩)
      · have hg0 : er = 0 := hg
        have hk02 : KB w0.heap.size Bn wr W2 := (KB.of_below hsz hbv).trans hk2
        have HW := Lib.hid (Walked.snoc (x := ⟨.slice av lv cv, m, sz, er⟩) (HWK.out.kept hk02) HOK.out (by rw [HLEN.out]; exact hlt) HO.out ((hov.mono hsz).keptKB hk2))
        have HOK2 : Hid (∀ y ∈ pre ++ [(⟨.slice av lv cv, m, sz, er⟩ : Fx)], y.e = 0) := Lib.hid (by
          intro y hy; rcases List.mem_append.1 hy with h | h
          · exact HOK.out y h
          · rw [List.mem_singleton.1 h]; exact hg0)
        have hs2 : wr.heap.size ≤ W2.heap.size := Nat.le_trans hbv.size hk2.below.size
        have h6 := hszb.2.2 hg0
        clear hg hg0 hy hR
        gi_wp2
        go_roundw
        case rel => exact ⟨pre ++ [⟨.slice av lv cv, m, sz, er⟩], k + sz.toNat, by congr 1; omega, by omega, HW.out, HOK2.out, hJ2, hbw.trans hk02.below, Nat.le_trans hsz hs2, Nat.le_trans hsW hs2, hk02.box _ HBOX.out⟩
        case measure => simp [placeOf]; omega
      · have hk02 : KB w0.heap.size Bn wr W2 := (KB.of_below hsz hbv).trans hk2
        have HW := Lib.hid (Walked.snoc (x := ⟨.slice av lv cv, m, sz, er⟩) (HWK.out.kept hk02) HOK.out (by rw [HLEN.out]; exact hlt) HO.out ((hov.mono hsz).keptKB hk2))
        clear hy hR
        gi_wp2
        refine bodyPost_ret (results_none rfl _ _ _) rfl ?_
        exact ⟨⟨_, rfl⟩, .inr ⟨pre ++ [⟨.slice av lv cv, m, sz, er⟩], ⟨_, HW.out⟩, hJx2⟩⟩
    · obtain rfl : k = n := by omega
      gi_wp2
      go_end0
      exact ⟨⟨_, rfl⟩, .inl ⟨pre, ⟨hok, by rw [HLEN.out]; exact hwk⟩, hJp⟩⟩
end Go.Proofs.YticcmhgahbnboaaDoor
