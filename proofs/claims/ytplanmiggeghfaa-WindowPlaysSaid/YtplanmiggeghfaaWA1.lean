/-
  Windows: their numbers, what Next tells, a window in memory, what a turn keeps; lists of numbers.
-/
import Derived.Test.YtplanmiggeghfaaAp
import Derived.Test.YtplanmiggeghfaaV0
import Derived.Test.YtplanmiggeghfaaDT
import Derived.Test.YtplanmiggeghfaaDQ
import Derived.Lib.MinMax
import Derived.Deep.DeepAppendWide
namespace Go.Proofs.Ytplanmiggeghfaa
open Go.RowKit Go Go.Sort
set_option linter.unusedVariables false
set_option maxRecDepth 20000

/-- n whole numbers from a on. -/
def ups (a : Int) (n : Nat) : List Int := (List.range n).map (fun (i : Nat) => a + (i : Int))
theorem ups_length (a : Int) (n : Nat) : (ups a n).length = n := by simp [ups]
theorem ups_zero (a : Int) : ups a 0 = [] := rfl
theorem ups_succ (a : Int) (n : Nat) : ups a (n + 1) = ups a n ++ [a + (n : Int)] := by
  unfold ups
  rw [List.range_succ, List.map_append]
  rfl
theorem ups_getD (a : Int) (n i : Nat) (h : i < n) : (ups a n).getD i 0 = a + (i : Int) := by
  simp [ups, List.getD, h]

/-- A window as its numbers. -/
structure Wn where
  k : Int
  t : Int
  a : Int
  s : Int
  l : Int
deriving DecidableEq
structure Wn.Ok (q : Wn) : Prop where
  k0 : 1 ≤ q.k
  k1 : q.k ≤ 16
  t0 : 1 ≤ q.t
  t1 : q.t ≤ 64
  a0 : 0 ≤ q.a
  a1 : q.a ≤ 1099511627776
  s0 : q.a ≤ q.s
  s1 : q.s ≤ q.a + q.k
  l0 : 0 ≤ q.l
  l1 : q.l ≤ 1099511627776
/-- May a window be asked so? -/
structure AskOk (ack hv now : Int) : Prop where
  a0 : 0 ≤ ack
  h0 : ack ≤ hv
  h1 : hv ≤ 1099511627776
  n0 : 0 ≤ now
  n1 : now ≤ 1099511627776
instance (ack hv now : Int) : Decidable (AskOk ack hv now) :=
  decidable_of_iff (0 ≤ ack ∧ ack ≤ hv ∧ hv ≤ 1099511627776 ∧ 0 ≤ now ∧ now ≤ 1099511627776) ⟨fun h => ⟨h.1, h.2.1, h.2.2.1, h.2.2.2.1, h.2.2.2.2⟩, fun h => ⟨h.a0, h.h0, h.h1, h.n0, h.n1⟩⟩
def Wn.ackd (q : Wn) (ack : Int) : Int := max q.a ack
/-- The number behind which it goes on. -/
def Wn.frm (q : Wn) (ack now : Int) : Int := if q.l + q.t ≤ now then q.ackd ack else max q.s (q.ackd ack)
def Wn.cnt (q : Wn) (ack hv now : Int) : Nat := (min hv (q.ackd ack + q.k) - q.frm ack now).toNat
def Wn.told (q : Wn) (ack hv now : Int) : List Int := ups (q.frm ack now + 1) (q.cnt ack hv now)
def Wn.next (q : Wn) (ack hv now : Int) : Wn :=
  ⟨q.k, q.t, q.ackd ack, q.frm ack now + (q.cnt ack hv now : Int), if q.cnt ack hv now = 0 then q.l else now⟩
def Wn.back (q : Wn) : Wn := ⟨q.k, q.t, q.a, q.a, q.l⟩
theorem Wn.Ok.back {q : Wn} (h : q.Ok) : q.back.Ok := by
  obtain ⟨h1, h2, h3, h4, h5, h6, h7, h8, h9, h10⟩ := h
  refine ⟨h1, h2, h3, h4, h5, h6, ?_, ?_, h9, h10⟩ <;> simp only [Wn.back] <;> omega
theorem Wn.Ok.frm {q : Wn} (h : q.Ok) {ack hv now : Int} (ho : AskOk ack hv now) : q.ackd ack ≤ q.frm ack now ∧ q.frm ack now ≤ q.ackd ack + q.k ∧ 0 ≤ q.ackd ack ∧ q.ackd ack ≤ 1099511627776 ∧ q.a ≤ q.ackd ack ∧ ack ≤ q.ackd ack := by
  obtain ⟨h1, h2, h3, h4, h5, h6, h7, h8, h9, h10⟩ := h
  obtain ⟨o1, o2, o3, o4, o5⟩ := ho
  unfold Wn.frm Wn.ackd
  split <;> omega
theorem Wn.Ok.cnt {q : Wn} (h : q.Ok) {ack hv now : Int} (ho : AskOk ack hv now) : q.cnt ack hv now ≤ 16 ∧ q.frm ack now + (q.cnt ack hv now : Int) ≤ q.ackd ack + q.k ∧ (q.cnt ack hv now = 0 ∨ q.frm ack now + (q.cnt ack hv now : Int) = min hv (q.ackd ack + q.k)) := by
  obtain ⟨f1, f2, f3, f4, f5, f6⟩ := h.frm ho
  obtain ⟨h1, h2, h3, h4, h5, h6, h7, h8, h9, h10⟩ := h
  unfold Wn.cnt
  omega
theorem Wn.Ok.next {q : Wn} (h : q.Ok) {ack hv now : Int} (ho : AskOk ack hv now) : (q.next ack hv now).Ok := by
  obtain ⟨f1, f2, f3, f4, f5, f6⟩ := h.frm ho
  obtain ⟨c1, c2, c3⟩ := h.cnt ho
  obtain ⟨h1, h2, h3, h4, h5, h6, h7, h8, h9, h10⟩ := h
  obtain ⟨o1, o2, o3, o4, o5⟩ := ho
  refine ⟨h1, h2, h3, h4, f3, f4, ?_, ?_, ?_, ?_⟩ <;> simp only [Wn.next] <;> (try split) <;> omega
/-- What a window tells of a question, whatever it is. -/
def Wn.ask (q : Wn) (ack hv now : Int) : Wn := if AskOk ack hv now then q.next ack hv now else q
def Wn.tell (q : Wn) (ack hv now : Int) : List Int := if AskOk ack hv now then q.told ack hv now else []
def Wn.err (ack hv now : Int) : Int := if AskOk ack hv now then 0 else 2
theorem Wn.Ok.ask {q : Wn} (h : q.Ok) (ack hv now : Int) : (q.ask ack hv now).Ok := by
  unfold Wn.ask
  split
  · exact h.next (by assumption)
  · exact h
theorem Wn.Ok.tell {q : Wn} (h : q.Ok) (ack hv now : Int) : (q.tell ack hv now).length ≤ 16 := by
  unfold Wn.tell
  split
  · unfold Wn.told
    rw [ups_length]
    exact (h.cnt (by assumption)).1
  · simp
def newOk (k t : Int) : Bool := decide (1 ≤ k ∧ k ≤ 16 ∧ 1 ≤ t ∧ t ≤ 64)
theorem Wn.new_ok {k t : Int} (h : newOk k t = true) : (⟨k, t, 0, 0, 0⟩ : Wn).Ok := by
  unfold newOk at h
  simp only [decide_eq_true_eq] at h
  refine ⟨?_, ?_, ?_, ?_, ?_, ?_, ?_, ?_, ?_, ?_⟩ <;> simp only <;> omega

/-- A window in memory. -/
def Wnd (W : World) (g : Nat) (ty : TypeId) (q : Wn) : Prop := W.heap[g]? = some (.cells #[.int .i64 q.k, .int .i64 q.t, .int .i64 q.a, .int .i64 q.s, .int .i64 q.l] ty (0, 0))
section
variable {W W' : World} {g : Nat} {ty : TypeId} {q : Wn}
theorem Wnd.lt (h : Wnd W g ty q) : g < W.heap.size := (Array.getElem?_eq_some_iff.1 h).1
theorem Wnd.kept (h : Wnd W g ty q) (hb : Below W.heap.size W W') : Wnd W' g ty q := (hb.block g h.lt).trans h
theorem Wnd.cs (h : Wnd W g ty q) : W.cell? ⟨g, 0, none⟩ = some (.int .i64 q.k) ∧ W.cell? ⟨g, 1, none⟩ = some (.int .i64 q.t) ∧ W.cell? ⟨g, 2, none⟩ = some (.int .i64 q.a) ∧ W.cell? ⟨g, 3, none⟩ = some (.int .i64 q.s) ∧ W.cell? ⟨g, 4, none⟩ = some (.int .i64 q.l) := by
  refine ⟨?_, ?_, ?_, ?_, ?_⟩ <;> (rw [cell_of_row W g _ _ ty (0, 0) h]; rfl)
theorem Wnd.fz (h : Wnd W g ty q) (i : Nat) : W.frozen? ⟨g, i, none⟩ = false := frozen_of_row W g i _ ty h
theorem Wnd.new (W : World) (ty : TypeId) (q : Wn) : Wnd (W.alloc (.cells #[.int .i64 q.k, .int .i64 q.t, .int .i64 q.a, .int .i64 q.s, .int .i64 q.l] ty)) W.heap.size ty q := heap_alloc_new W _
theorem Wnd.alloc (h : Wnd W g ty q) (o : Obj) : Wnd (W.alloc o) g ty q := (Below.heap_alloc W o g h.lt).trans h
theorem Wnd.other (h : Wnd W g ty q) (p : Addr) (v : Value) (hne : g ≠ p.block) : Wnd (W.setCell p v) g ty q := (heap_setCell_other W p g v hne).trans h
theorem Wnd.set2 (h : Wnd W g ty q) (x : Int) : Wnd (W.setCell ⟨g, 2, none⟩ (.int .i64 x)) g ty ⟨q.k, q.t, x, q.s, q.l⟩ := by
  unfold Wnd; rw [heap_setCell_same W g 2 _ ty _ h]; rfl
theorem Wnd.set3 (h : Wnd W g ty q) (x : Int) : Wnd (W.setCell ⟨g, 3, none⟩ (.int .i64 x)) g ty ⟨q.k, q.t, q.a, x, q.l⟩ := by
  unfold Wnd; rw [heap_setCell_same W g 3 _ ty _ h]; rfl
theorem Wnd.set4 (h : Wnd W g ty q) (x : Int) : Wnd (W.setCell ⟨g, 4, none⟩ (.int .i64 x)) g ty ⟨q.k, q.t, q.a, q.s, x⟩ := by
  unfold Wnd; rw [heap_setCell_same W g 4 _ ty _ h]; rfl
end
/-- Of what was there nothing but one block has turned. -/
def But (g : Nat) (w w' : World) : Prop := w.grownBy w' (some g)
section
variable {g : Nat} {w w' w'' : World}
theorem But.of (h : Below w.heap.size w w') : But g w w' := ⟨h.os, h.tape, h.output, h.size, fun k hk _ => h.block k hk⟩
theorem But.trans (h : But g w w') (h' : But g w' w'') : But g w w'' :=
  ⟨h'.os.trans h.os, h'.tape.trans h.tape, h'.output.trans h.output, Nat.le_trans h.size h'.size, fun k hk hne => (h'.block k (Nat.lt_of_lt_of_le hk h.size) hne).trans (h.block k hk hne)⟩
theorem But.set (h : But g w w') (i : Nat) (v : Value) : But g w (w'.setCell ⟨g, i, none⟩ v) :=
  ⟨h.os, h.tape, h.output, by rw [World.size_setCell]; exact h.size, fun k hk hne => (heap_setCell_other w' ⟨g, i, none⟩ k v (by simpa using hne)).trans (h.block k hk hne)⟩
theorem But.new (h : But g w w') {p : Addr} (hp : w.heap.size ≤ p.block) (v : Value) : But g w (w'.setCell p v) :=
  ⟨h.os, h.tape, h.output, by rw [World.size_setCell]; exact h.size, fun k hk hne => (heap_setCell_other w' p k v (by omega)).trans (h.block k hk hne)⟩
theorem But.alloc (h : But g w w') (o : Obj) : But g w (w'.alloc o) := h.trans (But.of (alloc_below w' o))
theorem But.base {B : Nat} (h : But g w w') (hg : B ≤ g) (hB : B ≤ w.heap.size) : Below B w w' :=
  ⟨h.os, h.tape, h.output, h.size, fun k hk => h.block k (by omega) (by simp; omega)⟩
theorem Wnd.but {k : Nat} {ty : TypeId} {q : Wn} (h : Wnd w k ty q) (hb : But g w w') (hne : k ≠ g) : Wnd w' k ty q := (hb.block k h.lt (by simpa using hne)).trans h
end
theorem own_kept {W W' : World} {B s k : Nat} {e : TypeId} {v : Value} {xs : List Value} (h : W.ownsRow B e s v k xs) (hb : Below W.heap.size W W') : W'.ownsRow B e s v k xs := by
  refine ⟨h.1, ?_⟩
  rcases h.2 with hn | ⟨g, cap, cur, rfl, hB, hg, rest⟩
  · exact .inl hn
  · exact .inr ⟨g, cap, cur, rfl, hB, by rw [hb.block g (Array.getElem?_eq_some_iff.1 hg).1]; exact hg, rest⟩
theorem own_mono {W : World} {B B' s k : Nat} {e : TypeId} {v : Value} {xs : List Value} (h : W.ownsRow B e s v k xs) (hB : B' ≤ B) : W.ownsRow B' e s v k xs := by
  refine ⟨h.1, ?_⟩
  rcases h.2 with hn | ⟨g, cap, cur, rfl, hb, rest⟩
  · exact .inl hn
  · exact .inr ⟨g, cap, cur, rfl, by omega, rest⟩
/-- A slice of ints that reads as zs. -/
structure Ns (w : World) (a : Option Addr) (n cap : Nat) (zs : List Int) : Prop where
  len : zs.length = n
  le : n ≤ cap
  max : cap ≤ 9223372036854775807
  adr : cap = 0 ∨ ∃ b off, a = some ⟨b, off, none⟩ ∧ ∀ i, i < n → w.cell? ⟨b, off + i, none⟩ = some (.int .i64 (zs.getD i 0))
theorem Ns.below {w w' : World} {a : Option Addr} {n cap : Nat} {l : List Int} (h : Ns w a n cap l) (hb : Below w.heap.size w w') : Ns w' a n cap l := by
  refine ⟨h.len, h.le, h.max, ?_⟩
  rcases h.adr with h4 | ⟨b, off, rfl, hc⟩
  · exact .inl h4
  · exact .inr ⟨b, off, rfl, fun i hi => (hb.cell (World.block_lt_of_cell? w _ (hc i hi))).trans (hc i hi)⟩
theorem Ns.at {w : World} {a : Option Addr} {n cap : Nat} {l : List Int} (h : Ns w a n cap l) {k : Nat} (hk : k < n) :
    ∃ b off, a = some ⟨b, off, none⟩ ∧ ∀ W, Below w.heap.size w W → W.cell? ⟨b, off + k, none⟩ = some (.int .i64 (l.getD k 0)) := by
  have := h.le
  rcases h.adr with h4 | ⟨b, off, rfl, hc⟩
  · omega
  · exact ⟨b, off, rfl, fun W hb => (hb.cell (World.block_lt_of_cell? w _ (hc k hk))).trans (hc k hk)⟩
/-- A slice of the call's own that reads as zs. -/
def OwnN (w : World) (B : Nat) (v : Value) (zs : List Int) : Prop := w.ownsRow B 3 1 v zs.length (zs.map (Value.int .i64))
theorem OwnN.nil (w : World) (B : Nat) : OwnN w B (.slice none 0 0) [] := World.ownsRow_nil _ _ _ _
theorem OwnN.ns {w : World} {B : Nat} {v : Value} {l : List Int} (h : OwnN w B v l) : ∃ a cap, v = .slice a l.length cap ∧ Ns w a l.length cap l := by
  obtain ⟨h1, h2⟩ := h
  rcases h2 with ⟨rfl, hn⟩ | ⟨g, cap, cur, rfl, hb, hg, hnc, hcm, hcs, htake⟩
  · exact ⟨none, 0, by rw [hn], rfl, by omega, by omega, .inl rfl⟩
  · refine ⟨_, cap, rfl, rfl, hnc, by unfold maxLen at hcm; omega, .inr ⟨g, 0, rfl, fun i hi => ?_⟩⟩
    rw [Nat.zero_add, cell_of_row w g _ cur _ (0, 0) hg]
    have h3 : (cur.toList.take (l.length * 1))[i]? = (l.map (Value.int .i64))[i]? := by rw [htake]
    rw [List.getElem?_take, if_pos (by omega)] at h3
    simp at h3
    rw [h3]
    simp [List.getD, hi]
theorem OwnN.kept {w w' : World} {B : Nat} {v : Value} {l : List Int} (h : OwnN w B v l) (hb : Below w.heap.size w w') : OwnN w' B v l := own_kept h hb
theorem OwnN.mono {w : World} {B B' : Nat} {v : Value} {l : List Int} (h : OwnN w B v l) (hB : B' ≤ B) : OwnN w B' v l := own_mono h hB
theorem OwnN.lt {w : World} {B : Nat} {v : Value} {l : List Int} (h : OwnN w B v l) : ∀ k, v.ownBlock = some k → B ≤ k ∧ k < w.heap.size := World.ownsRow.lt h
theorem Try.info3 : (Try.prog.info? 3).map (fun i => (i.zero, i.size, i.bytes)) = some (some (.int .i64 0), 1, 8) := by kernel_rfl
/-- append(v, x), v of the call's own. -/
theorem wpList_append_int {w : World} {ops : Array Oper} {rest : List Oper} {o : Oper} {a : Act} {Q : Exit → Act → World → Prop} (hgd : o.guard = none) (s x : Operand)
    (ho : o.op = .call { callee := .builtin .append, args := #[s, x], argTypes := #[68, 68] })
    {base : Nat} {v : Value} {l : List Int} (hs : a.eval s = v) (hown : OwnN w base v l) {z : Int} {e : TypeId}
    (hx : a.eval x = .slice (some ⟨w.heap.size, 0, none⟩) 1 1) (h63 : l.length ≤ 1000000000) (hbase : base ≤ w.heap.size)
    (h : ∀ v' w', OwnN w' base v' (l ++ [z]) → (w.alloc (.cells #[.int .i64 z] e)).grownBy w' v.ownBlock → wpList Try.prog ops Q rest (a.put o.dst v') w') :
    wpList Try.prog ops Q (o :: rest) a (w.alloc (.cells #[.int .i64 z] e)) := by
  obtain ⟨i0, hi, hz0, hz1, hz2⟩ := info_parts Try.info3
  refine wpList_append_own_wide (P := Try.prog) (w.alloc (.cells #[.int .i64 z] e)) hgd s x 68 ho base 3 i0 _ 1 8 Try.underlying68 hi hz0 hz1 hz2 rfl (by decide) v l.length (l.map (Value.int .i64)) hs (World.ownsRow.alloc hown _)
    ⟨w.heap.size, 0, none⟩ 1 1 [.int .i64 z] hx rfl ?_ ?_ (by unfold maxLen; omega) (by omega) (by simp; omega) ?_
  · intro j u hj
    rw [addr_add, Nat.zero_add, cell_of_row _ _ j #[.int .i64 z] e (0, 0) (by rw [heap_alloc_new])]
    rw [← hj]; simp
  · intro u hu
    simp only [List.mem_cons, List.not_mem_nil, or_false] at hu
    rcases hu with rfl
    rfl
  · intro v' w' h2 h3 _
    refine h v' w' ?_ h3
    unfold OwnN
    rw [List.length_append, List.map_append]
    exact h2

theorem below_drewN' {w0 w : World} {B : Nat} (h : Below B w0 w) (n : Nat) : Below B w0 (w.drewN n) := drewN_below h n
set_option maxHeartbeats 800000 in
theorem ints_c {w : World} {x x2 : Option Addr} {m cap cap2 : Nat} {zs : List Int} (h : Ns w x m cap zs) (h2 : Ns w x2 m cap2 zs) :
    Calls Try.prog 40 #[.slice x m cap, .slice x2 m cap2] w (Tells (.bool true) w) := by
  have h1n := h.le
  have h1m := h.max
  have HA := Lib.hid h
  have HB := Lib.hid h2
  have hne : ((m : Int) != (m : Int)) = false := by simp
  clear h h2
  go_enter Try.func40, Try.ntmps40
  go_wp2
  go_loopw [5] (fun i wr => ∃ k : Nat, k ≤ m ∧ i = .int .i64 k ∧ Below w.heap.size w wr) (fun i _ => m - (intOf i).toNat)
  case atStart => exact ⟨0, by omega, rfl, Below.refl _ _⟩
  case round =>
    obtain ⟨k, hk, rfl, hbel⟩ := hrel
    by_cases hlt : k < m
    · obtain ⟨b, off, rfl, hc⟩ := HA.out.at hlt
      obtain ⟨b2, off2, rfl, hc2⟩ := HB.out.at hlt
      have d1 := hc wr hbel
      have d2 := hc2 wr hbel
      clear hc hc2
      have hk1 : (k : Int) < (m : Int) := by omega
      have hk0 : (0 : Int) ≤ (k : Int) := by omega
      obtain ⟨z, hz⟩ : ∃ z, zs.getD k 0 = z := ⟨_, rfl⟩
      rw [hz] at d1 d2
      clear hz
      have hzz : (z != z) = false := by simp
      go_wp2
      go_quiet (fail)
      go_wp2
      go_roundw
      case rel => exact ⟨k + 1, by omega, by go_num, below_drewN' hbel _⟩
      case measure => simp [intOf]; omega
    · obtain rfl : k = m := by omega
      go_wp2
      go_ret
      exact ⟨rfl, hbel⟩
end Go.Proofs.Ytplanmiggeghfaa
