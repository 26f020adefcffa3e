/-
  Nets: packets and counts as mathematics; a net in memory, of the program or of the reference; what turns.
-/
import Derived.Test.YtngfohedddcboaaE0
import Derived.Test.YtngfohedddcboaaDQ
import Derived.Test.YtngfohedddcboaaDT
import Derived.Test.YtngfohedddcboaaV0
import Derived.Laws.BitsAllLaws
namespace Go.Proofs.Ytngfohedddcboaa
open Go.RowKit Go Go.Sort
set_option linter.unusedVariables false
set_option maxRecDepth 20000

structure Pk where
  frm : Int
  s : List UInt8
deriving DecidableEq
def Pk.zero : Pk := ⟨0, []⟩
def Pk.arr (x : Pk) : Array Value := #[.int .i64 x.frm, .string (text x.s)]
theorem pk_size (x : Pk) : x.arr.size = 2 := rfl
structure Nt where
  most : Int
  l : List Pk
  c0 : Int
  c1 : Int
  c2 : Int
  c3 : Int
deriving DecidableEq
def Nt.new (k : Int) : Nt := ⟨k, [], 0, 0, 0, 0⟩
structure Nt.Ok (q : Nt) (n : Nat) : Prop where
  m0 : 1 ≤ q.most
  m1 : q.most ≤ 64
  len : (q.l.length : Int) ≤ q.most
  b0 : 0 ≤ q.c0 ∧ q.c0 ≤ (n : Int)
  b1 : 0 ≤ q.c1 ∧ q.c1 ≤ (n : Int)
  b2 : 0 ≤ q.c2 ∧ q.c2 ≤ (n : Int)
  b3 : 0 ≤ q.c3 ∧ q.c3 ≤ (n : Int)
  each : ∀ p ∈ q.l, p.s.length ≤ 1048592
def Nt.send (q : Nt) (frm : Int) (b : List UInt8) : Int × Nt :=
  if ¬ (frm = 1 ∨ frm = 2) then (2, q) else if 1048592 < b.length then (3, q) else if q.most ≤ (q.l.length : Int) then (210, q) else (0, { q with l := q.l ++ [⟨frm, b⟩], c0 := q.c0 + 1 })
def Nt.has (q : Nt) (i : Int) : Prop := 0 ≤ i ∧ i < (q.l.length : Int)
instance (q : Nt) (i : Int) : Decidable (q.has i) := inferInstanceAs (Decidable (_ ∧ _))
def Nt.get (q : Nt) (i : Int) : Pk := q.l.getD i.toNat Pk.zero
def Nt.look (q : Nt) (i : Int) : Pk × Int := if q.has i then (q.get i, 0) else (Pk.zero, 211)
def Nt.rest (q : Nt) (i : Int) : List Pk := q.l.take i.toNat ++ q.l.drop (i.toNat + 1)
def Nt.took (q : Nt) (i : Int) : Nt := if q.has i then { q with l := q.rest i, c1 := q.c1 + 1 } else q
def Nt.drop (q : Nt) (i : Int) : Nt := if q.has i then { q with l := q.rest i, c2 := q.c2 + 1 } else q
def Nt.twice (q : Nt) (i : Int) : Int × Nt := if ¬ q.has i then (211, q) else if q.most ≤ (q.l.length : Int) then (210, q) else (0, { q with l := q.l ++ [q.get i], c3 := q.c3 + 1 })
/-- A byte turned by bits. -/
def xorB (x : UInt8) (z : Int) : UInt8 := UInt8.ofNat (x.toNat ^^^ z.toNat)
theorem xorB_int (x : UInt8) (z : Int) (h0 : 0 ≤ z) (h1 : z ≤ 255) : bits .xor .u8 (x.toNat : Int) z = ((xorB x z).toNat : Int) := by
  obtain ⟨n, rfl⟩ := Int.eq_ofNat_of_zero_le h0
  have hx := x.toNat_lt
  have hn : n < 256 := by omega
  rw [u8_xor_nat _ _ hx hn]
  have hlt : x.toNat ^^^ n < 256 := Nat.xor_lt_two_pow (n := 8) hx hn
  unfold xorB
  rw [UInt8.toNat_ofNat', Int.toNat_natCast, Nat.mod_eq_of_lt (by simpa using hlt)]
theorem xorB_self (x : UInt8) (z : Int) (h0 : 0 ≤ z) (h1 : z ≤ 255) : xorB (xorB x z) z = x := by
  obtain ⟨n, rfl⟩ := Int.eq_ofNat_of_zero_le h0
  have hx := x.toNat_lt
  have hn : n < 256 := by omega
  have hlt : x.toNat ^^^ n < 256 := Nat.xor_lt_two_pow (n := 8) hx hn
  unfold xorB
  rw [UInt8.toNat_ofNat', Int.toNat_natCast, Nat.mod_eq_of_lt (by simpa using hlt), Nat.xor_assoc, Nat.xor_self, Nat.xor_zero]
  simp
def Pk.turned (p : Pk) (at9 : Int) (z : Int) : Pk := ⟨p.frm, p.s.set at9.toNat (xorB (p.s.getD at9.toNat 0) z)⟩
def Nt.turn (q : Nt) (i at9 z : Int) : Int × Nt :=
  if ¬ q.has i then (211, q) else if at9 < 0 ∨ ((q.get i).s.length : Int) ≤ at9 then (2, q) else (0, { q with l := q.l.set i.toNat ((q.get i).turned at9 z) })
theorem Nt.has_get {q : Nt} {i : Int} (h : q.has i) : q.get i ∈ q.l := by
  obtain ⟨h0, h1⟩ := h
  unfold Nt.get
  rw [List.getD_eq_getElem?_getD, List.getElem?_eq_getElem (by omega)]
  exact List.getElem_mem _
theorem Nt.get_len {q : Nt} {n : Nat} (ho : q.Ok n) (i : Int) : (q.get i).s.length ≤ 1048592 := by
  by_cases h : i.toNat < q.l.length
  · unfold Nt.get
    rw [List.getD_eq_getElem?_getD, List.getElem?_eq_getElem h]
    exact ho.each _ (List.getElem_mem _)
  · unfold Nt.get
    rw [List.getD_eq_getElem?_getD, List.getElem?_eq_none (by omega)]
    simp [Pk.zero]
section
variable {q : Nt} {n : Nat}
theorem Nt.Ok.mono {m : Nat} (h : q.Ok n) (hm : n ≤ m) : q.Ok m := by
  obtain ⟨h1, h2, h3, h4, h5, h6, h7, h8⟩ := h
  exact ⟨h1, h2, h3, by omega, by omega, by omega, by omega, h8⟩
theorem Nt.Ok.send (h : q.Ok n) (frm : Int) (b : List UInt8) : (q.send frm b).2.Ok (n + 1) := by
  have h0 := h.mono (Nat.le_succ n)
  obtain ⟨h1, h2, h3, h4, h5, h6, h7, h8⟩ := h
  unfold Nt.send
  split
  · exact h0
  · split
    · exact h0
    · split
      · exact h0
      · refine ⟨h1, h2, ?_, ?_, ?_, ?_, ?_, ?_⟩ <;> simp only
        · simp; omega
        · omega
        · omega
        · omega
        · omega
        · intro p hp
          rcases List.mem_append.1 hp with hp | hp
          · exact h8 p hp
          · obtain rfl := List.mem_singleton.1 hp
            simp only; omega
theorem Nt.Ok.twice (h : q.Ok n) (i : Int) : (q.twice i).2.Ok (n + 1) := by
  have h0 := h.mono (Nat.le_succ n)
  have hg := Nt.get_len h i
  obtain ⟨h1, h2, h3, h4, h5, h6, h7, h8⟩ := h
  unfold Nt.twice
  split
  · exact h0
  · split
    · exact h0
    · refine ⟨h1, h2, ?_, ?_, ?_, ?_, ?_, ?_⟩ <;> simp only
      · simp; omega
      · omega
      · omega
      · omega
      · omega
      · intro p hp
        rcases List.mem_append.1 hp with hp | hp
        · exact h8 p hp
        · obtain rfl := List.mem_singleton.1 hp
          exact hg
theorem Nt.rest_length {i : Int} (h : q.has i) : (q.rest i).length = q.l.length - 1 := by
  obtain ⟨h0, h1⟩ := h
  unfold Nt.rest
  rw [List.length_append, List.length_take, List.length_drop]
  omega
theorem Nt.rest_each {i : Int} (ho : ∀ p ∈ q.l, p.s.length ≤ 1048592) : ∀ p ∈ q.rest i, p.s.length ≤ 1048592 := fun p hp => by
  rcases List.mem_append.1 hp with hp | hp
  · exact ho p (List.mem_of_mem_take hp)
  · exact ho p (List.mem_of_mem_drop hp)
theorem Nt.Ok.took (h : q.Ok n) (i : Int) : (q.took i).Ok (n + 1) := by
  have h0 := h.mono (Nat.le_succ n)
  unfold Nt.took
  split
  · rename_i hh
    have hr := Nt.rest_length hh
    have he := Nt.rest_each (i := i) h.each
    obtain ⟨h1, h2, h3, h4, h5, h6, h7, h8⟩ := h
    refine ⟨h1, h2, ?_, ?_, ?_, ?_, ?_, he⟩ <;> simp only <;> omega
  · exact h0
theorem Nt.Ok.drop (h : q.Ok n) (i : Int) : (q.drop i).Ok (n + 1) := by
  have h0 := h.mono (Nat.le_succ n)
  unfold Nt.drop
  split
  · rename_i hh
    have hr := Nt.rest_length hh
    have he := Nt.rest_each (i := i) h.each
    obtain ⟨h1, h2, h3, h4, h5, h6, h7, h8⟩ := h
    refine ⟨h1, h2, ?_, ?_, ?_, ?_, ?_, he⟩ <;> simp only <;> omega
  · exact h0
theorem Nt.Ok.turn (h : q.Ok n) (i at9 z : Int) : (q.turn i at9 z).2.Ok (n + 1) := by
  have h0 := h.mono (Nat.le_succ n)
  have hg := Nt.get_len h i
  obtain ⟨h1, h2, h3, h4, h5, h6, h7, h8⟩ := h
  unfold Nt.turn
  split
  · exact h0
  · split
    · exact h0
    · refine ⟨h1, h2, ?_, ?_, ?_, ?_, ?_, ?_⟩ <;> simp only
      · simp; omega
      · omega
      · omega
      · omega
      · omega
      · intro p hp
        rcases List.mem_or_eq_of_mem_set hp with hp | rfl
        · exact h8 p hp
        · simpa [Pk.turned] using hg
end

/-- Of what was there nothing but what F tells has turned. -/
structure TrN (F : Nat → Prop) (W W' : World) : Prop where
  os : W'.os = W.os
  tape : W'.tape = W.tape
  output : W'.output = W.output
  size : W.heap.size ≤ W'.heap.size
  block : ∀ k, k < W.heap.size → ¬ F k → W'.heap[k]? = W.heap[k]?
section
variable {F F' : Nat → Prop} {W W' W'' : World}
theorem TrN.of (h : Below W.heap.size W W') : TrN F W W' := ⟨h.os, h.tape, h.output, h.size, fun k hk _ => h.block k hk⟩
theorem TrN.refl : TrN F W W := TrN.of (Below.refl _ _)
theorem TrN.trans (h : TrN F W W') (h' : TrN F' W' W'') (hs : ∀ k, F' k → F k ∨ W.heap.size ≤ k) : TrN F W W'' :=
  ⟨h'.os.trans h.os, h'.tape.trans h.tape, h'.output.trans h.output, Nat.le_trans h.size h'.size, fun k hk hn => (h'.block k (Nat.lt_of_lt_of_le hk h.size) (fun hf => by rcases hs k hf with h1 | h1; exact hn h1; omega)).trans (h.block k hk hn)⟩
theorem TrN.then (h : TrN F W W') (h' : TrN F W' W'') : TrN F W W'' := h.trans h' fun k hk => .inl hk
theorem TrN.mono (h : TrN F W W') (hs : ∀ k, F k → F' k) : TrN F' W W' := ⟨h.os, h.tape, h.output, h.size, fun k hk hn => h.block k hk fun hf => hn (hs k hf)⟩
theorem TrN.base {B : Nat} (h : TrN F W W') (hB : B ≤ W.heap.size) (hF : ∀ k, F k → B ≤ k) : Below B W W' := ⟨h.os, h.tape, h.output, h.size, fun k hk => h.block k (by omega) fun hf => by have := hF k hf; omega⟩
theorem TrN.grown {row : Option Nat} (h : W.grownBy W' row) (hr : ∀ k, row = some k → F k) : TrN F W W' := ⟨h.os, h.tape, h.output, h.size, fun k hk hn => h.block k hk fun e => hn (hr k e.symm)⟩
theorem TrN.set {p : Addr} {v : Value} (h : TrN F W W') (hp : F p.block ∨ W.heap.size ≤ p.block) : TrN F W (W'.setCell p v) :=
  ⟨h.os, h.tape, h.output, by rw [World.size_setCell]; exact h.size, fun k hk hn => (heap_setCell_other W' p k v (fun e => by rcases hp with hp | hp; exact hn (e ▸ hp); omega)).trans (h.block k hk hn)⟩
theorem TrN.heap {k : Nat} {o : Obj} (h : TrN F W W') (hk : W.heap[k]? = some o) (hn : ¬ F k) : W'.heap[k]? = some o := (h.block k (Array.getElem?_eq_some_iff.1 hk).1 hn).trans hk
end
theorem tneN {W : World} {k : Nat} {c c' : Array Value} {t t' : TypeId} {f f' : Nat × Nat} (h1 : W.heap[k]? = some (.cells c t f)) (h2 : W.heap[k]? = some (.cells c' t' f')) : t = t' := by
  rw [h1] at h2; injection h2 with h2; injection h2

/-- A net in memory: its box, of the type ty, and its packets. -/
structure NtIn (W : World) (ty : TypeId) (g : Nat) (v : Value) (q : Nt) : Prop where
  ne : ty ≠ 43
  head : W.heap[g]? = some (.cells #[.int .i64 q.most, v, .int .i64 q.c0, .int .i64 q.c1, .int .i64 q.c2, .int .i64 q.c3] ty (0, 0))
  list : OwnL 2 43 Pk.arr W 0 v q.l
def nfoot (g : Nat) (v : Value) (k : Nat) : Prop := k = g ∨ v.ownBlock = some k
section
variable {W W' : World} {ty : TypeId} {g : Nat} {v : Value} {q : Nt}
theorem NtIn.keep (h : NtIn W ty g v q) (hk : ∀ k, nfoot g v k → W'.heap[k]? = W.heap[k]?) : NtIn W' ty g v q :=
  ⟨h.ne, (hk g (.inl rfl)).trans h.head, h.list.of_block (fun k hv => hk k (.inr hv))⟩
theorem NtIn.lt (h : NtIn W ty g v q) {k : Nat} (hk : nfoot g v k) : k < W.heap.size := by
  rcases hk with rfl | hk
  · exact (Array.getElem?_eq_some_iff.1 h.head).1
  · exact (h.list.lt k hk).2
theorem NtIn.below (h : NtIn W ty g v q) (hb : Below W.heap.size W W') : NtIn W' ty g v q := h.keep fun k hk => hb.block k (h.lt hk)
theorem NtIn.cs (h : NtIn W ty g v q) : W.cell? ⟨g, 0, none⟩ = some (.int .i64 q.most) ∧ W.cell? ⟨g, 1, none⟩ = some v ∧ W.cell? ⟨g, 2, none⟩ = some (.int .i64 q.c0) ∧ W.cell? ⟨g, 3, none⟩ = some (.int .i64 q.c1) ∧ W.cell? ⟨g, 4, none⟩ = some (.int .i64 q.c2) ∧ W.cell? ⟨g, 5, none⟩ = some (.int .i64 q.c3) := by
  refine ⟨?_, ?_, ?_, ?_, ?_, ?_⟩ <;> (rw [cell_of_row W g _ _ ty (0, 0) h.head]; rfl)
theorem NtIn.fz (h : NtIn W ty g v q) (i : Nat) : W.frozen? ⟨g, i, none⟩ = false := frozen_of_row W g i _ ty h.head
theorem NtIn.off (h : NtIn W ty g v q) {k : Nat} (hk : v.ownBlock = some k) : k ≠ g := by
  rintro rfl
  rcases h.list.2 with ⟨rfl, -⟩ | ⟨b, cap, cur, rfl, -, hg, -⟩
  · cases hk
  · injection hk with hk
    subst hk
    exact h.ne (tneN h.head hg)
/-- The slice, as it is read. -/
theorem NtIn.sl (h : NtIn W ty g v q) : ∃ a cap, v = .slice a q.l.length cap ∧ Ls 2 Pk.arr Pk.zero W a q.l.length cap q.l := h.list.ls pk_size
/-- A cell of the box is another. -/
theorem NtIn.box (h : NtIn W ty g v q) {q' : Nt} (hk : ∀ k, k ≠ g → k < W.heap.size → W'.heap[k]? = W.heap[k]?) (hl : q'.l = q.l)
    (hh : W'.heap[g]? = some (.cells #[.int .i64 q'.most, v, .int .i64 q'.c0, .int .i64 q'.c1, .int .i64 q'.c2, .int .i64 q'.c3] ty (0, 0))) : NtIn W' ty g v q' :=
  ⟨h.ne, hh, by rw [hl]; exact h.list.of_block (fun k hv => hk k (h.off hv) (h.list.lt k hv).2)⟩
/-- Its list is another, and the box tells of it. -/
theorem NtIn.relist (h : NtIn W ty g v q) {v' : Value} {l' : List Pk} {W3 : World} (hg : W3.heap[g]? = W.heap[g]?) (hl : OwnL 2 43 Pk.arr W3 0 v' l') : NtIn (W3.setCell ⟨g, 1, none⟩ v') ty g v' { q with l := l' } := by
  have hh := hg.trans h.head
  have h1 : (W3.setCell ⟨g, 1, none⟩ v').heap[g]? = some (.cells #[.int .i64 q.most, v', .int .i64 q.c0, .int .i64 q.c1, .int .i64 q.c2, .int .i64 q.c3] ty (0, 0)) := by
    rw [heap_setCell_same W3 g 1 _ ty _ hh]; rfl
  refine ⟨h.ne, h1, hl.of_block (fun k hv => ?_)⟩
  have hne : k ≠ g := by
    rintro rfl
    rcases hl.2 with ⟨rfl, -⟩ | ⟨b, cap, cur, rfl, -, hg9, -⟩
    · cases hv
    · injection hv with hv
      subst hv
      exact h.ne (tneN hh hg9)
  exact heap_setCell_other W3 ⟨g, 1, none⟩ k v' hne
theorem NtIn.bump0 (h : NtIn W ty g v q) (x : Int) : NtIn (W.setCell ⟨g, 2, none⟩ (.int .i64 x)) ty g v { q with c0 := x } :=
  h.box (fun k hk _ => heap_setCell_other W _ k _ hk) rfl (by rw [heap_setCell_same W g 2 _ ty _ h.head]; rfl)
theorem NtIn.bump1 (h : NtIn W ty g v q) (x : Int) : NtIn (W.setCell ⟨g, 3, none⟩ (.int .i64 x)) ty g v { q with c1 := x } :=
  h.box (fun k hk _ => heap_setCell_other W _ k _ hk) rfl (by rw [heap_setCell_same W g 3 _ ty _ h.head]; rfl)
theorem NtIn.bump2 (h : NtIn W ty g v q) (x : Int) : NtIn (W.setCell ⟨g, 4, none⟩ (.int .i64 x)) ty g v { q with c2 := x } :=
  h.box (fun k hk _ => heap_setCell_other W _ k _ hk) rfl (by rw [heap_setCell_same W g 4 _ ty _ h.head]; rfl)
theorem NtIn.bump3 (h : NtIn W ty g v q) (x : Int) : NtIn (W.setCell ⟨g, 5, none⟩ (.int .i64 x)) ty g v { q with c3 := x } :=
  h.box (fun k hk _ => heap_setCell_other W _ k _ hk) rfl (by rw [heap_setCell_same W g 5 _ ty _ h.head]; rfl)
end
/-- A net, and what it may turn. -/
def Nk (W : World) (ty : TypeId) (g : Nat) (q : Nt) (F : Nat → Prop) : Prop := ∃ v, NtIn W ty g v q ∧ F = nfoot g v
/-- What a call leaves of it. -/
def NPost (ty : TypeId) (g : Nat) (F : Nat → Prop) (r : Value) (q' : Nt) (w : World) (e : Ending) (w' : World) : Prop :=
  e = .returned r ∧ ∃ F', Nk w' ty g q' F' ∧ TrN F w w' ∧ ∀ k, F' k → F k ∨ w.heap.size ≤ k
section
variable {W W' : World} {ty : TypeId} {g : Nat} {q : Nt} {F : Nat → Prop}
theorem Nk.keep (h : Nk W ty g q F) (hk : ∀ k, F k → W'.heap[k]? = W.heap[k]?) : Nk W' ty g q F := by
  obtain ⟨v, h1, rfl⟩ := h; exact ⟨v, h1.keep hk, rfl⟩
theorem Nk.lt (h : Nk W ty g q F) {k : Nat} (hk : F k) : k < W.heap.size := by
  obtain ⟨v, h1, rfl⟩ := h; exact h1.lt hk
theorem Nk.below (h : Nk W ty g q F) (hb : Below W.heap.size W W') : Nk W' ty g q F := h.keep fun k hk => hb.block k (h.lt hk)
theorem nk_same (h : Nk W ty g q F) (r : Value) : NPost ty g F r q W (.returned r) W := ⟨rfl, F, h, TrN.refl, fun k hk => .inl hk⟩
end
end Go.Proofs.Ytngfohedddcboaa
