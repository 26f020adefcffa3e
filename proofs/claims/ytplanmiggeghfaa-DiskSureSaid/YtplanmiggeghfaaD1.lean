/-
  Disk: the state of a disk, its calls on it; a disk in memory, with what it may turn.
-/
import Derived.Test.YtplanmiggeghfaaAp
import Derived.Test.YtplanmiggeghfaaV0
import Derived.Test.YtplanmiggeghfaaDT
import Derived.Test.YtplanmiggeghfaaDQ
import Derived.Maps.RangeWalk
import Derived.Maps.OwnSet
import Derived.Maps.OwnOps
import Derived.Lib.MinMax
namespace Go.Proofs.Ytplanmiggeghfaa
open Go.RowKit Go Go.Sort Go.Maps
set_option linter.unusedVariables false
set_option maxRecDepth 20000

/-- A file: its name, its bytes, how many of them are sure. -/
structure Fi where
  nm : List UInt8
  b : List UInt8
  su : Nat
/-- A disk. -/
structure Ds where
  room : Int
  F : List Fi
  on : Bool
  ops : Int
  fails : Int
  plan : Bool
  pn : Int
  keep : Int
def wr64 (x : Int) : Int := IntKind.i64.wrap x
def loseN (keep : Int) (l s : Nat) : Nat := s + (min (max keep 0) ((l : Int) - (s : Int))).toNat
def Fi.lose (keep : Int) (f : Fi) : Fi := ⟨f.nm, f.b.take (loseN keep f.b.length f.su), loseN keep f.b.length f.su⟩
def setF (nm : List UInt8) (g : Fi → Fi) (F : List Fi) : List Fi := F.map (fun f => if f.nm = nm then g f else f)
def insF (f : Fi) : List Fi → List Fi
  | [] => [f]
  | y :: r => if Op.bytesLess f.nm y.nm then f :: y :: r else y :: insF f r
def delF (nm : List UInt8) (F : List Fi) : List Fi := F.filter (fun f => !(f.nm == nm))
def lookF (F : List Fi) (nm : List UInt8) : Option Fi := F.find? (fun f => f.nm == nm)
def usedF (F : List Fi) : Nat := (F.map (fun f => f.b.length)).sum
def nmB (c : UInt8) : Bool := (97 ≤ c && c ≤ 122) || (48 ≤ c && c ≤ 57)
def goodNm (s : List UInt8) : Bool := decide (1 ≤ s.length ∧ s.length ≤ 24) && s.all nmB
def Ds.lost (st : Ds) (keep : Int) (F : List Fi) : Ds := { st with F := F.map (Fi.lose keep), on := false, fails := wr64 (st.fails + 1), plan := false }
def Ds.opd (st : Ds) (gd ga : List Fi → List Fi) : Int × Ds :=
  if st.plan = true ∧ st.pn = 0 then (150, st.lost st.keep (ga st.F))
  else (0, { st with F := gd st.F, ops := wr64 (st.ops + 1), pn := if st.plan = true then st.pn - 1 else st.pn })
def Ds.make (st : Ds) (nm : List UInt8) : Int × Ds :=
  if st.on = false then (150, st) else if goodNm nm = false then (2, st) else if (lookF st.F nm).isSome = true then (153, st) else if 64 ≤ st.F.length then (151, st) else st.opd (insF ⟨nm, [], 0⟩) id
def Ds.append (st : Ds) (nm b : List UInt8) : Int × Ds :=
  if st.on = false then (150, st) else match lookF st.F nm with
  | none => (152, st)
  | some f => if 1048576 < f.b.length + b.length then (3, st) else if st.room < (usedF st.F : Int) + b.length then (151, st) else st.opd (setF nm fun f => ⟨f.nm, f.b ++ b, f.su⟩) (setF nm fun f => ⟨f.nm, f.b ++ b, f.su⟩)
def Ds.sync (st : Ds) (nm : List UInt8) : Int × Ds :=
  if st.on = false then (150, st) else match lookF st.F nm with
  | none => (152, st)
  | some f => st.opd (setF nm fun f => ⟨f.nm, f.b, f.b.length⟩) id
def Ds.cut (st : Ds) (nm : List UInt8) (n : Int) : Int × Ds :=
  if st.on = false then (150, st) else match lookF st.F nm with
  | none => (152, st)
  | some f => if n < 0 ∨ (f.b.length : Int) < n then (2, st) else st.opd (setF nm fun f => ⟨f.nm, f.b.take n.toNat, min f.su n.toNat⟩) id
def Ds.drop (st : Ds) (nm : List UInt8) : Int × Ds :=
  if st.on = false then (150, st) else match lookF st.F nm with
  | none => (152, st)
  | some f => st.opd (delF nm) id
def Ds.arm (st : Ds) (n keep : Int) : Int × Ds :=
  if st.on = false then (150, st) else if n < 0 then (2, st) else (0, { st with plan := true, pn := n, keep := keep })
def Ds.fail (st : Ds) (keep : Int) : Int × Ds := if st.on = false then (150, st) else (0, st.lost keep st.F)
def Ds.power (st : Ds) : Ds := { st with on := true }
def Ds.read (st : Ds) (nm : List UInt8) : Option (List UInt8) × Int :=
  if st.on = false then (none, 150) else match lookF st.F nm with
  | none => (none, 152)
  | some f => (some f.b, 0)
structure Ds.Ok (st : Ds) : Prop where
  len : st.F.length ≤ 64
  each : ∀ f ∈ st.F, f.b.length ≤ 1048576 ∧ f.su ≤ f.b.length ∧ f.nm.length ≤ 24
  asc : st.F.Pairwise (fun a b => Op.bytesLess a.nm b.nm = true)
  pn : 0 ≤ st.pn ∧ st.pn ≤ 9223372036854775807
  room : 0 ≤ st.room ∧ st.room ≤ 1073741824

theorem before_less : ∀ a b : List UInt8, bytesBefore a b = Op.bytesLess a b
  | [], [] => rfl
  | [], _ :: _ => rfl
  | _ :: _, [] => rfl
  | a :: r, b :: s => by simp only [bytesBefore, Op.bytesLess]; rw [before_less r s]
theorem less_irr : ∀ a : List UInt8, Op.bytesLess a a = false
  | [] => rfl
  | a :: r => by simp [Op.bytesLess, less_irr r]
theorem less_trans : ∀ {a b c : List UInt8}, Op.bytesLess a b = true → Op.bytesLess b c = true → Op.bytesLess a c = true
  | _, b, [], h, h' => by cases b <;> simp [Op.bytesLess] at h'
  | a, [], _ :: _, h, h' => by cases a <;> simp [Op.bytesLess] at h
  | [], _ :: _, _ :: _, h, h' => rfl
  | a :: x, b :: y, c :: z, h, h' => by
    simp only [Op.bytesLess, Bool.or_eq_true, decide_eq_true_eq, Bool.and_eq_true, beq_iff_eq] at h h' ⊢
    rcases h with h | ⟨rfl, h⟩ <;> rcases h' with h' | ⟨rfl, h'⟩
    · exact .inl (UInt8.lt_trans h h')
    · exact .inl h
    · exact .inl h'
    · exact .inr ⟨rfl, less_trans h h'⟩
theorem less_tri : ∀ a b : List UInt8, Op.bytesLess a b = true ∨ a = b ∨ Op.bytesLess b a = true
  | [], [] => .inr (.inl rfl)
  | [], _ :: _ => .inl rfl
  | _ :: _, [] => .inr (.inr rfl)
  | a :: x, b :: y => by
    simp only [Op.bytesLess, Bool.or_eq_true, decide_eq_true_eq, Bool.and_eq_true, beq_iff_eq]
    rcases UInt8.lt_or_lt_of_ne (a := a) (b := b) |> fun h => (Classical.em (a = b)).imp_right h with rfl | h
    · rcases less_tri x y with h | rfl | h
      · exact .inl (.inr ⟨rfl, h⟩)
      · exact .inr (.inl rfl)
      · exact .inr (.inr (.inr ⟨rfl, h⟩))
    · rcases h with h | h
      · exact .inl (.inl h)
      · exact .inr (.inr (.inl h))
theorem less_ne {a b : List UInt8} (h : Op.bytesLess a b = true) : a ≠ b := fun e => by rw [e, less_irr] at h; cases h

/-- A file in memory: its box, its bytes' slice. -/
structure Fl where
  g : Nat
  v : Value
  f : Fi
def Fl.zero : Fl := ⟨0, .slice none 0 0, ⟨[], [], 0⟩⟩
def ptrElem : Value → Option (DataW Unit × List MemPlace)
  | .pointer none => some (.nil, [])
  | .pointer (some ⟨g, 0, none⟩) => some (.lit (.int .i64 (g : Int)), [])
  | _ => none
def mapL (FS : List Fl) : List (Lit × DataW Unit) := FS.map fun x => (.string x.f.nm, .lit (.int .i64 (x.g : Int)))
def mapD (FS : List Fl) : DataW Unit := .map (mapL FS)
structure FilesB (W : World) (FS : List Fl) : Prop where
  box : ∀ x ∈ FS, W.heap[x.g]? = some (.cells #[x.v, .int .i64 (x.f.su : Int)] 98 (0, 0))
  own : ∀ x ∈ FS, OwnB W 0 5 x.v x.f.b
  apart : FS.Pairwise (fun a b => a.g ≠ b.g ∧ ∀ k, a.v.ownBlock = some k → b.v.ownBlock ≠ some k)
structure DiskIn (W : World) (q m : Nat) (pv : Value) (FS : List Fl) (st : Ds) : Prop where
  head : W.heap[q]? = some (.cells #[.map (some m), .int .i64 st.room, .bool st.on, .int .i64 st.ops, .int .i64 st.fails, pv] 85 (0, 0))
  plan : (st.plan = false ∧ pv = .pointer none) ∨ (st.plan = true ∧ ∃ gp, pv = .pointer (some ⟨gp, 0, none⟩) ∧ W.heap[gp]? = some (.cells #[.int .i64 st.pn, .int .i64 st.keep] 108 (0, 0)))
  map : W.ownsMap Try.prog 9 ptrElem m FS.length (mapD FS)
  fb : FilesB W FS
  pr : FS.map Fl.f = st.F
  ok : st.Ok
def foot (q m : Nat) (pv : Value) (FS : List Fl) (k : Nat) : Prop := k = q ∨ k = m ∨ pv = .pointer (some ⟨k, 0, none⟩) ∨ ∃ x ∈ FS, k = x.g ∨ x.v.ownBlock = some k
/-- Of what was there nothing but what F tells has turned. -/
structure Trn (F : Nat → Prop) (W W' : World) : Prop where
  os : W'.os = W.os
  tape : W'.tape = W.tape
  output : W'.output = W.output
  size : W.heap.size ≤ W'.heap.size
  block : ∀ k, k < W.heap.size → ¬ F k → W'.heap[k]? = W.heap[k]?
section
variable {F F' : Nat → Prop} {W W' W'' : World}
theorem Trn.of (h : Below W.heap.size W W') : Trn F W W' := ⟨h.os, h.tape, h.output, h.size, fun k hk _ => h.block k hk⟩
theorem Trn.refl : Trn F W W := Trn.of (Below.refl _ _)
theorem Trn.trans (h : Trn F W W') (h' : Trn F' W' W'') (hs : ∀ k, F' k → F k ∨ W.heap.size ≤ k) : Trn F W W'' :=
  ⟨h'.os.trans h.os, h'.tape.trans h.tape, h'.output.trans h.output, Nat.le_trans h.size h'.size, fun k hk hn => (h'.block k (Nat.lt_of_lt_of_le hk h.size) (fun hf => by rcases hs k hf with h1 | h1; exact hn h1; omega)).trans (h.block k hk hn)⟩
theorem Trn.then (h : Trn F W W') (h' : Trn F W' W'') : Trn F W W'' := h.trans h' fun k hk => .inl hk
theorem Trn.mono (h : Trn F W W') (hs : ∀ k, F k → F' k) : Trn F' W W' := ⟨h.os, h.tape, h.output, h.size, fun k hk hn => h.block k hk fun hf => hn (hs k hf)⟩
theorem Trn.base {B : Nat} (h : Trn F W W') (hB : B ≤ W.heap.size) (hF : ∀ k, F k → B ≤ k) : Below B W W' := ⟨h.os, h.tape, h.output, h.size, fun k hk => h.block k (by omega) fun hf => by have := hF k hf; omega⟩
theorem Trn.grown {row : Option Nat} (h : W.grownBy W' row) (hr : ∀ k, row = some k → F k) : Trn F W W' := ⟨h.os, h.tape, h.output, h.size, fun k hk hn => h.block k hk fun e => hn (hr k e.symm)⟩
theorem Trn.set {p : Addr} {v : Value} (h : Trn F W W') (hp : F p.block ∨ W.heap.size ≤ p.block) : Trn F W (W'.setCell p v) :=
  ⟨h.os, h.tape, h.output, by rw [World.size_setCell]; exact h.size, fun k hk hn => (heap_setCell_other W' p k v (fun e => by rcases hp with hp | hp; exact hn (e ▸ hp); omega)).trans (h.block k hk hn)⟩
theorem Trn.heap {k : Nat} {o : Obj} (h : Trn F W W') (hk : W.heap[k]? = some o) (hn : ¬ F k) : W'.heap[k]? = some o := (h.block k (Array.getElem?_eq_some_iff.1 hk).1 hn).trans hk
end
theorem tneD {W : World} {k : Nat} {c c' : Array Value} {t t' : TypeId} {f f' : Nat × Nat} (h1 : W.heap[k]? = some (.cells c t f)) (h2 : W.heap[k]? = some (.cells c' t' f')) : t = t' := by
  rw [h1] at h2; injection h2 with h2; injection h2
theorem OwnB.blkD {w : World} {B : Nat} {e : TypeId} {v : Value} {l : List UInt8} (h : OwnB w B e v l) {k : Nat} (hk : v.ownBlock = some k) : ∃ cur, w.heap[k]? = some (.cells cur e (0, 0)) := by
  rcases h.2 with ⟨rfl, hn⟩ | ⟨g, cap, cur, rfl, hB, hg, rest⟩
  · cases hk
  · injection hk with hk; subst hk; exact ⟨cur, hg⟩
theorem OwnB.of_blk {w w' : World} {B : Nat} {e : TypeId} {v : Value} {l : List UInt8} (h : OwnB w B e v l) (hb : ∀ k, v.ownBlock = some k → w'.heap[k]? = w.heap[k]?) : OwnB w' B e v l := by
  refine ⟨h.1, ?_⟩
  rcases h.2 with hn | ⟨g, cap, cur, rfl, hB, hg, rest⟩
  · exact .inl hn
  · exact .inr ⟨g, cap, cur, rfl, hB, by rw [hb g rfl]; exact hg, rest⟩
theorem OwnB.take {w : World} {B : Nat} {e : TypeId} {a : Option Addr} {n c i : Nat} {l : List UInt8} (h : OwnB w B e (.slice a n c) l) (hi : i ≤ l.length) : OwnB w B e (.slice a i c) (l.take i) := by
  obtain ⟨h1, h2⟩ := h
  have hl : (l.take i).length = i := by rw [List.length_take]; omega
  have hu : u8v (l.take i) = (u8v l).take i := by simp [u8v, List.map_take]
  refine ⟨by rw [u8v_length, Nat.mul_one], ?_⟩
  rcases h2 with ⟨hv, hn⟩ | ⟨g, cap, cur, hv, hB, hg, hnc, hcm, hcs, htake⟩
  · injection hv with x1 x2 x3
    subst x1 x3
    exact .inl ⟨by rw [show i = 0 by omega], by rw [hl]; omega⟩
  · injection hv with x1 x2 x3
    subst x1 x3
    refine .inr ⟨g, c, cur, by rw [hl], hB, hg, by rw [hl]; omega, hcm, hcs, ?_⟩
    rw [hl, hu, ← htake, List.take_take]
    congr 1
    omega
theorem FilesB.keep {W W' : World} {FS : List Fl} (h : FilesB W FS) (hk : ∀ x ∈ FS, W'.heap[x.g]? = W.heap[x.g]? ∧ ∀ k, x.v.ownBlock = some k → W'.heap[k]? = W.heap[k]?) : FilesB W' FS :=
  ⟨fun x hx => (hk x hx).1.trans (h.box x hx), fun x hx => (h.own x hx).of_blk (hk x hx).2, h.apart⟩
theorem ownsMap_keep {W W' : World} {m n : Nat} {D : DataW Unit} (h : W.ownsMap Try.prog 9 ptrElem m n D) (hk : W'.heap[m]? = W.heap[m]?) : W'.ownsMap Try.prog 9 ptrElem m n D := by
  obtain ⟨es, clock, h1, rest⟩ := h
  exact ⟨es, clock, hk.trans h1, rest⟩
theorem DiskIn.keep {W W' : World} {q m : Nat} {pv : Value} {FS : List Fl} {st : Ds} (h : DiskIn W q m pv FS st) (hk : ∀ k, foot q m pv FS k → W'.heap[k]? = W.heap[k]?) : DiskIn W' q m pv FS st :=
  ⟨(hk q (.inl rfl)).trans h.head, by
    rcases h.plan with h1 | ⟨h1, gp, rfl, h2⟩
    · exact .inl h1
    · exact .inr ⟨h1, gp, rfl, (hk gp (.inr (.inr (.inl rfl)))).trans h2⟩,
   ownsMap_keep h.map (hk m (.inr (.inl rfl))), h.fb.keep fun x hx => ⟨hk _ (.inr (.inr (.inr ⟨x, hx, .inl rfl⟩))), fun k hv => hk k (.inr (.inr (.inr ⟨x, hx, .inr hv⟩)))⟩, h.pr, h.ok⟩
theorem DiskIn.lt {W : World} {q m : Nat} {pv : Value} {FS : List Fl} {st : Ds} (h : DiskIn W q m pv FS st) {k : Nat} (hk : foot q m pv FS k) : k < W.heap.size := by
  rcases hk with rfl | rfl | hk | ⟨x, hx, rfl | hk⟩
  · exact (Array.getElem?_eq_some_iff.1 h.head).1
  · exact h.map.lt
  · rcases h.plan with ⟨-, h1⟩ | ⟨-, gp, h1, h2⟩
    · rw [h1] at hk; cases hk
    · rw [h1] at hk
      injection hk with hk; injection hk with hk; injection hk with hk
      subst hk
      exact (Array.getElem?_eq_some_iff.1 h2).1
  · exact (Array.getElem?_eq_some_iff.1 (h.fb.box x hx)).1
  · exact ((h.fb.own x hx).lt k hk).2
theorem DiskIn.below {W W' : World} {q m : Nat} {pv : Value} {FS : List Fl} {st : Ds} (h : DiskIn W q m pv FS st) (hb : Below W.heap.size W W') : DiskIn W' q m pv FS st := h.keep fun k hk => hb.block k (h.lt hk)
theorem DiskIn.kinds {W : World} {q m : Nat} {pv : Value} {FS : List Fl} {st : Ds} (h : DiskIn W q m pv FS st) : q ≠ m ∧ pv ≠ .pointer (some ⟨q, 0, none⟩) ∧ pv ≠ .pointer (some ⟨m, 0, none⟩) ∧
    (∀ x ∈ FS, x.g ≠ q ∧ x.g ≠ m ∧ pv ≠ .pointer (some ⟨x.g, 0, none⟩) ∧ x.v.ownBlock ≠ some q ∧ x.v.ownBlock ≠ some m) ∧ (∀ x ∈ FS, ∀ y ∈ FS, x.v.ownBlock ≠ some y.g) ∧ (∀ x ∈ FS, ∀ k, x.v.ownBlock = some k → pv ≠ .pointer (some ⟨k, 0, none⟩)) := by
  obtain ⟨es, cl, hm, -⟩ := h.map
  have hpl : ∀ k, pv = .pointer (some ⟨k, 0, none⟩) → ∃ c, W.heap[k]? = some (.cells c 108 (0, 0)) := fun k hk => by
    rcases h.plan with ⟨-, h1⟩ | ⟨-, gp, h1, h2⟩
    · rw [h1] at hk; cases hk
    · rw [h1] at hk
      injection hk with hk; injection hk with hk; injection hk with hk
      subst hk
      exact ⟨_, h2⟩
  refine ⟨fun e => ?_, fun e => ?_, fun e => ?_, fun x hx => ⟨fun e => ?_, fun e => ?_, fun e => ?_, fun e => ?_, fun e => ?_⟩, fun x hx y hy e => ?_, fun x hx k hk e => ?_⟩
  · subst e; have := h.head; rw [hm] at this; cases this
  · obtain ⟨c, hc⟩ := hpl _ e; exact absurd (tneD hc h.head) (by decide)
  · obtain ⟨c, hc⟩ := hpl _ e; rw [hm] at hc; cases hc
  · have := h.fb.box x hx; rw [e] at this; exact absurd (tneD this h.head) (by decide)
  · have := h.fb.box x hx; rw [e, hm] at this; cases this
  · obtain ⟨c, hc⟩ := hpl _ e; exact absurd (tneD hc (h.fb.box x hx)) (by decide)
  · obtain ⟨c, hc⟩ := (h.fb.own x hx).blkD e; exact absurd (tneD hc h.head) (by decide)
  · obtain ⟨c, hc⟩ := (h.fb.own x hx).blkD e; rw [hm] at hc; cases hc
  · obtain ⟨c, hc⟩ := (h.fb.own x hx).blkD e; exact absurd (tneD hc (h.fb.box y hy)) (by decide)
  · obtain ⟨c, hc⟩ := (h.fb.own x hx).blkD hk; obtain ⟨c', hc'⟩ := hpl _ e; exact absurd (tneD hc hc') (by decide)
/-- A disk, and what it may turn. -/
def Dk (W : World) (q : Nat) (st : Ds) (F : Nat → Prop) : Prop := ∃ m pv FS, DiskIn W q m pv FS st ∧ F = foot q m pv FS
theorem Dk.lt {W : World} {q : Nat} {st : Ds} {F : Nat → Prop} (h : Dk W q st F) {k : Nat} (hk : F k) : k < W.heap.size := by
  obtain ⟨m, pv, FS, h1, rfl⟩ := h; exact h1.lt hk
theorem Dk.keep {W W' : World} {q : Nat} {st : Ds} {F : Nat → Prop} (h : Dk W q st F) (hk : ∀ k, F k → W'.heap[k]? = W.heap[k]?) : Dk W' q st F := by
  obtain ⟨m, pv, FS, h1, rfl⟩ := h; exact ⟨m, pv, FS, h1.keep hk, rfl⟩
theorem Dk.below {W W' : World} {q : Nat} {st : Ds} {F : Nat → Prop} (h : Dk W q st F) (hb : Below W.heap.size W W') : Dk W' q st F := h.keep fun k hk => hb.block k (h.lt hk)
theorem Dk.ok {W : World} {q : Nat} {st : Ds} {F : Nat → Prop} (h : Dk W q st F) : st.Ok := by
  obtain ⟨m, pv, FS, h1, rfl⟩ := h; exact h1.ok
/-- What a call leaves that turns the disk. -/
def DPost (q : Nat) (F : Nat → Prop) (v : Value) (st' : Ds) (w : World) (e : Ending) (w' : World) : Prop :=
  e = .returned v ∧ ∃ F', Dk w' q st' F' ∧ Trn F w w' ∧ ∀ k, F' k → F k ∨ w.heap.size ≤ k
/-- .. of the files alone. -/
def FPost (q m : Nat) (pv : Value) (FS : List Fl) (st : Ds) (g : List Fi → List Fi) (w : World) (e : Ending) (w' : World) : Prop :=
  e = .returned (.tuple #[]) ∧ ∃ FS', DiskIn w' q m pv FS' { st with F := g st.F } ∧ Trn (foot q m pv FS) w w' ∧ ∀ k, foot q m pv FS' k → foot q m pv FS k ∨ w.heap.size ≤ k
end Go.Proofs.Ytplanmiggeghfaa
