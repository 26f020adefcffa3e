/-
  SLICES OF BYTES: what append, copy and string(b) make of a slice that reads as bytes, wherever it lies. For every program with the types at hand.
-/
import Derived.Test.YtngfohedddcboaaNM
import Derived.Laws.CopyOwn
import Derived.WalkSmall
namespace Go.Proofs.Ytngfohedddcboaa
open Go.RowKit
set_option linter.unusedVariables false

/-- Bytes as cells. -/
def u8v (l : List UInt8) : List Value := l.map (fun c => Value.int .u8 (c.toNat : Int))
theorem u8v_length (l : List UInt8) : (u8v l).length = l.length := by simp [u8v]
theorem u8v_append (l m : List UInt8) : u8v (l ++ m) = u8v l ++ u8v m := by simp [u8v]
theorem u8v_get (l : List UInt8) (i : Nat) (h : i < l.length) : (u8v l)[i]? = some (.int .u8 (by8 l i)) := by
  simp [u8v, by8, List.getD, h]
theorem u8v_one (l : List UInt8) : ∀ u ∈ u8v l, u.oneCell' = true := by
  intro u hu; obtain ⟨c, _, rfl⟩ := List.mem_map.1 hu; rfl

/-- The text of bytes. -/
def text (l : List UInt8) : ByteArray := ⟨l.toArray⟩

/-- The cells behind a slice's address. -/
theorem Bys.cells {w : World} {a : Option Addr} {n cap : Nat} {l : List UInt8} (h : Bys w a n cap l) (hn : 0 < n) :
    ∃ ad, a = some ad ∧ ∀ j v, (u8v l)[j]? = some v → w.cell? (ad.add j) = some v := by
  obtain ⟨h1, h2, h3, h4⟩ := h
  rcases h4 with h4 | ⟨b, off, rfl, hc⟩
  · omega
  · refine ⟨_, rfl, fun j v hv => ?_⟩
    have hj : j < l.length := by
      have := (List.getElem?_eq_some_iff.1 hv).1
      rwa [u8v_length] at this
    rw [u8v_get l j hj] at hv
    rw [addr_add, ← hv]
    exact hc j (by omega)

theorem fold_push (l : List UInt8) (s : ByteArray) : (l.map (fun c => (c.toNat : Int))).foldl (fun r n => r.push (UInt8.ofNat n.toNat)) s = ⟨s.data ++ l.toArray⟩ := by
  induction l generalizing s with
  | nil => simp
  | cons c t ih =>
    simp only [List.map_cons, List.foldl_cons]
    rw [ih]
    simp [ByteArray.push]

section
variable {P : Program}
/-- string(b): the text of its bytes; no memory is made. -/
theorem conv_bys {w : World} {a : Option Addr} {n cap : Nat} {l : List UInt8} (h : Bys w a n cap l) {src dst e : TypeId}
    (hs : P.underlying src = some (.slice e)) (he : P.underlying e = some (.int .u8)) (hd : P.underlying dst = some .string) :
    (convert src dst (.slice a n cap)).run P w = .ok (.string (text l)) w := by
  rw [run_convert_bytes_string w src dst e a n cap hs he hd]
  by_cases hn : 0 < n
  · obtain ⟨ad, rfl, hc⟩ := h.cells hn
    have hl := run_loadCells_list (P := P) (w := w) ad (u8v l) hc
    rw [u8v_length, h.len] at hl
    have := run_bytesToString (P := P) w ad n cap (l.map (fun c => (c.toNat : Int))) (by rw [hl]; simp [u8v, Function.comp_def])
    rw [this, fold_push]
    simp [text]
  · obtain rfl : n = 0 := by omega
    have hl : l = [] := List.eq_nil_of_length_eq_zero h.len
    subst hl
    cases a with
    | none => simp [Conv.bytesToString, text]; rfl
    | some ad =>
      have hl := run_loadCells_list (P := P) (w := w) ad [] (by intro j v hv; simp at hv)
      have := run_bytesToString (P := P) w ad 0 cap [] (by simpa using hl)
      rw [this]; simp [text]; rfl

/-- A slice of the call's own that reads as the bytes l. -/
def OwnB (w : World) (B : Nat) (e : TypeId) (v : Value) (l : List UInt8) : Prop := w.ownsRow B e 1 v l.length (u8v l)

theorem OwnB.bys {w : World} {B : Nat} {e : TypeId} {v : Value} {l : List UInt8} (h : OwnB w B e v l) : ∃ a cap, v = .slice a l.length cap ∧ Bys w a l.length cap l := by
  obtain ⟨h1, h2⟩ := h
  rcases h2 with ⟨rfl, hn⟩ | ⟨g, cap, cur, rfl, hb, hg, hnc, hcm, hcs, htake⟩
  · exact ⟨none, 0, by rw [hn], rfl, by omega, by omega, .inl rfl⟩
  · refine ⟨_, cap, rfl, rfl, hnc, by unfold maxLen at hcm; omega, .inr ⟨g, 0, rfl, fun i hi => ?_⟩⟩
    rw [Nat.zero_add, cell_of_row w g i cur e (0, 0) hg]
    have h3 : (cur.toList.take (l.length * 1))[i]? = (u8v l)[i]? := by rw [htake]
    rw [List.getElem?_take, if_pos (by omega), u8v_get l i hi] at h3
    rw [← h3]; simp

/-- A row of its own that is not empty lies at a block's head. -/
theorem OwnB.row {w : World} {B : Nat} {e : TypeId} {v : Value} {l : List UInt8} (h : OwnB w B e v l) (hl : 0 < l.length) :
    ∃ g cap, v = .slice (some ⟨g, 0, none⟩) l.length cap ∧ OwnB w B e (.slice (some ⟨g, 0, none⟩) l.length cap) l := by
  have h' := h
  rcases h'.2 with ⟨rfl, hn⟩ | ⟨g, cap, cur, rfl, _⟩
  · omega
  · exact ⟨g, cap, rfl, h⟩

/-- append(v, b...), v of the call's own, b wherever it lies. -/
theorem run_append_bys {w : World} {base : Nat} {t ty e : TypeId} {i : TypeInfo} {z : Value} {bytes : Nat} (ht : P.underlying t = some (.slice e)) (hi : P.info? e = some i) (hz : i.zero = some z)
    (hsize : i.size = 1) (hby : i.bytes = 1) (hzs : z.cells.size = 1) {v : Value} {k : List UInt8} (hown : OwnB w base e v k)
    {a : Option Addr} {m c : Nat} {l : List UInt8} (hb : Bys w a m c l) (h63 : k.length + m ≤ 140737488355328) (hbase : base ≤ w.heap.size) :
    ∃ v' w', (Builtin.append_ #[t, t] ty #[v, .slice a m c]).run P w = .ok v' w' ∧ OwnB w' base e v' (k ++ l) ∧ w.grownBy w' v.ownBlock := by
  have hlen := hb.len
  by_cases hm : a = none ∧ m = 0
  · obtain ⟨rfl, rfl⟩ := hm
    have hl : l = [] := List.eq_nil_of_length_eq_zero hb.len
    subst hl
    rw [List.append_nil]
    refine ⟨v, w, ?_, hown, World.grownBy.refl _ _⟩
    have hown' := hown
    rcases hown'.2 with ⟨rfl, hn⟩ | ⟨g, cap, cur, rfl, _, _, hnc, _⟩
    · simp [Builtin.append_, run_underlying ht, sizeOf, typeInfo, hi, Builtin.lenOf, Builtin.firstCells]
    · simp [Builtin.append_, run_underlying ht, sizeOf, typeInfo, hi, Builtin.lenOf, Builtin.firstCells, hnc, storeCells]
  · obtain ⟨ad, rfl, hc⟩ : ∃ ad, a = some ad ∧ ∀ j v, (u8v l)[j]? = some v → w.cell? (ad.add j) = some v := by
      by_cases hm0 : 0 < m
      · exact hb.cells hm0
      · cases a with
        | none => exact absurd ⟨rfl, by omega⟩ hm
        | some ad =>
          have hl : l = [] := List.eq_nil_of_length_eq_zero (by omega)
          subst hl
          exact ⟨ad, rfl, fun j v hv => by simp [u8v] at hv⟩
    obtain ⟨v', w', h1, h2, h3, _⟩ := run_append_own (P := P) w base t ty e i z 1 1 ht hi hz hsize hby hzs (by decide) v k.length (u8v k) hown ad m c (u8v l) (by rw [u8v_length]; omega) hc (u8v_one l)
      (by unfold maxLen; omega) (by omega) hbase
    refine ⟨v', w', h1, ?_, h3⟩
    unfold OwnB
    rw [List.length_append, u8v_append, hlen]
    exact h2

theorem wpList_append_bys {w : World} {ops : Array Oper} {rest : List Oper} {o : Oper} {a : Act} {Q : Exit → Act → World → Prop} (hgd : o.guard = none) (s x : Operand) (t : TypeId)
    (ho : o.op = .call { callee := .builtin .append, args := #[s, x], argTypes := #[t, t] })
    {base : Nat} {e : TypeId} {i : TypeInfo} {z : Value} (ht : P.underlying t = some (.slice e)) (hi : P.info? e = some i) (hz : i.zero = some z)
    (hsize : i.size = 1) (hby : i.bytes = 1) (hzs : z.cells.size = 1) {v : Value} {k : List UInt8} (hs : a.eval s = v) (hown : OwnB w base e v k)
    {ad : Option Addr} {m c : Nat} {l : List UInt8} (hx : a.eval x = .slice ad m c) (hb : Bys w ad m c l) (h63 : k.length + m ≤ 140737488355328) (hbase : base ≤ w.heap.size)
    (h : ∀ v' w', OwnB w' base e v' (k ++ l) → w.grownBy w' v.ownBlock → wpList P ops Q rest (a.put o.dst v') w') : wpList P ops Q (o :: rest) a w := by
  refine wpList_plain hgd fun K hK => ?_
  obtain ⟨v', w', hr, h2, h3⟩ := run_append_bys (P := P) (ty := o.type) (bytes := 1) ht hi hz hsize hby hzs hown hb h63 hbase
  unfold Oper.wp execOp
  simp only [ho, resolve, invoke, builtin, Sem.run_bind, Sem.run_pure, Result.andThen_ok, List.map_toArray, List.map_cons, List.map_nil, hs, hx, hr]
  exact hK _ _ (h v' w' h2 h3)
end

/-- An empty row of the call's own, just made. -/
theorem OwnB.empty (w : World) (B : Nat) (e : TypeId) (hB : B ≤ w.heap.size) : OwnB (w.alloc (.cells #[] e)) B e (.slice (some ⟨w.heap.size, 0, none⟩) 0 0) [] :=
  World.ownsRow_made w #[] 0 hB (by decide) rfl
theorem OwnB.kept {w w' : World} {B : Nat} {e : TypeId} {v : Value} {l : List UInt8} (h : OwnB w B e v l) (hb : Below w.heap.size w w') : OwnB w' B e v l := by
  refine ⟨h.1, ?_⟩
  rcases h.2 with hn | ⟨g, cap, cur, rfl, hB, hg, rest⟩
  · exact .inl hn
  · exact .inr ⟨g, cap, cur, rfl, hB, by rw [hb.block g (Array.getElem?_eq_some_iff.1 hg).1]; exact hg, rest⟩
theorem OwnB.lt {w : World} {B : Nat} {e : TypeId} {v : Value} {l : List UInt8} (h : OwnB w B e v l) : ∀ k, v.ownBlock = some k → B ≤ k ∧ k < w.heap.size := World.ownsRow.lt h
theorem OwnB.mono {w : World} {B B' : Nat} {e : TypeId} {v : Value} {l : List UInt8} (h : OwnB w B e v l) (hB : B' ≤ B) : OwnB w B' e v l := by
  refine ⟨h.1, ?_⟩
  rcases h.2 with hn | ⟨g, cap, cur, rfl, hb, rest⟩
  · exact .inl hn
  · exact .inr ⟨g, cap, cur, rfl, by omega, rest⟩
end Go.Proofs.Ytngfohedddcboaa
