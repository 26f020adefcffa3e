/-
  Merged: A0 E0 EC ED A1 E4 A5 B4 AJ OX OY OZ Z1 Z2.
-/
import Derived.Deep.QuietTactic
import Derived.StillTail
import Derived.Lib.QuietBelow
import Derived.Test.YtbpgfmcnpifmdaaRows
import Derived.OrdersIn
import Derived.TacticsIn
import Derived.RangeFuncNested
import Derived.RangeFuncBound
import Derived.RangeFuncCalls
import Derived.RangeFuncLeaves
import Derived.WalkKit
import Derived.Lib.Hide
import Derived.BigQuiet
import Derived.BigRegion
import Derived.Deep.Cut
import Derived.Deep.MidRow
import Derived.Great.BuildSlice
import Derived.Outline
import Derived.OwnWalk
import Derived.Laws.Rows
import Derived.ChangeKeysEq
import Derived.Laws.StructEq
import Derived.WalkSpells
import Derived.WalkLawsBesides
import Derived.Laws.CopyOwn
import Derived.WalkSmall
import Derived.Lib.LaidTab
import Derived.Deep.RegionWith
import Derived.Lib.MinMax
import Derived.WideShapes
import Derived.ChangeSame
import Derived.OpenShut
import Derived.Deep.Slices
import Derived.Deep.AppendSrc
import Derived.Lib.AppendZerosOnto
import Derived.Lib.SliceRun
import Derived.Lib.Walk
import Derived.Lib.OthersKept
import Derived.Laws.RangeAny
import Derived.Maps.OwnOps
import Derived.Maps.Views
import Derived.ChangeSlices
import Derived.ChangeArms
import Derived.Deep.DeepAppendWide
import Derived.Maps.AppendAt
import Derived.Shelf.Abstract
import Derived.OwnWalkIn
import Derived.TacticsInMore
import Derived.LoopNIn
import Derived.LoopIn
import Derived.Shelf.Spec.SlicesInsertGrow
import Derived.Test.YtbpgfmcnpifmdaaSZ1

section
namespace Go.Proofs.Ytbpgfmcnpifmdaa
open Go.RowKit Go Go.Sort
set_option linter.unusedVariables false

section
variable {K V : Type} {lt : K → K → Bool}
theorem look_mem [DecidableEq K] : ∀ {S : List (K × V)} {k : K} {c : V}, look S k = some c → (k, c) ∈ S
  | r :: S, k, c, h => by
    unfold look at h
    split at h
    · rename_i e; subst e; cases h; exact List.mem_cons_self ..
    · exact List.mem_cons_of_mem _ (look_mem h)
end
section
variable {α K : Type} {lt : K → K → Bool}
end
section
variable {K V : Type} {lt : K → K → Bool}
end
end Go.Proofs.Ytbpgfmcnpifmdaa
end

section
namespace Go.Proofs.Ytbpgfmcnpifmdaa
open Go.RowKit Go Go.Sort
set_option linter.unusedVariables false
set_option maxRecDepth 20000

section
variable {α : Type} {sz : Nat} {arr : α → Array Value} {z : α}
/-- append(v, c), v of the call's own: one element. -/
theorem wpList_append_el {P : Program} {w : World} {ops : Array Oper} {rest : List Oper} {o : Oper} {ac : Act} {Q : Exit → Act → World → Prop} (hgd : o.guard = none) (os ox : Operand) (t ty : TypeId) (i0 : TypeInfo) (zv : Value) (bytes : Nat)
    (ho : o.op = .call { callee := .builtin .append, args := #[os, ox], argTypes := #[t, t] }) (ht : P.underlying t = some (.slice ty)) (hi : P.info? ty = some i0) (hz0 : i0.zero = some zv) (hz1 : i0.size = sz) (hz2 : i0.bytes = bytes) (hzs : zv.cells.size = sz) (hsz : 0 < sz)
    {base : Nat} {v : Value} {l : List α} (hs : ac.eval os = v) (hown : OwnL sz ty arr w base v l) (c : α) {cells : Array Value} (hc : arr c = cells) (hcs : cells.size = sz) (hone : ∀ u ∈ cells.toList, u.oneCell' = true) {e9 : TypeId}
    (hx : ac.eval ox = .slice (some ⟨w.heap.size, 0, none⟩) 1 1) (h63 : l.length + 1 ≤ maxLen) (hbytes : ((l.length + 1) + (l.length + 1) / 4 + 192) * bytes ≤ 281474976710656) (hbase : base ≤ w.heap.size)
    (h : ∀ v' w', OwnL sz ty arr w' base v' (l ++ [c]) → (w.alloc (.cells cells e9)).grownBy w' v.ownBlock → wpList P ops Q rest (ac.put o.dst v') w') :
    wpList P ops Q (o :: rest) ac (w.alloc (.cells cells e9)) := by
  refine wpList_append_own_wide (P := P) (w.alloc (.cells cells e9)) hgd os ox t ho base ty i0 zv sz bytes ht hi hz0 hz1 hz2 hzs hsz v l.length (lCells arr l) hs (World.ownsRow.alloc hown _)
    ⟨w.heap.size, 0, none⟩ 1 1 cells.toList hx (by rw [Array.length_toList, hcs, Nat.one_mul]) ?_ hone h63 hbytes (by simp; omega) ?_
  · intro j u hj
    rw [addr_add, Nat.zero_add, cell_of_row _ _ j cells e9 (0, 0) (by rw [heap_alloc_new])]
    rw [← hj]; simp
  · intro v' w' h2 h3 _
    refine h v' w' ?_ h3
    unfold OwnL
    rw [List.length_append, lCells_append]
    have e : lCells arr [c] = cells.toList := by simp [lCells, hc]
    rw [e]
    exact h2
end
end Go.Proofs.Ytbpgfmcnpifmdaa
end

section
namespace Go.Proofs.Ytbpgfmcnpifmdaa
open Go.RowKit Go Go.Sort
set_option linter.unusedVariables false
set_option maxRecDepth 20000

theorem take_cell {cur : Array Value} {cs : List Cl} (ht : cur.toList.take (cs.length * 8) = cCells cs) {j : Nat} (hj : j < cs.length * 8) : cur[j]? = (cCells cs)[j]? := by
  rw [← ht, List.getElem?_take, if_pos hj]
  simp
/-- What a row of the call's own holds at a place. -/
theorem own_at {W : World} {B m c g : Nat} {cs : List Cl} (h : OwnC W B (.slice (some ⟨g, 0, none⟩) m c) cs) {k : Nat} (hk : k < cs.length) : ∀ W', Below W.heap.size W W' → W'.cell? ⟨g, k * 8, none⟩ = some (.int .i64 (cs.getD k Cl.zero).n) ∧ W'.cell? ⟨g, k * 8 + 1, none⟩ = some (.int .i64 (cs.getD k Cl.zero).s) ∧ W'.cell? ⟨g, k * 8 + 2, none⟩ = some (.int .i64 (cs.getD k Cl.zero).a) ∧ W'.cell? ⟨g, k * 8 + 3, none⟩ = some (.int .i64 (cs.getD k Cl.zero).b) ∧
    W'.cell? ⟨g, k * 8 + 4, none⟩ = some (.bool (cs.getD k Cl.zero).g) ∧ W'.cell? ⟨g, k * 8 + 5, none⟩ = some (.string (text (cs.getD k Cl.zero).t)) ∧ W'.cell? ⟨g, k * 8 + 6, none⟩ = some (.int .i64 (cs.getD k Cl.zero).d) ∧ W'.cell? ⟨g, k * 8 + 7, none⟩ = some (.int .i64 (cs.getD k Cl.zero).e) := by
  obtain ⟨a, cap, ev, hc⟩ := h.cls
  injection ev with e1 e2 e3
  subst e1 e2 e3
  intro W' hb
  obtain ⟨b, off, e, hat⟩ := hc.at hk
  injection e with e
  injection e with e4 e5
  subst e4 e5
  have := hat W' hb
  rw [Nat.zero_add] at this
  exact this
/-- The block of a row of the call's own is not frozen. -/
theorem own_fz {W : World} {B m c g : Nat} {cs : List Cl} (h : OwnC W B (.slice (some ⟨g, 0, none⟩) m c) cs) (i : Nat) : W.frozen? ⟨g, i, none⟩ = false := by
  obtain ⟨hlen, ⟨ev, -⟩ | ⟨g', cap, cur, ev, hB, hg, hnc, hcm, hcs, htake⟩⟩ := h
  · cases ev
  · injection ev with e1 e2 e3
    injection e1 with e1
    injection e1 with e1
    subst e1
    exact frozen_of_row _ g i _ _ hg
/-- append of one row. -/
theorem wpList_append_rw {w : World} {ops : Array Oper} {rest : List Oper} {o : Oper} {ac : Act} {Q : Exit → Act → World → Prop} (hgd : o.guard = none) (os ox : Operand)
    (ho : o.op = .call { callee := .builtin .append, args := #[os, ox], argTypes := #[27, 27] })
    {base : Nat} {u : Value} {l : List Rw} (hs : ac.eval os = u) (hown : OwnL 2 30 Rw.arr w base u l) (k : List UInt8) (a9 : Option Addr) (n9 c9 : Nat) (cs : List Cl) {e9 : TypeId}
    (hx : ac.eval ox = .slice (some ⟨w.heap.size, 0, none⟩) 1 1) (h63 : l.length ≤ 1000000000) (hbase : base ≤ w.heap.size)
    (h : ∀ v' w', OwnL 2 30 Rw.arr w' base v' (l ++ [⟨k, .slice a9 n9 c9, cs⟩]) → (w.alloc (.cells #[.string (text k), .slice a9 n9 c9] e9)).grownBy w' u.ownBlock → wpList Try.prog ops Q rest (ac.put o.dst v') w') :
    wpList Try.prog ops Q (o :: rest) ac (w.alloc (.cells #[.string (text k), .slice a9 n9 c9] e9)) := by
  obtain ⟨i0, hi, hz0, hz1, hz2⟩ := info_parts Try.infoRw
  refine wpList_append_el hgd os ox 27 30 i0 _ 40 ho Try.underlying27 hi hz0 hz1 hz2 rfl (by decide) hs hown ⟨k, .slice a9 n9 c9, cs⟩ rfl rfl ?_ hx (by unfold maxLen; omega) (by omega) hbase h
  intro u hu
  have hu : u ∈ [Value.string (text k), .slice a9 n9 c9] := hu
  simp only [List.mem_cons, List.not_mem_nil, or_false] at hu
  rcases hu with rfl | rfl <;> rfl
end Go.Proofs.Ytbpgfmcnpifmdaa
end

section
namespace Go.Proofs.Ytbpgfmcnpifmdaa
open Go.RowKit Go Go.Sort
set_option linter.unusedVariables false
set_option maxRecDepth 20000

section
variable {m n : Nat} {ty : TypeId} {z : Array Value} {G : Nat → Value → World → Prop} {sr : Nat → Nat} {w0 w : World} {L : Nat → Bool} {xs : Nat → Value}
end
theorem prs_at {L : List Rw} {j : Nat} (hj : j < L.length) : (L.map Rw.pr).getD j ([], []) = (L.getD j Rw.zero).pr := by
  rw [List.getD_eq_getElem?_getD, List.getD_eq_getElem?_getD, List.getElem?_map, List.getElem?_eq_getElem hj]; rfl
end Go.Proofs.Ytbpgfmcnpifmdaa
end

section
namespace Go.Proofs.Ytbpgfmcnpifmdaa
open Go.RowKit Go Go.Sort
set_option linter.unusedVariables false
set_option maxRecDepth 20000

theorem OwnS.ins {W : World} {B0 B : Nat} {v : Value} {L : List Rw} (h : OwnS W B0 B v L) : ∃ a cap, v = .slice a L.length cap ∧ RwsIn W B0 a L.length cap L := by
  obtain ⟨a, cap, ev, hl⟩ := h.row.ls (z := Rw.zero) rw_size
  exact ⟨a, cap, ev, hl, h.has⟩
theorem RwsAt.ins {W : World} {a : Option Addr} {m cap : Nat} {L : List Rw} (h : RwsAt W a m cap L) {B : Nat} (hB : W.heap.size ≤ B) : RwsIn W B a m cap L := by
  refine ⟨h.1, fun r hr => ?_⟩
  obtain ⟨j, hj, rfl⟩ := List.getElem_of_mem hr
  obtain ⟨a', c, e, hc⟩ := h.2 j (by have := h.1.len; omega)
  rw [List.getD_eq_getElem?_getD, List.getElem?_eq_getElem hj] at e hc
  refine ⟨a', c, e, hc, fun hp q off ea => .inl ?_⟩
  subst ea
  exact Nat.lt_of_lt_of_le (hc.lt hp) hB
end Go.Proofs.Ytbpgfmcnpifmdaa
end

section
namespace Go.Proofs.Ytbpgfmcnpifmdaa
open Go.RowKit Go Go.Sort
set_option linter.unusedVariables false
set_option maxRecDepth 20000

/-- One round of the insertion: what is ahead stays, the new one goes before the first that isn't, what is of its place goes. -/
def cstep (x : Wr) (st : List Wr × Bool) (o : Wr) : List Wr × Bool :=
  let a := if (!st.2 && !aheadS o x) = true then (st.1 ++ [x], true) else st
  if (aheadS o x || aheadS x o) = true then (a.1 ++ [o], a.2) else a
def cN (x : Wr) (O : List Wr) : Nat → List Wr × Bool
  | 0 => ([], false)
  | k + 1 => cstep x (cN x O k) (O.getD k Wr.zero)
end Go.Proofs.Ytbpgfmcnpifmdaa
end

section
namespace Go.Proofs.Ytbpgfmcnpifmdaa
open Go.RowKit Go Go.Sort
set_option linter.unusedVariables false
set_option maxRecDepth 20000

/-- append of one row, its key's bytes under a name. -/
theorem wpList_append_rwt {w : World} {ops : Array Oper} {rest : List Oper} {o : Oper} {ac : Act} {Q : Exit → Act → World → Prop} (hgd : o.guard = none) (os ox : Operand)
    (ho : o.op = .call { callee := .builtin .append, args := #[os, ox], argTypes := #[27, 27] })
    {base : Nat} {u : Value} {l : List Rw} (hs : ac.eval os = u) (hown : OwnL 2 30 Rw.arr w base u l) (t : ByteArray) {k : List UInt8} (ht : text k = t) (a9 : Option Addr) (n9 c9 : Nat) (cs : List Cl) {e9 : TypeId}
    (hx : ac.eval ox = .slice (some ⟨w.heap.size, 0, none⟩) 1 1) (h63 : l.length ≤ 1000000000) (hbase : base ≤ w.heap.size)
    (h : ∀ v' w', OwnL 2 30 Rw.arr w' base v' (l ++ [⟨k, .slice a9 n9 c9, cs⟩]) → (w.alloc (.cells #[.string t, .slice a9 n9 c9] e9)).grownBy w' u.ownBlock → wpList Try.prog ops Q rest (ac.put o.dst v') w') :
    wpList Try.prog ops Q (o :: rest) ac (w.alloc (.cells #[.string t, .slice a9 n9 c9] e9)) := by
  subst ht
  exact wpList_append_rw hgd os ox ho hs hown k a9 n9 c9 cs hx h63 hbase h
end Go.Proofs.Ytbpgfmcnpifmdaa
end

section
namespace Go.Proofs.Ytbpgfmcnpifmdaa
open Go.RowKit Go Go.Sort
set_option linter.unusedVariables false
set_option maxRecDepth 20000

end Go.Proofs.Ytbpgfmcnpifmdaa
end

section
namespace Go.Proofs.Ytbpgfmcnpifmdaa
open Go.RowKit Go Go.Sort
set_option linter.unusedVariables false
set_option maxRecDepth 20000

def ex1 : Chg := ⟨1, 1, 1, 1, 1, 0, [⟨[107], 0, false, [120]⟩]⟩
def ex2 : Chg := ⟨2, 1, 1, 2, 0, 1, [⟨[107], 0, true, []⟩]⟩
def ex3 : Chg := ⟨1, 2, 2, 1, 2, 0, [⟨[107], 0, false, [121]⟩]⟩
end Go.Proofs.Ytbpgfmcnpifmdaa
end

section
namespace Go.Proofs.Ytbpgfmcnpifmdaa
open Go.RowKit Go Go.Sort
set_option linter.unusedVariables false
set_option maxRecDepth 20000

/-- A row with cells of its own, which is of a list, or whose cells are new. -/
structure RowK (L0 : List Rw) (lo : Nat) (W : World) (r : Rw) : Prop where
  own : OwnC W 0 r.u r.cs
  src : r ∈ L0 ∨ ∀ k, r.u.ownBlock = some k → lo ≤ k
theorem RowK.kept {L0 : List Rw} {lo : Nat} {W W' : World} {r : Rw} (h : RowK L0 lo W r) (hb : Below W.heap.size W W') : RowK L0 lo W' r := ⟨h.own.kept hb, h.src⟩
theorem RowK.own' {L0 : List Rw} {lo B' : Nat} {W : World} {k : List UInt8} {u : Value} {cs : List Cl} (h : OwnC W B' u cs) (hB : lo ≤ B') : RowK L0 lo W ⟨k, u, cs⟩ := ⟨h.mono (Nat.zero_le _), .inr fun q hq => Nat.le_trans hB (h.lt q hq).1⟩
/-- Rows in a slice of the call's own. -/
structure OwnK (L0 : List Rw) (lo : Nat) (W : World) (B : Nat) (v : Value) (L : List Rw) : Prop where
  row : OwnL 2 30 Rw.arr W B v L
  has : ∀ r ∈ L, RowK L0 lo W r
theorem OwnK.nil {L0 : List Rw} {lo : Nat} (W : World) (B : Nat) : OwnK L0 lo W B (.slice none 0 0) [] := ⟨OwnL.nil _ _ _, fun r hr => (nomatch hr)⟩
theorem OwnK.kept {L0 : List Rw} {lo : Nat} {W W' : World} {B : Nat} {v : Value} {L : List Rw} (h : OwnK L0 lo W B v L) (hb : Below W.heap.size W W') : OwnK L0 lo W' B v L := ⟨h.row.kept hb, fun r hr => (h.has r hr).kept hb⟩
theorem OwnK.mono {L0 : List Rw} {lo : Nat} {W : World} {B B' : Nat} {v : Value} {L : List Rw} (h : OwnK L0 lo W B v L) (hB : B' ≤ B) : OwnK L0 lo W B' v L := ⟨h.row.mono hB, h.has⟩
theorem OwnK.lt {L0 : List Rw} {lo : Nat} {W : World} {B : Nat} {v : Value} {L : List Rw} (h : OwnK L0 lo W B v L) : ∀ k, v.ownBlock = some k → B ≤ k ∧ k < W.heap.size := h.row.lt
theorem OwnK.push {L0 : List Rw} {lo : Nat} {W W' : World} {B : Nat} {v v' : Value} {L : List Rw} {r : Rw} (h : OwnK L0 lo W B v L) (hr : RowK L0 lo W r) (o : Obj) (hl : OwnL 2 30 Rw.arr W' B v' (L ++ [r])) (hg : (W.alloc o).grownBy W' v.ownBlock) : OwnK L0 lo W' B v' (L ++ [r]) := by
  refine ⟨hl, fun x hx => ?_⟩
  rcases List.mem_append.1 hx with hx | hx
  · exact ⟨(h.has x hx).own.turn h.row o hg, (h.has x hx).src⟩
  · rw [List.mem_singleton] at hx; subst hx; exact ⟨hr.own.turn h.row o hg, hr.src⟩
theorem OwnK.ins {L0 : List Rw} {lo : Nat} {W : World} {B : Nat} {v : Value} {L : List Rw} (h : OwnK L0 lo W B v L) : ∃ a cap, v = .slice a L.length cap ∧ Ls 2 Rw.arr Rw.zero W a L.length cap L := by
  obtain ⟨a, cap, ev, hl⟩ := h.row.ls (z := Rw.zero) rw_size
  exact ⟨a, cap, ev, hl⟩
/-- Rows that lie in memory, each with cells of its own. -/
def RwsK (W : World) (a : Option Addr) (m cap : Nat) (L : List Rw) : Prop := Ls 2 Rw.arr Rw.zero W a m cap L ∧ ∀ r ∈ L, OwnC W 0 r.u r.cs
theorem RwsK.below {W W' : World} {a : Option Addr} {m cap : Nat} {L : List Rw} (h : RwsK W a m cap L) (hb : Below W.heap.size W W') : RwsK W' a m cap L := ⟨h.1.below hb, fun r hr => (h.2 r hr).kept hb⟩
theorem RwsK.all {W : World} {a : Option Addr} {m cap : Nat} {L : List Rw} (h : RwsK W a m cap L) : RwsAt W a m cap L := ⟨h.1, fun j hj => (h.2 _ (rw_mem (by have := h.1.len; omega))).cls⟩
theorem RwsK.place {W : World} {lo : Nat} {a : Option Addr} {m cap : Nat} {L : List Rw} (h : RwsK W a m cap L) {k : Nat} (hk : k < m) : ∃ b off a' n' c', a = some ⟨b, off, none⟩ ∧ (L.getD k Rw.zero).u = .slice a' n' c' ∧ n' = (L.getD k Rw.zero).cs.length ∧ Cls W a' n' c' (L.getD k Rw.zero).cs ∧ RowK L lo W (L.getD k Rw.zero) ∧
    ∀ W', Below W.heap.size W W' → W'.cell? ⟨b, off + k * 2, none⟩ = some (.string (text (L.getD k Rw.zero).k)) ∧ W'.cell? ⟨b, off + k * 2 + 1, none⟩ = some (.slice a' n' c') := by
  obtain ⟨b, off, a', n', c', h1, h2, h3, h4, h5⟩ := h.all.place hk
  have hm := rw_mem (L := L) (k := k) (by have := h.1.len; omega)
  exact ⟨b, off, a', n', c', h1, h2, h3, h4, ⟨h.2 _ hm, .inl hm⟩, h5⟩
/-- What a list that is made anew tells. -/
def KPost (R : List Rp) (L0 : List Rw) (lo : Nat) (w : World) (e : Ending) (w' : World) : Prop := ∃ v NN, e = .returned v ∧ NN.map Rw.pr = R ∧ OwnK L0 lo w' w.heap.size v NN ∧ Below w.heap.size w w'
set_option maxRecDepth 100000 in
set_option maxHeartbeats 12800000 in
theorem rsetk_c {w : World} {x x2 : Option Addr} {m cap n2 c2 LO : Nat} {L : List Rw} {cs : List Cl} (hl : RwsK w x m cap L) (hLO : LO ≤ w.heap.size) (hm : m ≤ 1000000) (hc : Cls w x2 n2 c2 cs) (hn2 : n2 ≤ 1000000) (kr : List UInt8) :
    Calls Try.prog 18 #[.slice x m cap, .agg #[.string (text kr), .slice x2 n2 c2]] w (KPost (setR Op.bytesLess Prod.fst ([], []) (kr, cs) (L.map Rw.pr)) L LO w) := by
  have HLO := Lib.hid hLO
  have hll := hl.1.len
  have hle := hl.1.le
  have hmax := hl.1.max
  obtain ⟨tr, htr⟩ : ∃ z, text kr = z := ⟨_, rfl⟩
  rw [htr]
  have HTR := Lib.hid htr
  have hb := alloc_below w (.cells #[.string tr, .slice x2 n2 c2] 30)
  have hr := heap_alloc_new w (.cells #[.string tr, .slice x2 n2 c2] 30)
  have hsz : (w.alloc (.cells #[.string tr, .slice x2 n2 c2] 30)).heap.size = w.heap.size + 1 := by simp
  have HCP := Lib.hid (fun W (h : Below w.heap.size w W) => rcopy_c (hc.below h) hn2 tr)
  have HL := Lib.hid hl
  obtain ⟨O, hO⟩ : ∃ z, L.map Rw.pr = z := ⟨_, rfl⟩
  have hOl : O.length = m := by rw [← hO, List.length_map, hll]
  have HOD := Lib.hid (show ∀ q, q < m → O.getD q ([], []) = (L.getD q Rw.zero).pr from fun q hq => by rw [← hO]; exact prs_at (by omega))
  have HOL := Lib.hid hOl
  rw [hO]
  clear hO hOl htr hl hll hc
  go_enter Try.func18, Try.ntmps18
  go_upto_region 1 with (fail)
  obtain ⟨B, hB⟩ : ∃ q, w.heap.size = q := ⟨_, rfl⟩
  have HBe := Lib.hid hB
  rw [hB] at hr hsz ⊢
  clear hB
  generalize w.alloc (.cells #[.string tr, .slice x2 n2 c2] 30) = W1 at *
  have HSZ := Lib.hid hsz
  have HB1 := Lib.hid hb
  have HRW := Lib.hid (fun W (h : Below W1.heap.size W1 W) => row_cells (heap_below hr h))
  clear hb hr hsz
  go_wp2
  go_loopw [5, 6, 7] (fun nx dn j wr => ∃ (q : Nat) (v : Value) (NN : List Rw) (DN : Bool), q ≤ m ∧ j = .int .i64 (q : Int) ∧ nx = v ∧ dn = .bool DN ∧ sN Op.bytesLess Prod.fst ([], []) (kr, cs) O q = (NN.map Rw.pr, DN) ∧ OwnK L LO wr (B + 1) v NN ∧ Below W1.heap.size W1 wr) (fun _ _ j _ => m - (intOf j).toNat)
  case atStart => exact ⟨0, .slice none 0 0, [], false, by omega, rfl, rfl, rfl, rfl, OwnK.nil _ _, Below.refl _ _⟩
  case round =>
    obtain ⟨q, v, NN, DN, hq, rfl, rfl, rfl, hcn, hn, hbx⟩ := hrel
    have hnf := sN_few (lt := Op.bytesLess) Prod.fst ([], []) (kr, cs) O q
    rw [hcn] at hnf
    have hnf2 : NN.length ≤ q + 1 := by
      simp only [List.length_map] at hnf
      cases DN <;> simp at hnf <;> omega
    clear hnf
    obtain ⟨an, cn, ev, -⟩ := hn.ins
    obtain ⟨nl, hnl⟩ : ∃ z, NN.length = z := ⟨_, rfl⟩
    rw [hnl] at ev hnf2
    subst ev
    have HNE := Lib.hid hnl
    have HNL := Lib.hid (show nl ≤ q + 1 from hnf2)
    have HNx := Lib.hid hn
    have HBx := Lib.hid hbx
    have HCQ := Lib.hid hcn
    clear hnl hnf2 hn hbx hcn
    by_cases hlq : q < m
    · have hqi : (q : Int) < (m : Int) := by omega
      have hqc : (q : Int) < (cap : Int) := by omega
      obtain ⟨bo, offo, ao, no, co, rfl, eu, eno, hco, hro, hat⟩ := HL.out.place (lo := LO) hlq
      have hod := HOD.out q hlq
      obtain ⟨y, hy⟩ : ∃ y, L.getD q Rw.zero = y := ⟨_, rfl⟩
      rw [hy] at hat hod eu eno hro hco
      obtain ⟨ko, uo, cso⟩ := y
      simp only at hat eu eno hco
      subst eu
      obtain ⟨to, hto⟩ : ∃ z, text ko = z := ⟨_, rfl⟩
      rw [hto] at hat
      have HTO := Lib.hid hto
      have HOW := Lib.hid (fun W (h : Below W1.heap.size W1 W) => hat W (HB1.out.trans (h.mono HB1.out.size)))
      have hro1 := hro
      have HRO0 := Lib.hid hro
      have hcs : sN Op.bytesLess Prod.fst ([], []) (kr, cs) O (q + 1) = sstep Op.bytesLess Prod.fst (kr, cs) (NN.map Rw.pr, DN) (ko, cso) := by
        show sstep _ _ _ (sN Op.bytesLess Prod.fst ([], []) (kr, cs) O q) (O.getD q ([], [])) = _
        rw [HCQ.out, hod]; rfl
      unfold sstep at hcs
      simp only at hcs
      have hte := text_eqb ko kr
      have htl := text_lss ko kr
      rw [hto, HTR.out] at hte htl
      obtain ⟨BL, hBL⟩ : ∃ z, Op.bytesLess ko kr = z := ⟨_, rfl⟩
      obtain ⟨EQ, hEQ⟩ : ∃ z, (ko == kr) = z := ⟨_, rfl⟩
      have hdec : decide (ko = kr) = EQ := by
        rw [← hEQ]
        by_cases e : ko = kr
        · subst e; simp
        · simp [e]
      rw [hBL, hdec] at hcs
      rw [hBL] at htl
      rw [hEQ] at hte
      have HCN := Lib.hid hcs
      have HRO := Lib.hid (fun W (h : Below W1.heap.size W1 W) => hro1.kept (HB1.out.trans (h.mono HB1.out.size)))
      clear hat hy hBL hEQ hdec hcs HCQ hto hro hro1 HRO0 hod hco eno
      go_upto_region 6 with (fail)
      cases DN with
      | true =>
        refine wp_region_flow [none, none, none, none, none, none, none, none, none, none, none, none, none, none, some 0, some 1, some 2, some 3, some 4, some 5, some 6, some 7, some 8, some 9, some 10, some 11, none, none, none, none, none, none, none, none, none, none, none, none, none, none, none, none, none, none, none, none, none, none, none, none, none, none, none, none] (fun i => [u14, u15, u16, u17, u18, u19, u20, u21, u22, u23, u24, u25].getD i undef) [(fun v _ => v = .bool true), (fun v _ => v = .bool false), (fun v _ => v = .bool false), (fun v _ => v = undef), (fun v _ => v = undef), (fun v _ => v = undef), (fun v _ => v = undef), (fun v _ => v = undef), (fun v _ => v = undef), (fun v _ => v = undef), (fun v _ => v = undef), (fun v _ => v = .bool false)] (by kernel_rfl) (by kernel_rfl) rfl rfl rfl ?_ ?_ ?_
        · intro g hg v X Y hX hY hv
          simp only [List.mem_cons, List.not_mem_nil, or_false] at hg
          rcases hg with rfl | rfl | rfl | rfl | rfl | rfl | rfl | rfl | rfl | rfl | rfl | rfl
          all_goals first
            | exact hv
            | exact hv.kept hY
        · simp only [flowOps, and_true]
          refine ⟨?_, ?_, ?_, ?_, ?_, ?_, ?_, ?_, ?_, ?_, ?_, ?_⟩
          · intro xs W hW hn
            simp only [flowAct, List.zipWith_cons_cons, List.zipWith_nil_left]
            go_wp2_with (fail)
            exact ⟨rfl, _, rfl, Below.refl _ _, rfl⟩
          · intro xs W hW hn
            simp [flowNeeds, Region.binds] at hn
            simp only [flowAct, List.zipWith_cons_cons, List.zipWith_nil_left]
            try simp only [hn]
            go_wp2_with (fail)
            exact ⟨rfl, _, rfl, Below.refl _ _, rfl⟩
          · intro xs W hW hn
            simp [flowNeeds, Region.binds] at hn
            simp only [flowAct, List.zipWith_cons_cons, List.zipWith_nil_left]
            try simp only [hn]
            go_wp2_with (fail)
            exact ⟨rfl, _, rfl, Below.refl _ _, rfl⟩
          · intro xs W hW hn
            simp [flowNeeds, Region.binds] at hn
            simp only [flowAct, List.zipWith_cons_cons, List.zipWith_nil_left]
            try simp only [hn]
            go_wp2_with (fail)
            exact ⟨rfl, _, rfl, Below.refl _ _, rfl⟩
          · intro xs W hW hn
            simp [flowNeeds, Region.binds] at hn
            simp only [flowAct, List.zipWith_cons_cons, List.zipWith_nil_left]
            try simp only [hn]
            go_wp2_with (fail)
            exact ⟨rfl, _, rfl, Below.refl _ _, rfl⟩
          · intro xs W hW hn
            simp [flowNeeds, Region.binds] at hn
            simp only [flowAct, List.zipWith_cons_cons, List.zipWith_nil_left]
            try simp only [hn]
            go_wp2_with (fail)
            exact ⟨rfl, _, rfl, Below.refl _ _, rfl⟩
          · intro xs W hW hn
            simp [flowNeeds, Region.binds] at hn
            simp only [flowAct, List.zipWith_cons_cons, List.zipWith_nil_left]
            try simp only [hn]
            go_wp2_with (fail)
            exact ⟨rfl, _, rfl, Below.refl _ _, rfl⟩
          · intro xs W hW hn
            simp [flowNeeds, Region.binds] at hn
            simp only [flowAct, List.zipWith_cons_cons, List.zipWith_nil_left]
            try simp only [hn]
            go_wp2_with (fail)
            exact ⟨rfl, _, rfl, Below.refl _ _, rfl⟩
          · intro xs W hW hn
            simp [flowNeeds, Region.binds] at hn
            simp only [flowAct, List.zipWith_cons_cons, List.zipWith_nil_left]
            try simp only [hn]
            go_wp2_with (fail)
            exact ⟨rfl, _, rfl, Below.refl _ _, rfl⟩
          · intro xs W hW hn
            simp [flowNeeds, Region.binds] at hn
            simp only [flowAct, List.zipWith_cons_cons, List.zipWith_nil_left]
            try simp only [hn]
            go_wp2_with (fail)
            exact ⟨rfl, _, rfl, Below.refl _ _, rfl⟩
          · intro xs W hW hn
            simp [flowNeeds, Region.binds] at hn
            simp only [flowAct, List.zipWith_cons_cons, List.zipWith_nil_left]
            try simp only [hn]
            go_wp2_with (fail)
            exact ⟨rfl, _, rfl, Below.refl _ _, rfl⟩
          · intro xs W hW hn
            simp [flowNeeds, Region.binds] at hn
            simp only [flowAct, List.zipWith_cons_cons, List.zipWith_nil_left]
            try simp only [hn]
            go_wp2_with (fail)
            exact ⟨rfl, _, rfl, Below.refl _ _, rfl⟩
        · intro xs W hW hall
          simp only [flowAll, and_true, Nat.zero_add, Nat.reduceAdd] at hall
          obtain ⟨-, -, -, -, -, -, -, -, -, -, -, eL⟩ := hall
          simp only [flowAct, List.zipWith_cons_cons, List.zipWith_nil_left]
          simp only [eL]
          have hbk := HBx.out.trans (hW.mono HBx.out.size)
          have hnk := HNx.out.kept hW
          clear eL
          obtain ⟨WK, hWK⟩ : ∃ X, W = X := ⟨_, rfl⟩
          rw [hWK] at hbk hnk ⊢
          clear hWK hW HBx HNx
          have HBx := Lib.hid hbk
          have HNx := Lib.hid hnk
          clear hbk hnk
          go_upto_region 9 with (fail)
          refine wp_region_flow [none, none, none, none, none, none, none, none, none, none, none, none, none, none, none, none, none, none, none, none, none, none, none, none, none, none, none, none, none, none, none, some 0, some 1, some 2, some 3, some 4, some 5, some 6, some 7, none, none, none, none, none, none, none, none, none, none, none, none, none, none, none] (fun i => [u31, u32, u33, u34, u35, u36, u37, u38].getD i undef) [(fun v _ => v = .slice (some ⟨bo, offo, none⟩) m cap), (fun v _ => v = .int .i64 (q : Int)), (fun v _ => v = .pointer (some ⟨bo, offo + q * 2, none⟩)), (fun v _ => v = .pointer (some ⟨bo, offo + q * 2, none⟩)), (fun v _ => v = .string to), (fun v _ => v = .pointer (some ⟨B, 0, none⟩)), (fun v _ => v = .string tr), (fun v _ => v = .bool (!EQ))] (by kernel_rfl) (by kernel_rfl) rfl rfl rfl ?_ ?_ ?_
          · intro g hg v X Y hX hY hv
            simp only [List.mem_cons, List.not_mem_nil, or_false] at hg
            rcases hg with rfl | rfl | rfl | rfl | rfl | rfl | rfl | rfl
            all_goals first
              | exact hv
              | exact hv.kept hY
          · simp only [flowOps, and_true]
            refine ⟨?_, ?_, ?_, ?_, ?_, ?_, ?_, ?_⟩
            · intro xs W hW hn
              simp only [flowAct, List.zipWith_cons_cons, List.zipWith_nil_left]
              go_wp2_with (fail)
              exact ⟨rfl, _, rfl, Below.refl _ _, rfl⟩
            · intro xs W hW hn
              simp only [flowAct, List.zipWith_cons_cons, List.zipWith_nil_left]
              go_wp2_with (fail)
              exact ⟨rfl, _, rfl, Below.refl _ _, rfl⟩
            · intro xs W hW hn
              simp [flowNeeds, Region.binds] at hn
              simp only [flowAct, List.zipWith_cons_cons, List.zipWith_nil_left]
              try simp only [hn]
              go_wp2_with (fail)
              exact ⟨rfl, _, rfl, Below.refl _ _, rfl⟩
            · intro xs W hW hn
              simp [flowNeeds, Region.binds] at hn
              simp only [flowAct, List.zipWith_cons_cons, List.zipWith_nil_left]
              try simp only [hn]
              go_wp2_with (fail)
              exact ⟨rfl, _, rfl, Below.refl _ _, rfl⟩
            · intro xs W hW hn
              obtain ⟨o0, o1⟩ := HOW.out W (HBx.out.trans (hW.mono HBx.out.size))
              simp [flowNeeds, Region.binds] at hn
              simp only [flowAct, List.zipWith_cons_cons, List.zipWith_nil_left]
              try simp only [hn]
              go_wp2_with (fail)
              exact ⟨rfl, _, rfl, Below.refl _ _, rfl⟩
            · intro xs W hW hn
              simp only [flowAct, List.zipWith_cons_cons, List.zipWith_nil_left]
              go_wp2_with (fail)
              exact ⟨rfl, _, rfl, Below.refl _ _, rfl⟩
            · intro xs W hW hn
              obtain ⟨r0, r1, -⟩ := HRW.out W (HBx.out.trans (hW.mono HBx.out.size))
              simp [flowNeeds, Region.binds] at hn
              simp only [flowAct, List.zipWith_cons_cons, List.zipWith_nil_left]
              try simp only [hn]
              go_wp2_with (fail)
              exact ⟨rfl, _, rfl, Below.refl _ _, rfl⟩
            · intro xs W hW hn
              simp [flowNeeds, Region.binds] at hn
              simp only [flowAct, List.zipWith_cons_cons, List.zipWith_nil_left]
              try simp only [hn]
              go_wp2_with (fail)
              exact ⟨rfl, _, rfl, Below.refl _ _, rfl⟩
          · intro xs W hW hall
            simp only [flowAll, and_true, Nat.zero_add, Nat.reduceAdd] at hall
            obtain ⟨-, -, -, -, -, -, -, eL⟩ := hall
            simp only [flowAct, List.zipWith_cons_cons, List.zipWith_nil_left]
            simp only [eL]
            have hbk := HBx.out.trans (hW.mono HBx.out.size)
            have hnk := HNx.out.kept hW
            clear eL
            obtain ⟨WK, hWK⟩ : ∃ X, W = X := ⟨_, rfl⟩
            rw [hWK] at hbk hnk ⊢
            clear hWK hW HBx HNx
            have HBx := Lib.hid hbk
            have HNx := Lib.hid hnk
            clear hbk hnk
            cases EQ with
            | true =>
              have HST := Lib.hid (show sN Op.bytesLess Prod.fst ([], []) (kr, cs) O (q + 1) = (NN.map Rw.pr, true) by rw [HCN.out]; rfl)
              go_wp2
              go_roundw
              case rel => exact ⟨q + 1, _, _, _, by omega, by go_num, rfl, rfl, HST.out, HNx.out, HBx.out⟩
              case measure => simp [intOf]; omega
            | false =>
              have HST := Lib.hid (show sN Op.bytesLess Prod.fst ([], []) (kr, cs) O (q + 1) = (NN.map Rw.pr ++ [(ko, cso)], true) by rw [HCN.out]; rfl)
              have hbs := HBx.out.size
              have hl9 : NN.length ≤ 1000000000 := by have := HNL.out; have := HNE.out; omega
              have HL9 := Lib.hid hl9
              have HBS := Lib.hid (show B + 1 ≤ WK.heap.size by have := HSZ.out; omega)
              clear hl9
              obtain ⟨o0, o1⟩ := HOW.out WK HBx.out
              go_wp2_with (at_builtin; refine wpList_append_rwt rfl _ _ rfl (u := .slice an nl cn) rfl HNx.out.row to HTO.out ao no co cso rfl HL9.out HBS.out ?_; intro v' w' ho' hg'; obtain ⟨a8, c8, e8, -⟩ := OwnL.ls (z := Rw.zero) rw_size ho'; rw [List.length_append, List.length_singleton, HNE.out] at e8; subst e8)
              have hbk := ((HBx.out.alloc HBx.out.size (.cells #[.string to, .slice ao no co] 30)).grown hg' (by have := HBx.out.size; simp; omega) (fun z e => by have := (HNx.out.lt z e).1; have := HSZ.out; omega))
              have hnk := HNx.out.push (r := ⟨ko, .slice ao no co, cso⟩) (HRO.out _ HBx.out) _ ho' hg'
              clear HOW
              refine ⟨⟨q + 1, _, _, _, by omega, by go_num, rfl, rfl, by rw [HST.out, List.map_append]; rfl, hnk, hbk⟩, ?_⟩
              simp [intOf]; omega
      | false =>
        refine wp_region_flow [none, none, none, none, none, none, none, none, none, none, none, none, none, none, some 0, some 1, some 2, some 3, some 4, some 5, some 6, some 7, some 8, some 9, some 10, some 11, none, none, none, none, none, none, none, none, none, none, none, none, none, none, none, none, none, none, none, none, none, none, none, none, none, none, none, none] (fun i => [u14, u15, u16, u17, u18, u19, u20, u21, u22, u23, u24, u25].getD i undef) [(fun v _ => v = .bool false), (fun v _ => v = .bool true), (fun v _ => v = .bool true), (fun v _ => v = .slice (some ⟨bo, offo, none⟩) m cap), (fun v _ => v = .int .i64 (q : Int)), (fun v _ => v = .pointer (some ⟨bo, offo + q * 2, none⟩)), (fun v _ => v = .pointer (some ⟨bo, offo + q * 2, none⟩)), (fun v _ => v = .string to), (fun v _ => v = .pointer (some ⟨B, 0, none⟩)), (fun v _ => v = .string tr), (fun v _ => v = .bool (!BL)), (fun v _ => v = .bool (!BL))] (by kernel_rfl) (by kernel_rfl) rfl rfl rfl ?_ ?_ ?_
        · intro g hg v X Y hX hY hv
          simp only [List.mem_cons, List.not_mem_nil, or_false] at hg
          rcases hg with rfl | rfl | rfl | rfl | rfl | rfl | rfl | rfl | rfl | rfl | rfl | rfl
          all_goals first
            | exact hv
            | exact hv.kept hY
        · simp only [flowOps, and_true]
          refine ⟨?_, ?_, ?_, ?_, ?_, ?_, ?_, ?_, ?_, ?_, ?_, ?_⟩
          · intro xs W hW hn
            simp only [flowAct, List.zipWith_cons_cons, List.zipWith_nil_left]
            go_wp2_with (fail)
            exact ⟨rfl, _, rfl, Below.refl _ _, rfl⟩
          · intro xs W hW hn
            simp [flowNeeds, Region.binds] at hn
            simp only [flowAct, List.zipWith_cons_cons, List.zipWith_nil_left]
            try simp only [hn]
            go_wp2_with (fail)
            exact ⟨rfl, _, rfl, Below.refl _ _, rfl⟩
          · intro xs W hW hn
            simp [flowNeeds, Region.binds] at hn
            simp only [flowAct, List.zipWith_cons_cons, List.zipWith_nil_left]
            try simp only [hn]
            go_wp2_with (fail)
            exact ⟨rfl, _, rfl, Below.refl _ _, rfl⟩
          · intro xs W hW hn
            simp [flowNeeds, Region.binds] at hn
            simp only [flowAct, List.zipWith_cons_cons, List.zipWith_nil_left]
            try simp only [hn]
            go_wp2_with (fail)
            exact ⟨rfl, _, rfl, Below.refl _ _, rfl⟩
          · intro xs W hW hn
            simp [flowNeeds, Region.binds] at hn
            simp only [flowAct, List.zipWith_cons_cons, List.zipWith_nil_left]
            try simp only [hn]
            go_wp2_with (fail)
            exact ⟨rfl, _, rfl, Below.refl _ _, rfl⟩
          · intro xs W hW hn
            simp [flowNeeds, Region.binds] at hn
            simp only [flowAct, List.zipWith_cons_cons, List.zipWith_nil_left]
            try simp only [hn]
            go_wp2_with (fail)
            exact ⟨rfl, _, rfl, Below.refl _ _, rfl⟩
          · intro xs W hW hn
            simp [flowNeeds, Region.binds] at hn
            simp only [flowAct, List.zipWith_cons_cons, List.zipWith_nil_left]
            try simp only [hn]
            go_wp2_with (fail)
            exact ⟨rfl, _, rfl, Below.refl _ _, rfl⟩
          · intro xs W hW hn
            obtain ⟨o0, o1⟩ := HOW.out W (HBx.out.trans (hW.mono HBx.out.size))
            simp [flowNeeds, Region.binds] at hn
            simp only [flowAct, List.zipWith_cons_cons, List.zipWith_nil_left]
            try simp only [hn]
            go_wp2_with (fail)
            exact ⟨rfl, _, rfl, Below.refl _ _, rfl⟩
          · intro xs W hW hn
            simp [flowNeeds, Region.binds] at hn
            simp only [flowAct, List.zipWith_cons_cons, List.zipWith_nil_left]
            try simp only [hn]
            go_wp2_with (fail)
            exact ⟨rfl, _, rfl, Below.refl _ _, rfl⟩
          · intro xs W hW hn
            obtain ⟨r0, r1, -⟩ := HRW.out W (HBx.out.trans (hW.mono HBx.out.size))
            simp [flowNeeds, Region.binds] at hn
            simp only [flowAct, List.zipWith_cons_cons, List.zipWith_nil_left]
            try simp only [hn]
            go_wp2_with (fail)
            exact ⟨rfl, _, rfl, Below.refl _ _, rfl⟩
          · intro xs W hW hn
            simp [flowNeeds, Region.binds] at hn
            simp only [flowAct, List.zipWith_cons_cons, List.zipWith_nil_left]
            try simp only [hn]
            go_wp2_with (fail)
            exact ⟨rfl, _, rfl, Below.refl _ _, rfl⟩
          · intro xs W hW hn
            simp [flowNeeds, Region.binds] at hn
            simp only [flowAct, List.zipWith_cons_cons, List.zipWith_nil_left]
            try simp only [hn]
            go_wp2_with (fail)
            exact ⟨rfl, _, rfl, Below.refl _ _, rfl⟩
        · intro xs W hW hall
          simp only [flowAll, and_true, Nat.zero_add, Nat.reduceAdd] at hall
          obtain ⟨-, -, -, -, -, -, -, -, -, -, -, eL⟩ := hall
          simp only [flowAct, List.zipWith_cons_cons, List.zipWith_nil_left]
          simp only [eL]
          have hbk := HBx.out.trans (hW.mono HBx.out.size)
          have hnk := HNx.out.kept hW
          clear eL
          obtain ⟨WK, hWK⟩ : ∃ X, W = X := ⟨_, rfl⟩
          rw [hWK] at hbk hnk ⊢
          clear hWK hW HBx HNx
          have HBx := Lib.hid hbk
          have HNx := Lib.hid hnk
          clear hbk hnk
          cases BL with
          | true =>
            have hcn := HCN.out
            simp only [Bool.not_false, Bool.not_true, Bool.and_false, Bool.false_eq_true, if_false] at hcn
            clear HCN
            have HCN := Lib.hid hcn
            clear hcn
            go_upto_region 9 with (fail)
            refine wp_region_flow [none, none, none, none, none, none, none, none, none, none, none, none, none, none, none, none, none, none, none, none, none, none, none, none, none, none, none, none, none, none, none, some 0, some 1, some 2, some 3, some 4, some 5, some 6, some 7, none, none, none, none, none, none, none, none, none, none, none, none, none, none, none] (fun i => [u31, u32, u33, u34, u35, u36, u37, u38].getD i undef) [(fun v _ => v = .slice (some ⟨bo, offo, none⟩) m cap), (fun v _ => v = .int .i64 (q : Int)), (fun v _ => v = .pointer (some ⟨bo, offo + q * 2, none⟩)), (fun v _ => v = .pointer (some ⟨bo, offo + q * 2, none⟩)), (fun v _ => v = .string to), (fun v _ => v = .pointer (some ⟨B, 0, none⟩)), (fun v _ => v = .string tr), (fun v _ => v = .bool (!EQ))] (by kernel_rfl) (by kernel_rfl) rfl rfl rfl ?_ ?_ ?_
            · intro g hg v X Y hX hY hv
              simp only [List.mem_cons, List.not_mem_nil, or_false] at hg
              rcases hg with rfl | rfl | rfl | rfl | rfl | rfl | rfl | rfl
              all_goals first
                | exact hv
                | exact hv.kept hY
            · simp only [flowOps, and_true]
              refine ⟨?_, ?_, ?_, ?_, ?_, ?_, ?_, ?_⟩
              · intro xs W hW hn
                simp only [flowAct, List.zipWith_cons_cons, List.zipWith_nil_left]
                go_wp2_with (fail)
                exact ⟨rfl, _, rfl, Below.refl _ _, rfl⟩
              · intro xs W hW hn
                simp only [flowAct, List.zipWith_cons_cons, List.zipWith_nil_left]
                go_wp2_with (fail)
                exact ⟨rfl, _, rfl, Below.refl _ _, rfl⟩
              · intro xs W hW hn
                simp [flowNeeds, Region.binds] at hn
                simp only [flowAct, List.zipWith_cons_cons, List.zipWith_nil_left]
                try simp only [hn]
                go_wp2_with (fail)
                exact ⟨rfl, _, rfl, Below.refl _ _, rfl⟩
              · intro xs W hW hn
                simp [flowNeeds, Region.binds] at hn
                simp only [flowAct, List.zipWith_cons_cons, List.zipWith_nil_left]
                try simp only [hn]
                go_wp2_with (fail)
                exact ⟨rfl, _, rfl, Below.refl _ _, rfl⟩
              · intro xs W hW hn
                obtain ⟨o0, o1⟩ := HOW.out W (HBx.out.trans (hW.mono HBx.out.size))
                simp [flowNeeds, Region.binds] at hn
                simp only [flowAct, List.zipWith_cons_cons, List.zipWith_nil_left]
                try simp only [hn]
                go_wp2_with (fail)
                exact ⟨rfl, _, rfl, Below.refl _ _, rfl⟩
              · intro xs W hW hn
                simp only [flowAct, List.zipWith_cons_cons, List.zipWith_nil_left]
                go_wp2_with (fail)
                exact ⟨rfl, _, rfl, Below.refl _ _, rfl⟩
              · intro xs W hW hn
                obtain ⟨r0, r1, -⟩ := HRW.out W (HBx.out.trans (hW.mono HBx.out.size))
                simp [flowNeeds, Region.binds] at hn
                simp only [flowAct, List.zipWith_cons_cons, List.zipWith_nil_left]
                try simp only [hn]
                go_wp2_with (fail)
                exact ⟨rfl, _, rfl, Below.refl _ _, rfl⟩
              · intro xs W hW hn
                simp [flowNeeds, Region.binds] at hn
                simp only [flowAct, List.zipWith_cons_cons, List.zipWith_nil_left]
                try simp only [hn]
                go_wp2_with (fail)
                exact ⟨rfl, _, rfl, Below.refl _ _, rfl⟩
            · intro xs W hW hall
              simp only [flowAll, and_true, Nat.zero_add, Nat.reduceAdd] at hall
              obtain ⟨-, -, -, -, -, -, -, eL⟩ := hall
              simp only [flowAct, List.zipWith_cons_cons, List.zipWith_nil_left]
              simp only [eL]
              have hbk := HBx.out.trans (hW.mono HBx.out.size)
              have hnk := HNx.out.kept hW
              clear eL
              obtain ⟨WK, hWK⟩ : ∃ X, W = X := ⟨_, rfl⟩
              rw [hWK] at hbk hnk ⊢
              clear hWK hW HBx HNx
              have HBx := Lib.hid hbk
              have HNx := Lib.hid hnk
              clear hbk hnk
              cases EQ with
              | true =>
                have HST := Lib.hid (show sN Op.bytesLess Prod.fst ([], []) (kr, cs) O (q + 1) = (NN.map Rw.pr, false) by rw [HCN.out]; rfl)
                go_wp2
                go_roundw
                case rel => exact ⟨q + 1, _, _, _, by omega, by go_num, rfl, rfl, HST.out, HNx.out, HBx.out⟩
                case measure => simp [intOf]; omega
              | false =>
                have HST := Lib.hid (show sN Op.bytesLess Prod.fst ([], []) (kr, cs) O (q + 1) = (NN.map Rw.pr ++ [(ko, cso)], false) by rw [HCN.out]; rfl)
                have hbs := HBx.out.size
                have hl9 : NN.length ≤ 1000000000 := by have := HNL.out; have := HNE.out; omega
                have HL9 := Lib.hid hl9
                have HBS := Lib.hid (show B + 1 ≤ WK.heap.size by have := HSZ.out; omega)
                clear hl9
                obtain ⟨o0, o1⟩ := HOW.out WK HBx.out
                go_wp2_with (at_builtin; refine wpList_append_rwt rfl _ _ rfl (u := .slice an nl cn) rfl HNx.out.row to HTO.out ao no co cso rfl HL9.out HBS.out ?_; intro v' w' ho' hg'; obtain ⟨a8, c8, e8, -⟩ := OwnL.ls (z := Rw.zero) rw_size ho'; rw [List.length_append, List.length_singleton, HNE.out] at e8; subst e8)
                have hbk := ((HBx.out.alloc HBx.out.size (.cells #[.string to, .slice ao no co] 30)).grown hg' (by have := HBx.out.size; simp; omega) (fun z e => by have := (HNx.out.lt z e).1; have := HSZ.out; omega))
                have hnk := HNx.out.push (r := ⟨ko, .slice ao no co, cso⟩) (HRO.out _ HBx.out) _ ho' hg'
                clear HOW
                refine ⟨⟨q + 1, _, _, _, by omega, by go_num, rfl, rfl, by rw [HST.out, List.map_append]; rfl, hnk, hbk⟩, ?_⟩
                simp [intOf]; omega
          | false =>
            have hcn := HCN.out
            simp only [Bool.not_false, Bool.and_self, if_true] at hcn
            clear HCN
            have HCN := Lib.hid hcn
            clear hcn
            have hbs := HBx.out.size
            have hl9 : NN.length ≤ 1000000000 := by have := HNL.out; have := HNE.out; omega
            have HL9 := Lib.hid hl9
            have HBS := Lib.hid (show B + 1 ≤ WK.heap.size by have := HSZ.out; omega)
            clear hl9
            obtain ⟨r0, r1, -⟩ := HRW.out WK HBx.out
            go_upto_region 9 with (first
              | (go_at_call 59; refine (HCP.out _ (HB1.out.trans (HBx.out.mono HB1.out.size))).mono ?_; rintro e9 w9 ⟨vc, rfl, hoc, hb9⟩
                 have hnk9 := HNx.out.kept hb9
                 have hbk9 := HBx.out.trans (hb9.mono HBx.out.size)
                 have hri := RowK.own' (L0 := L) (lo := LO) (k := kr) hoc (Nat.le_trans HLO.out (Nat.le_trans HB1.out.size HBx.out.size))
                 obtain ⟨ac, cc, rfl, -⟩ := hoc.cls
                 have HRI := Lib.hid hri
                 have HN9 := Lib.hid hnk9
                 have HB9 := Lib.hid hbk9
                 have HBS9 := Lib.hid (show B + 1 ≤ w9.heap.size by have := hbk9.size; have := HSZ.out; omega)
                 clear hri hnk9 hbk9 hoc hb9 r0 r1)
              | (at_builtin; refine wpList_append_rwt rfl _ _ rfl (u := .slice an nl cn) rfl HN9.out.row tr HTR.out ac cs.length cc cs rfl HL9.out HBS9.out ?_; intro v' w' ho' hg'; obtain ⟨a8, c8, e8, -⟩ := OwnL.ls (z := Rw.zero) rw_size ho'; rw [List.length_append, List.length_singleton, HNE.out] at e8; subst e8))
            have hbk := ((HB9.out.alloc HB9.out.size (.cells #[.string tr, .slice ac cs.length cc] 30)).grown hg' (by have := HB9.out.size; simp; omega) (fun z e => by have := (HN9.out.lt z e).1; have := HSZ.out; omega))
            have hnk := HN9.out.push (r := ⟨kr, .slice ac cs.length cc, cs⟩) HRI.out _ ho' hg'
            have hnl2 : nl + 1 ≤ q + 2 := by have := HNL.out; omega
            have hne2 : (NN ++ [⟨kr, .slice ac cs.length cc, cs⟩] : List Rw).length = nl + 1 := by rw [List.length_append, List.length_singleton, HNE.out]
            have hpr2 : (NN ++ [⟨kr, .slice ac cs.length cc, cs⟩] : List Rw).map Rw.pr = NN.map Rw.pr ++ [(kr, cs)] := by rw [List.map_append]; rfl
            have hcn := HCN.out
            rw [← hpr2] at hcn
            clear HNx HBx HL9 hg' HCN hpr2 HN9 HB9 HBS9 HRI ho' HBS
            have HNx := Lib.hid hnk
            have HBx := Lib.hid hbk
            clear hbk hnk
            obtain ⟨N2, hN2⟩ : ∃ z, NN ++ [⟨kr, .slice ac cs.length cc, cs⟩] = z := ⟨_, rfl⟩
            rw [hN2] at HNx hcn hne2
            have HCN := Lib.hid hcn
            clear hcn hN2 HNE HNL hbs
            obtain ⟨nl2, hnl3⟩ : ∃ z, nl + 1 = z := ⟨_, rfl⟩
            rw [hnl3] at hne2 hnl2 HNx ⊢
            clear hnl3
            have HNE := Lib.hid hne2
            have HNL := Lib.hid (show nl2 ≤ q + 2 from hnl2)
            clear hne2 hnl2
            refine wp_region_flow [none, none, none, none, none, none, none, none, none, none, none, none, none, none, none, none, none, none, none, none, none, none, none, none, none, none, none, none, none, none, none, some 0, some 1, some 2, some 3, some 4, some 5, some 6, some 7, none, none, none, none, none, none, none, none, none, none, none, none, none, none, none] (fun i => [u31, u32, u33, u34, u35, u36, u37, u38].getD i undef) [(fun v _ => v = .slice (some ⟨bo, offo, none⟩) m cap), (fun v _ => v = .int .i64 (q : Int)), (fun v _ => v = .pointer (some ⟨bo, offo + q * 2, none⟩)), (fun v _ => v = .pointer (some ⟨bo, offo + q * 2, none⟩)), (fun v _ => v = .string to), (fun v _ => v = .pointer (some ⟨B, 0, none⟩)), (fun v _ => v = .string tr), (fun v _ => v = .bool (!EQ))] (by kernel_rfl) (by kernel_rfl) rfl rfl rfl ?_ ?_ ?_
            · intro g hg v X Y hX hY hv
              simp only [List.mem_cons, List.not_mem_nil, or_false] at hg
              rcases hg with rfl | rfl | rfl | rfl | rfl | rfl | rfl | rfl
              all_goals first
                | exact hv
                | exact hv.kept hY
            · simp only [flowOps, and_true]
              refine ⟨?_, ?_, ?_, ?_, ?_, ?_, ?_, ?_⟩
              · intro xs W hW hn
                simp only [flowAct, List.zipWith_cons_cons, List.zipWith_nil_left]
                go_wp2_with (fail)
                exact ⟨rfl, _, rfl, Below.refl _ _, rfl⟩
              · intro xs W hW hn
                simp only [flowAct, List.zipWith_cons_cons, List.zipWith_nil_left]
                go_wp2_with (fail)
                exact ⟨rfl, _, rfl, Below.refl _ _, rfl⟩
              · intro xs W hW hn
                simp [flowNeeds, Region.binds] at hn
                simp only [flowAct, List.zipWith_cons_cons, List.zipWith_nil_left]
                try simp only [hn]
                go_wp2_with (fail)
                exact ⟨rfl, _, rfl, Below.refl _ _, rfl⟩
              · intro xs W hW hn
                simp [flowNeeds, Region.binds] at hn
                simp only [flowAct, List.zipWith_cons_cons, List.zipWith_nil_left]
                try simp only [hn]
                go_wp2_with (fail)
                exact ⟨rfl, _, rfl, Below.refl _ _, rfl⟩
              · intro xs W hW hn
                obtain ⟨o0, o1⟩ := HOW.out W (HBx.out.trans (hW.mono HBx.out.size))
                simp [flowNeeds, Region.binds] at hn
                simp only [flowAct, List.zipWith_cons_cons, List.zipWith_nil_left]
                try simp only [hn]
                go_wp2_with (fail)
                exact ⟨rfl, _, rfl, Below.refl _ _, rfl⟩
              · intro xs W hW hn
                simp only [flowAct, List.zipWith_cons_cons, List.zipWith_nil_left]
                go_wp2_with (fail)
                exact ⟨rfl, _, rfl, Below.refl _ _, rfl⟩
              · intro xs W hW hn
                obtain ⟨r0, r1, -⟩ := HRW.out W (HBx.out.trans (hW.mono HBx.out.size))
                simp [flowNeeds, Region.binds] at hn
                simp only [flowAct, List.zipWith_cons_cons, List.zipWith_nil_left]
                try simp only [hn]
                go_wp2_with (fail)
                exact ⟨rfl, _, rfl, Below.refl _ _, rfl⟩
              · intro xs W hW hn
                simp [flowNeeds, Region.binds] at hn
                simp only [flowAct, List.zipWith_cons_cons, List.zipWith_nil_left]
                try simp only [hn]
                go_wp2_with (fail)
                exact ⟨rfl, _, rfl, Below.refl _ _, rfl⟩
            · intro xs W hW hall
              simp only [flowAll, and_true, Nat.zero_add, Nat.reduceAdd] at hall
              obtain ⟨-, -, -, -, -, -, -, eL⟩ := hall
              simp only [flowAct, List.zipWith_cons_cons, List.zipWith_nil_left]
              simp only [eL]
              have hbk := HBx.out.trans (hW.mono HBx.out.size)
              have hnk := HNx.out.kept hW
              clear eL
              obtain ⟨WK, hWK⟩ : ∃ X, W = X := ⟨_, rfl⟩
              rw [hWK] at hbk hnk ⊢
              clear hWK hW HBx HNx
              have HBx := Lib.hid hbk
              have HNx := Lib.hid hnk
              clear hbk hnk
              cases EQ with
              | true =>
                have HST := Lib.hid (show sN Op.bytesLess Prod.fst ([], []) (kr, cs) O (q + 1) = (N2.map Rw.pr, true) by rw [HCN.out]; rfl)
                go_wp2
                go_roundw
                case rel => exact ⟨q + 1, _, _, _, by omega, by go_num, rfl, rfl, HST.out, HNx.out, HBx.out⟩
                case measure => simp [intOf]; omega
              | false =>
                have HST := Lib.hid (show sN Op.bytesLess Prod.fst ([], []) (kr, cs) O (q + 1) = (N2.map Rw.pr ++ [(ko, cso)], true) by rw [HCN.out]; rfl)
                have hbs := HBx.out.size
                have hl9 : N2.length ≤ 1000000000 := by have := HNL.out; have := HNE.out; omega
                have HL9 := Lib.hid hl9
                have HBS := Lib.hid (show B + 1 ≤ WK.heap.size by have := HSZ.out; omega)
                clear hl9
                obtain ⟨o0, o1⟩ := HOW.out WK HBx.out
                go_wp2_with (at_builtin; refine wpList_append_rwt rfl _ _ rfl (u := .slice a8 nl2 c8) rfl HNx.out.row to HTO.out ao no co cso rfl HL9.out HBS.out ?_; intro v' w' ho' hg'; obtain ⟨a8, c8, e8, -⟩ := OwnL.ls (z := Rw.zero) rw_size ho'; rw [List.length_append, List.length_singleton, HNE.out] at e8; subst e8)
                have hbk := ((HBx.out.alloc HBx.out.size (.cells #[.string to, .slice ao no co] 30)).grown hg' (by have := HBx.out.size; simp; omega) (fun z e => by have := (HNx.out.lt z e).1; have := HSZ.out; omega))
                have hnk := HNx.out.push (r := ⟨ko, .slice ao no co, cso⟩) (HRO.out _ HBx.out) _ ho' hg'
                clear HOW
                refine ⟨⟨q + 1, _, _, _, by omega, by go_num, rfl, rfl, by rw [HST.out, List.map_append]; rfl, hnk, hbk⟩, ?_⟩
                simp [intOf]; omega
    · obtain rfl : m = q := by omega
      cases DN with
      | true =>
        have HRR := Lib.hid (show setR Op.bytesLess Prod.fst ([], []) (kr, cs) O = NN.map Rw.pr by unfold setR; rw [HOL.out, HCQ.out]; rfl)
        go_wp2
        go_ret
        exact ⟨_, NN, rfl, HRR.out.symm, HNx.out.mono (by have := HBe.out; omega), HB1.out.trans (HBx.out.mono HB1.out.size)⟩
      | false =>
        have HRR := Lib.hid (show setR Op.bytesLess Prod.fst ([], []) (kr, cs) O = NN.map Rw.pr ++ [(kr, cs)] by unfold setR; rw [HOL.out, HCQ.out]; rfl)
        have hbs := HBx.out.size
        have hl9 : NN.length ≤ 1000000000 := by have := HNL.out; have := HNE.out; omega
        have HL9 := Lib.hid hl9
        have HBS := Lib.hid (show B + 1 ≤ wr.heap.size by have := HSZ.out; omega)
        clear hl9
        obtain ⟨r0, r1, -⟩ := HRW.out wr HBx.out
        go_wp2_with (first
          | (go_at_call 59; refine (HCP.out _ (HB1.out.trans (HBx.out.mono HB1.out.size))).mono ?_; rintro e9 w9 ⟨vc, rfl, hoc, hb9⟩
             have hnk9 := HNx.out.kept hb9
             have hbk9 := HBx.out.trans (hb9.mono HBx.out.size)
             have hri := RowK.own' (L0 := L) (lo := LO) (k := kr) hoc (Nat.le_trans HLO.out (Nat.le_trans HB1.out.size HBx.out.size))
             obtain ⟨ac, cc, rfl, -⟩ := hoc.cls
             have HRI := Lib.hid hri
             have HN9 := Lib.hid hnk9
             have HB9 := Lib.hid hbk9
             have HBS9 := Lib.hid (show B + 1 ≤ w9.heap.size by have := hbk9.size; have := HSZ.out; omega)
             clear hri hnk9 hbk9 hoc hb9 r0 r1)
          | (at_builtin; refine wpList_append_rwt rfl _ _ rfl (u := .slice an nl cn) rfl HN9.out.row tr HTR.out ac cs.length cc cs rfl HL9.out HBS9.out ?_; intro v' w' ho' hg'; obtain ⟨a8, c8, e8, -⟩ := OwnL.ls (z := Rw.zero) rw_size ho'; rw [List.length_append, List.length_singleton, HNE.out] at e8; subst e8))
        have hbk := ((HB9.out.alloc HB9.out.size (.cells #[.string tr, .slice ac cs.length cc] 30)).grown hg' (by have := HB9.out.size; simp; omega) (fun z e => by have := (HN9.out.lt z e).1; have := HSZ.out; omega))
        have hnk := HN9.out.push (r := ⟨kr, .slice ac cs.length cc, cs⟩) HRI.out _ ho' hg'
        go_ret
        exact ⟨_, _, rfl, by rw [HRR.out, List.map_append]; rfl, hnk.mono (by have := HBe.out; omega), HB1.out.trans (hbk.mono HB1.out.size)⟩
end Go.Proofs.Ytbpgfmcnpifmdaa
end

section
namespace Go.Proofs.Ytbpgfmcnpifmdaa
open Go.RowKit Go Go.Sort Go.Deep
set_option linter.unusedVariables false
set_option maxRecDepth 20000

theorem takeR_snoc {l : List Rw} {i : Nat} (hi : i < l.length) : l.take (i + 1) = l.take i ++ [l.getD i Rw.zero] := by
  rw [List.take_add_one, List.getElem?_eq_getElem hi, List.getD_eq_getElem?_getD, List.getElem?_eq_getElem hi]
  rfl
set_option maxRecDepth 100000 in
set_option maxHeartbeats 6400000 in
theorem rdropk_c {w : World} {x : Option Addr} {m cap LO : Nat} {L : List Rw} (hl : RwsK w x m cap L) (hm : m ≤ 1000000) (kr : List UInt8) :
    Calls Try.prog 20 #[.slice x m cap, .string (text kr)] w (KPost ((L.map Rw.pr).filter (fun r => decide (r.1 ≠ kr))) L LO w) := by
  have hle := hl.1.le
  have hmax := hl.1.max
  have HLL := Lib.hid hl.1.len
  have HL := Lib.hid hl
  clear hl
  go_enter Try.func20, Try.ntmps20
  go_wp2
  go_loopw [5, 6] (fun nx j wr => ∃ (q : Nat) (NN : List Rw), q ≤ m ∧ j = .int .i64 (q : Int) ∧ NN.map Rw.pr = ((L.take q).map Rw.pr).filter (fun r => decide (r.1 ≠ kr)) ∧ NN.length ≤ q ∧ OwnK L LO wr w.heap.size nx NN ∧ Below w.heap.size w wr) (fun _ j _ => m - (intOf j).toNat)
  case atStart => exact ⟨0, [], by omega, rfl, rfl, Nat.le_refl _, OwnK.nil _ _, Below.refl _ _⟩
  case round =>
    obtain ⟨q, NN, hq, rfl, hn, hnl, ho, hb⟩ := hrel
    have HO := Lib.hid ho
    have HN := Lib.hid hn
    have HB := Lib.hid hb
    clear ho hn
    by_cases hlt : q < m
    · have hqi : (q : Int) < (m : Int) := by omega
      have hqc : (q : Int) < (cap : Int) := by omega
      obtain ⟨bo, offo, ao, no, co, rfl, eu, eno, hco, hro, hat⟩ := HL.out.place (lo := LO) hlt
      have htk := takeR_snoc (l := L) (i := q) (by have := HLL.out; omega)
      obtain ⟨y, hy⟩ : ∃ y, L.getD q Rw.zero = y := ⟨_, rfl⟩
      rw [hy] at hat eu eno hro hco htk
      obtain ⟨ko, uo, cso⟩ := y
      simp only at hat eu eno hco
      subst eu
      obtain ⟨o0, o1⟩ := hat _ hb
      have hte := text_eqb ko kr
      obtain ⟨to, hto⟩ : ∃ z, text ko = z := ⟨_, rfl⟩
      obtain ⟨tr, htr⟩ : ∃ z, text kr = z := ⟨_, rfl⟩
      rw [hto] at o0
      rw [hto, htr] at hte
      rw [htr]
      have HTO := Lib.hid hto
      have HTK := Lib.hid htk
      have HRO := Lib.hid (hro.kept hb)
      clear hat eno hco hro hy hb hto htk htr
      by_cases he : ko = kr
      · subst he
        have hte2 : (to.toList == tr.toList) = true := by rw [hte]; simp
        clear hte
        go_wp2
        go_roundw
        case rel => exact ⟨q + 1, NN, by omega, by go_num, by rw [HTK.out, List.map_append, List.filter_append, HN.out]; simp [Rw.pr], by omega, HO.out, HB.out⟩
        case measure => simp [intOf]; omega
      · have hte2 : (to.toList == tr.toList) = false := by rw [hte]; simpa using he
        clear hte
        have HST := Lib.hid (show (NN ++ [(⟨ko, .slice ao no co, cso⟩ : Rw)]).map Rw.pr = ((L.take (q + 1)).map Rw.pr).filter (fun r => decide (r.1 ≠ kr)) by
          rw [HTK.out, List.map_append, List.map_append, List.filter_append, HN.out]
          congr 1
          show [(ko, cso)] = [(ko, cso)].filter (fun r => decide (r.1 ≠ kr))
          rw [filter_all]
          intro r hr
          rw [List.mem_singleton] at hr
          subst hr
          exact decide_eq_true he)
        go_wp2_with (at_builtin; refine wpList_append_rwt rfl _ _ rfl rfl HO.out.row to HTO.out ao no co cso rfl (by omega) HB.out.size ?_; intro v' w' ho' hg'; have HK := Lib.hid (HO.out.push HRO.out _ ho' hg'); have HBK := Lib.hid ((HB.out.alloc HB.out.size (.cells #[.string to, .slice ao no co] 30)).grown hg' (by have := HB.out.size; simp; omega) (fun z e => (HO.out.lt z e).1)); clear ho' hg')
        go_roundw
        case rel => exact ⟨q + 1, _, by omega, by go_num, HST.out, by rw [List.length_append, List.length_singleton]; omega, HK.out, HBK.out⟩
        case measure => simp [intOf]; omega
    · obtain rfl : q = m := by omega
      have HR := Lib.hid (show NN.map Rw.pr = (L.map Rw.pr).filter (fun r => decide (r.1 ≠ kr)) by rw [HN.out, List.take_of_length_le (by have := HLL.out; omega)])
      go_wp2
      go_ret
      exact ⟨_, NN, rfl, HR.out, HO.out, HB.out⟩
/-- What a row must be to be chosen. -/
def chosen (fr un : List UInt8) (r : Rp) : Bool := !Op.bytesLess r.1 fr && (un.isEmpty || Op.bytesLess r.1 un)
theorem chosen_scan {R : List Rp} (h : KAsc Op.bytesLess R) (fr un : List UInt8) (n : Int) : scanP R fr un n = (R.filter (chosen fr un)).take n.toNat := by
  rw [scan_rest, restP_asc h]
  rfl
set_option maxRecDepth 100000 in
set_option maxHeartbeats 6400000 in
theorem rscank_c {w : World} {x : Option Addr} {m cap LO : Nat} {L : List Rw} (hl : RwsK w x m cap L) (hm : m ≤ 1000000) (hc : ∀ r ∈ L, r.cs.length ≤ 1000000) (fr un : List UInt8) (n : Int) (hLO : LO ≤ w.heap.size) :
    Calls Try.prog 27 #[.slice x m cap, .string (text fr), .string (text un), .int .i64 n] w (KPost (((L.map Rw.pr).filter (chosen fr un)).take n.toNat) L LO w) := by
  have hle := hl.1.le
  have hmax := hl.1.max
  have HLL := Lib.hid hl.1.len
  have HL := Lib.hid hl
  have HC := Lib.hid hc
  clear hl hc
  obtain ⟨tu, htu⟩ : ∃ z, text un = z := ⟨_, rfl⟩
  obtain ⟨tf, htf⟩ : ∃ z, text fr = z := ⟨_, rfl⟩
  have hue : tu.toList.isEmpty = un.isEmpty := by rw [← htu, text_toList]
  rw [htu, htf]
  have HTU := Lib.hid htu
  have HTF := Lib.hid htf
  have HUE := Lib.hid hue
  clear htu htf hue
  go_enter Try.func27, Try.ntmps27
  go_wp2
  go_loopw [9, 10] (fun nx j wr => ∃ (q : Nat) (NN : List Rw), q ≤ m ∧ j = .int .i64 (q : Int) ∧ NN.map Rw.pr = ((L.take q).map Rw.pr).filter (chosen fr un) ∧ NN.length ≤ q ∧ NN.length ≤ n.toNat ∧ OwnK L LO wr w.heap.size nx NN ∧ Below w.heap.size w wr) (fun _ j _ => m - (intOf j).toNat)
  case atStart => exact ⟨0, [], by omega, rfl, rfl, Nat.le_refl _, Nat.zero_le _, OwnK.nil _ _, Below.refl _ _⟩
  case round =>
    obtain ⟨q, NN, hq, rfl, hn, hnl, hnn, ho, hb⟩ := hrel
    obtain ⟨an, cn, ev, -⟩ := ho.ins
    obtain ⟨nl, hnle⟩ : ∃ z, NN.length = z := ⟨_, rfl⟩
    rw [hnle] at ev hnl hnn
    subst ev
    have HO := Lib.hid ho
    have HN := Lib.hid hn
    have HB := Lib.hid hb
    have HNE := Lib.hid hnle
    clear ho hn hnle
    by_cases hlt : q < m
    · have hqi : (q : Int) < (m : Int) := by omega
      have hqc : (q : Int) < (cap : Int) := by omega
      by_cases hfull : (nl : Int) < n
      · obtain ⟨bo, offo, ao, no, co, rfl, eu, eno, hco, hro, hat⟩ := HL.out.place (lo := LO) hlt
        have htk := takeR_snoc (l := L) (i := q) (by have := HLL.out; omega)
        have hcs := HC.out _ (rw_mem (L := L) (k := q) (by have := HLL.out; omega))
        obtain ⟨y, hy⟩ : ∃ y, L.getD q Rw.zero = y := ⟨_, rfl⟩
        rw [hy] at hat eu eno hro hco htk hcs
        obtain ⟨ko, uo, cso⟩ := y
        simp only at hat eu eno hco hcs
        subst eu
        subst eno
        obtain ⟨o0, o1⟩ := hat _ hb
        have hl1 := text_lss ko fr
        have hl2 := text_lss ko un
        obtain ⟨to, hto⟩ : ∃ z, text ko = z := ⟨_, rfl⟩
        rw [hto] at o0
        rw [hto, HTF.out] at hl1
        rw [hto, HTU.out] at hl2
        obtain ⟨B1, hB1⟩ : ∃ z, Op.bytesLess ko fr = z := ⟨_, rfl⟩
        obtain ⟨B2, hB2⟩ : ∃ z, Op.bytesLess ko un = z := ⟨_, rfl⟩
        obtain ⟨UE, hUE⟩ : ∃ z, un.isEmpty = z := ⟨_, rfl⟩
        have hue := HUE.out
        rw [hUE] at hue
        rw [hB1] at hl1
        rw [hB2] at hl2
        have hch : chosen fr un (ko, cso) = (!B1 && (UE || B2)) := by
          unfold chosen
          rw [hB1, hB2, hUE]
        have HTO := Lib.hid hto
        have HTK := Lib.hid htk
        have HCH := Lib.hid hch
        have HCO := Lib.hid (hco.below hb)
        clear hat hco hro hy hb hto htk hB1 hB2 hUE hch
        have skip : chosen fr un (ko, cso) = false → NN.map Rw.pr = ((L.take (q + 1)).map Rw.pr).filter (chosen fr un) := fun h => by
          rw [HTK.out, List.map_append, List.filter_append, ← HN.out]
          show _ = NN.map Rw.pr ++ [(ko, cso)].filter (chosen fr un)
          rw [List.filter_cons, h]
          simp
        have take1 : ∀ v : Value, chosen fr un (ko, cso) = true → (NN ++ [(⟨ko, v, cso⟩ : Rw)]).map Rw.pr = ((L.take (q + 1)).map Rw.pr).filter (chosen fr un) := fun v h => by
          rw [HTK.out, List.map_append, List.map_append, List.filter_append, HN.out]
          congr 1
          show [(ko, cso)] = [(ko, cso)].filter (chosen fr un)
          rw [List.filter_cons, h]
          simp
        have SKIP := Lib.hid skip
        have TAKE := Lib.hid take1
        clear skip take1
        by_cases hcc : (!B1 && (UE || B2)) = true
        · have htr := HCH.out.trans hcc
          have HTR := Lib.hid htr
          have HCP := Lib.hid (rcopy_c HCO.out hcs to)
          clear htr
          have hcases : B1 = false ∧ (UE = true ∨ (UE = false ∧ B2 = true)) := by
            cases B1 <;> cases UE <;> cases B2 <;> simp_all
          obtain ⟨rfl, hcases⟩ := hcases
          rcases hcases with rfl | ⟨rfl, rfl⟩
          all_goals
            go_upto_region 6 with (fail)
            clear hl1 hl2 hue
            go_wp2_with (first
              | (go_at_call 59; (with_reducible refine HCP.out.mono ?_); rintro e9 w9 ⟨vc, rfl, hoc, hb9⟩; obtain ⟨ac, cc, rfl, -⟩ := hoc.cls; have HOC := Lib.hid hoc; have HO9 := Lib.hid (HO.out.kept hb9); have HB9 := Lib.hid (HB.out.trans (hb9.mono HB.out.size)); have HLO9 := Lib.hid (Nat.le_trans hLO HB.out.size); clear hoc hb9)
              | (at_builtin; refine wpList_append_rwt rfl _ _ rfl rfl HO9.out.row to HTO.out ac cso.length cc cso rfl (by have := HNE.out; omega) HB9.out.size ?_; intro v' w' ho' hg'; have HK := Lib.hid (HO9.out.push (RowK.own' (L0 := L) (lo := LO) (k := ko) HOC.out HLO9.out) _ ho' hg'); have HBK := Lib.hid ((HB9.out.alloc HB9.out.size (.cells #[.string to, .slice ac cso.length cc] 30)).grown hg' (by have := HB9.out.size; simp; omega) (fun z e => (HO9.out.lt z e).1)); clear ho' hg'))
            go_roundw
            case rel => exact ⟨q + 1, _, by omega, by go_num, TAKE.out _ HTR.out, by rw [List.length_append, List.length_singleton, HNE.out]; omega, by rw [List.length_append, List.length_singleton, HNE.out]; omega, HK.out, HBK.out⟩
            case measure => simp [intOf]; omega
        · have htr : chosen fr un (ko, cso) = false := by rw [HCH.out]; simpa using hcc
          have HTR := Lib.hid htr
          clear htr
          have hcases : B1 = true ∨ (B1 = false ∧ UE = false ∧ B2 = false) := by
            cases B1 <;> cases UE <;> cases B2 <;> simp_all
          rcases hcases with rfl | ⟨rfl, rfl, rfl⟩
          all_goals
            go_wp2
            go_roundw
            case rel => exact ⟨q + 1, NN, by omega, by go_num, SKIP.out HTR.out, by rw [HNE.out]; omega, by rw [HNE.out]; omega, HO.out, HB.out⟩
            case measure => simp [intOf]; omega
      · have HR := Lib.hid (show NN.map Rw.pr = ((L.map Rw.pr).filter (chosen fr un)).take n.toNat by
          have h1 : L.map Rw.pr = (L.take q).map Rw.pr ++ (L.drop q).map Rw.pr := by rw [← List.map_append, List.take_append_drop]
          have h2 : (((L.take q).map Rw.pr).filter (chosen fr un)).length = n.toNat := by
            rw [← HN.out, List.length_map, HNE.out]
            omega
          rw [h1, List.filter_append, ← h2, List.take_left, HN.out])
        clear hb
        go_wp2
        go_ret
        exact ⟨_, NN, rfl, HR.out, HO.out, HB.out⟩
    · obtain rfl : q = m := by omega
      have HR := Lib.hid (show NN.map Rw.pr = ((L.map Rw.pr).filter (chosen fr un)).take n.toNat by
        have h2 := HN.out
        rw [List.take_of_length_le (by have := HLL.out; omega)] at h2
        rw [← h2, List.take_of_length_le (by rw [List.length_map, HNE.out]; omega)])
      clear hb
      go_wp2
      go_ret
      exact ⟨_, NN, rfl, HR.out, HO.out, HB.out⟩
end Go.Proofs.Ytbpgfmcnpifmdaa
end

section
namespace Go.Proofs.Ytbpgfmcnpifmdaa
open Go.RowKit Go Go.Sort Go.Deep
set_option linter.unusedVariables false
set_option maxRecDepth 20000

theorem own_putS {W : World} {B g m c k : Nat} {cs : List Cl} (h : OwnC W B (.slice (some ⟨g, 0, none⟩) m c) cs) (hk : k < cs.length) (t : List UInt8) :
    OwnC (W.setCell ⟨g, k * 8 + 5, none⟩ (.string (text t))) B (.slice (some ⟨g, 0, none⟩) m c) (cs.set k { cs.getD k Cl.zero with t := t }) := by
  obtain ⟨hlen, ⟨ev, -⟩ | ⟨g', cap, cur, ev, hB, hg, hnc, hcm, hcs, htake⟩⟩ := h
  · cases ev
  · injection ev with e1 e2 e3
    injection e1 with e1
    injection e1 with e1
    subst e1 e2 e3
    have h0 := heap_setCell_same W g (k * 8 + 5) _ _ (.string (text t)) hg
    have hl2 : (cs.set k ({ cs.getD k Cl.zero with t := t } : Cl)).length = cs.length := List.length_set
    refine ⟨by rw [cCells_length], .inr ⟨g, c, _, by rw [hl2], hB, h0, by rw [hl2]; exact hnc, hcm, by simpa using hcs, ?_⟩⟩
    rw [hl2]
    apply List.ext_getElem?
    intro j
    have hcl := cCells_length cs
    have hcl2 := cCells_length (cs.set k { cs.getD k Cl.zero with t := t })
    rw [hl2] at hcl2
    rw [List.getElem?_take]
    by_cases hj : j < cs.length * 8
    · rw [if_pos hj]
      have hc := take_cell htake hj
      have hsz : cs.length * 8 ≤ cur.size := by
        have h9 := congrArg List.length htake
        rw [List.length_take, hcl] at h9
        simp at h9
        omega
      simp only [Array.getElem?_toList, Array.getElem?_setIfInBounds]
      have hd : j / 8 < cs.length := by omega
      have hm : j % 8 < 8 := Nat.mod_lt _ (by omega)
      have e8 : j / 8 * 8 + j % 8 = j := by omega
      have g1 := cCells_get cs (j / 8) (j % 8) hd hm
      have g2 := cCells_get (cs.set k { cs.getD k Cl.zero with t := t }) (j / 8) (j % 8) (by rw [hl2]; exact hd) hm
      rw [e8] at g1 g2
      rw [g2, hc, g1]
      obtain ⟨r, hr⟩ : ∃ r, j % 8 = r := ⟨_, rfl⟩
      rw [hr] at hm e8 ⊢
      by_cases hq : j / 8 = k
      · rw [hq] at e8 ⊢
        have e9 : (cs.set k ({ cs.getD k Cl.zero with t := t } : Cl)).getD k Cl.zero = { cs.getD k Cl.zero with t := t } := by simp [hk]
        rw [e9]
        subst e8
        rcases (by omega : r = 0 ∨ r = 1 ∨ r = 2 ∨ r = 3 ∨ r = 4 ∨ r = 5 ∨ r = 6 ∨ r = 7) with rfl | rfl | rfl | rfl | rfl | rfl | rfl | rfl
        all_goals
          first
            | (rw [if_pos (by omega), if_pos (by omega)]; rfl)
            | (rw [if_neg (by omega)]; rfl)
      · have e9 : (cs.set k ({ cs.getD k Cl.zero with t := t } : Cl)).getD (j / 8) Cl.zero = cs.getD (j / 8) Cl.zero := by
          simp only [List.getD_eq_getElem?_getD, List.getElem?_set]
          rw [if_neg (fun e => hq e.symm)]
        rw [e9]
        rw [if_neg (by omega)]
    · rw [if_neg hj, List.getElem?_eq_none (by omega)]
theorem getD_setC {l : List Cl} {k j : Nat} (c : Cl) (h : k < j) : (l.set k c).getD j Cl.zero = l.getD j Cl.zero := by
  rw [List.getD_eq_getElem?_getD, List.getElem?_set_ne (by omega), List.getD_eq_getElem?_getD]
theorem Turn.at {F : Nat → Prop} {w W : World} {b i : Nat} {v : Value} (h : Turn F w W) (hc : w.cell? ⟨b, i, none⟩ = some v) (hF : ¬ F b) : W.cell? ⟨b, i, none⟩ = some v := by
  have hb := h.block b (World.block_lt_of_cell? w _ hc) hF
  simp only [World.cell?, hb]
  exact hc
set_option maxRecDepth 100000 in
set_option maxHeartbeats 6400000 in
theorem spoil_c {w : World} {x : Option Addr} {m cap lo : Nat} {L : List Rw} (hl : Ls 2 Rw.arr Rw.zero w x m cap L) (hx : ∀ b off, x = some ⟨b, off, none⟩ → ∀ r ∈ L, r.u.ownBlock ≠ some b) (ho : ∀ r ∈ L, OwnC w lo r.u r.cs) (hap : L.Pairwise (fun a b => ∀ q, a.u.ownBlock = some q → b.u.ownBlock ≠ some q)) (hs : ∀ r ∈ L, ∀ c ∈ r.cs, c.t.length ≤ 20000) :
    Calls Try.prog 19 #[.slice x m cap] w (fun e w' => e = .returned (.tuple #[]) ∧ Turn (fun k => ∃ r ∈ L, r.u.ownBlock = some k) w w') := by
  have hle := hl.le
  have hmax := hl.max
  have HLL := Lib.hid hl.len
  have HL := Lib.hid hl
  have HX := Lib.hid hx
  have HO := Lib.hid ho
  have HAP := Lib.hid hap
  have HS := Lib.hid hs
  clear hl hx ho hap hs
  go_enter Try.func19, Try.ntmps19
  go_wp2
  go_loopw [7] (fun j wr => ∃ i : Nat, i ≤ m ∧ j = .int .i64 (i : Int) ∧ (∀ r ∈ L.drop i, OwnC wr lo r.u r.cs) ∧ Turn (fun k => ∃ r ∈ L, r.u.ownBlock = some k) w wr) (fun j _ => m - (intOf j).toNat)
  case atStart => exact ⟨0, Nat.zero_le _, rfl, HO.out, Turn.refl _ _⟩
  case round =>
    obtain ⟨i, hi, rfl, hod, htn⟩ := hrel
    have HTN := Lib.hid htn
    have HOD := Lib.hid hod
    clear hod
    by_cases hlt : i < m
    · have hii : (i : Int) < (m : Int) := by omega
      have hic : (i : Int) < (cap : Int) := by omega
      obtain ⟨b, off, rfl, hat⟩ := HL.out.at hlt
      have hmem := rw_mem (L := L) (k := i) (by have := HLL.out; omega)
      have hnF : ¬ ∃ r ∈ L, r.u.ownBlock = some b := fun ⟨r, hr, e⟩ => HX.out b off rfl r hr e
      have o0 := htn.at (hat w (Below.refl _ _) 0 _ rfl) hnF
      have o1 := htn.at (hat w (Below.refl _ _) 1 _ rfl) hnF
      have hdr : L.drop i = L.getD i Rw.zero :: L.drop (i + 1) := by
        rw [List.getD_eq_getElem?_getD, List.getElem?_eq_getElem (by have := HLL.out; omega)]
        exact List.drop_eq_getElem_cons (by have := HLL.out; omega)
      have hown := HOD.out (L.getD i Rw.zero) (by rw [hdr]; exact List.mem_cons_self ..)
      have hsm := HS.out _ hmem
      have hpw : ∀ r ∈ L.drop (i + 1), ∀ q, (L.getD i Rw.zero).u.ownBlock = some q → r.u.ownBlock ≠ some q := fun r hr q hq => by
        have h1 : (L.drop i).Pairwise (fun a b => ∀ q, a.u.ownBlock = some q → b.u.ownBlock ≠ some q) := List.Pairwise.sublist (List.drop_sublist _ _) HAP.out
        rw [hdr] at h1
        exact (List.pairwise_cons.1 h1).1 r hr q hq
      have hrest : ∀ r ∈ L.drop (i + 1), OwnC wr lo r.u r.cs := fun r hr => HOD.out r (by rw [hdr]; exact List.mem_cons_of_mem _ hr)
      obtain ⟨y, hy⟩ : ∃ y, L.getD i Rw.zero = y := ⟨_, rfl⟩
      rw [hy] at o0 o1 hown hsm hpw hmem
      obtain ⟨ko, uo, cso⟩ := y
      replace o0 : wr.cell? ⟨b, off + i * 2, none⟩ = some (.string (text ko)) := o0
      replace o1 : wr.cell? ⟨b, off + i * 2 + 1, none⟩ = some uo := o1
      replace hown : OwnC wr lo uo cso := hown
      replace hsm : ∀ c ∈ cso, c.t.length ≤ 20000 := hsm
      replace hpw : ∀ r ∈ L.drop (i + 1), ∀ q, uo.ownBlock = some q → r.u.ownBlock ≠ some q := hpw
      obtain ⟨n, hn⟩ : ∃ z, cso.length = z := ⟨_, rfl⟩
      have HMEM := Lib.hid hmem
      have HOWN := Lib.hid hown
      have HSM := Lib.hid hsm
      have HPW := Lib.hid hpw
      have HREST := Lib.hid hrest
      have HN := Lib.hid hn
      by_cases hn0 : n = 0
      · obtain ⟨au, cu, eu, -⟩ := hown.cls
        rw [hn, hn0] at eu
        subst eu
        have hz := heap_alloc_new wr (.cells #[.string (text ko), .slice au 0 cu] 30)
        have hal := alloc_below wr (.cells #[.string (text ko), .slice au 0 cu] 30)
        have HRN := Lib.hid (fun r hr => (HREST.out r hr).kept hal)
        have HTA := Lib.hid (HTN.out.trans (Turn.of_below hal))
        clear hat hmem hdr hown hsm hpw hrest hy hn htn hnF hal
        obtain ⟨z0, z1, -⟩ := row_cells hz
        clear hz
        go_wp2
        go_loopw [14] (fun j wz => j = .int .i64 0 ∧ wz = wr.alloc (.cells #[.string (text ko), .slice au 0 cu] 30)) (fun j _ => 0)
        case atStart => exact ⟨rfl, rfl⟩
        case round =>
          obtain ⟨rfl, hwz⟩ := hrel
          replace hwz := hwz.symm
          subst hwz
          go_wp2
          go_roundw
          case rel => exact ⟨i + 1, by omega, by go_num, HRN.out, HTA.out⟩
          case measure => simp [intOf]; omega
      · obtain ⟨g, c, eu, hlg, hnc, hgl⟩ := own_some hown (by omega)
        rw [hn] at eu hnc
        subst eu
        have hcm : c ≤ 9223372036854775807 := by
          obtain ⟨a', c', e', hcl⟩ := hown.cls
          injection e' with e1 e2 e3
          rw [e3]; exact hcl.max
        have hz := heap_alloc_new wr (.cells #[.string (text ko), .slice (some ⟨g, 0, none⟩) n c] 30)
        have hal := alloc_below wr (.cells #[.string (text ko), .slice (some ⟨g, 0, none⟩) n c] 30)
        have HZ := Lib.hid hz
        have HAL := Lib.hid hal
        have HOA := Lib.hid (hown.kept hal)
        have HGL := Lib.hid hgl
        obtain ⟨z0, z1, -⟩ := row_cells hz
        clear hat hmem hdr hown hsm hpw hrest hy hn htn hnF hal hz hgl hlg
        go_upto_region 4 with (fail)
        obtain ⟨WX, hWX⟩ : ∃ X, wr.alloc (.cells #[.string (text ko), .slice (some ⟨g, 0, none⟩) n c] 30) = X := ⟨_, rfl⟩
        obtain ⟨z, hzz⟩ : ∃ X, wr.heap.size = X := ⟨_, rfl⟩
        rw [hWX] at HZ HAL HOA
        rw [hzz] at HZ HGL
        simp only [hWX, hzz]
        have hzlt : z < WX.heap.size := (Array.getElem?_eq_some_iff.1 HZ.out).1
        have HZL := Lib.hid hzlt
        clear hWX hzz z0 z1 hzlt
        go_loopw [14] (fun j wz => ∃ (k : Nat) (cs2 : List Cl), k ≤ n ∧ j = .int .i64 (k : Int) ∧ cs2.length = n ∧ OwnC wz lo (.slice (some ⟨g, 0, none⟩) n c) cs2 ∧ (∀ j, k ≤ j → cs2.getD j Cl.zero = cso.getD j Cl.zero) ∧ Turn (fun q => q = g) WX wz) (fun j _ => n - (intOf j).toNat)
        case atStart => exact ⟨0, cso, Nat.zero_le _, rfl, HN.out, HOA.out, fun _ _ => rfl, Turn.refl _ _⟩
        case round =>
          obtain ⟨k, cs2, hk, rfl, hc2, ho2, hsame, ht2⟩ := hrel
          have HT2 := Lib.hid ht2
          have hzr : wr.heap[z]? = some (.cells #[.string (text ko), .slice (some ⟨g, 0, none⟩) n c] 30 (0, 0)) := (ht2.block z HZL.out (by have := HGL.out; omega)).trans HZ.out
          obtain ⟨z0, z1, -⟩ := row_cells hzr
          clear hzr ht2
          by_cases hkn : k < n
          · have hki : (k : Int) < (n : Int) := by omega
            have hkc : (k : Int) < (c : Int) := by omega
            have hk2 : k < cs2.length := by omega
            obtain ⟨-, -, -, -, -, p5, -, -⟩ := own_at ho2 hk2 _ (Below.refl _ _)
            have pf5 := own_fz ho2 (k * 8 + 5)
            have hlt5 : (cs2.getD k Cl.zero).t.length ≤ 20000 := by
              rw [hsame k (Nat.le_refl _)]
              refine HSM.out _ ?_
              rw [List.getD_eq_getElem?_getD, List.getElem?_eq_getElem (by have := HN.out; omega)]
              exact List.getElem_mem _
            obtain ⟨t, ht⟩ : ∃ z, (cs2.getD k Cl.zero).t = z := ⟨_, rfl⟩
            have hput := own_putS ho2 hk2 (t ++ [63])
            rw [ht] at p5 hlt5
            have hadd : ∀ W, (Op.stringOp .add (text t) ⟨#[63]⟩).run Try.prog W = .ok (.string (text (t ++ [63]))) W := fun W => text_adds t [63] (by simp; omega) W
            have htc := HT2.out.trans (Turn.cell wr ⟨g, k * 8 + 5, none⟩ (.string (text (t ++ [63]))))
            have HGD := Lib.hid (show ∀ j, k + 1 ≤ j → (cs2.set k { cs2.getD k Cl.zero with t := t ++ [63] }).getD j Cl.zero = cso.getD j Cl.zero from fun j hj => by rw [getD_setC _ (by omega)]; exact hsame j (by omega))
            have HLN := Lib.hid (show (cs2.set k { cs2.getD k Cl.zero with t := t ++ [63] }).length = n by rw [List.length_set]; exact hc2)
            obtain ⟨t1, ht1⟩ : ∃ z, text t = z := ⟨_, rfl⟩
            obtain ⟨t2, ht2⟩ : ∃ z, text (t ++ [63]) = z := ⟨_, rfl⟩
            rw [ht1] at p5
            simp only [ht1, ht2] at hadd
            rw [ht2] at hput htc
            have HPUT := Lib.hid hput
            have HTC := Lib.hid htc
            clear hput htc ht1 ht2 ht hlt5 hk2 ho2 hsame hc2
            go_wp2
            go_roundw
            case rel => exact ⟨k + 1, _, by omega, by go_num, HLN.out, HPUT.out, HGD.out, HTC.out⟩
            case measure => simp [intOf]; omega
          · obtain rfl : k = n := by omega
            clear ho2 hsame hc2
            go_wp2
            go_roundw
            case rel => exact ⟨i + 1, by omega, by go_num, fun r hr => ((HREST.out r hr).kept HAL.out).of_block fun q hq => HT2.out.block q (((HREST.out r hr).kept HAL.out).lt q hq).2 (fun e => HPW.out r hr g rfl (by rw [hq, e])), (HTN.out.trans (Turn.of_below HAL.out)).trans (HT2.out.mono fun q hq _ => ⟨_, HMEM.out, by rw [hq]; rfl⟩)⟩
            case measure => simp [intOf]; omega
    · obtain rfl : i = m := by omega
      clear htn
      go_wp2
      go_end0
      exact ⟨rfl, HTN.out⟩
end Go.Proofs.Ytbpgfmcnpifmdaa
end

section
namespace Go.Proofs.Ytbpgfmcnpifmdaa
open Go.RowKit Go Go.Sort
set_option linter.unusedVariables false
set_option maxRecDepth 20000

/-- The blocks of a list. -/
def footL (v : Value) (NN : List Rw) (k : Nat) : Prop := v.ownBlock = some k ∨ ∃ r ∈ NN, r.u.ownBlock = some k
structure Pl (w1 W : World) (lo hi q : Nat) (va : Value) (BA : List Blk) (v : Value) (NN : List Rw) (R RL : List Rp) : Prop where
  map : MapIn W q va BA
  rows : (rowsOf BA).map Rw.pr = R
  list : NN.map Rw.pr = RL
  row : OwnL 2 30 Rw.arr W 0 v NN
  own : ∀ r ∈ NN, OwnC W 0 r.u r.cs
  ap : ∀ k, foot q va BA k → ¬ footL v NN k
  low : ∀ k, foot q va BA k → w1.heap.size ≤ k
  av : ∀ k, foot q va BA k ∨ cellB BA k ∨ footL v NN k → k < lo ∨ hi ≤ k
  hi : hi ≤ W.heap.size
  bel : Below w1.heap.size w1 W
def PlIn (w1 W : World) (lo hi q : Nat) (v : Value) (R RL : List Rp) : Prop := ∃ va BA NN, Pl w1 W lo hi q va BA v NN R RL
theorem Pl.lt {w1 W : World} {lo hi q : Nat} {va v : Value} {BA : List Blk} {NN : List Rw} {R RL : List Rp} (h : Pl w1 W lo hi q va BA v NN R RL) {k : Nat} (hk : foot q va BA k ∨ cellB BA k ∨ footL v NN k) : k < W.heap.size := by
  rcases hk with hk | hk | hk | ⟨r, hr, hk⟩
  · exact h.map.lt (.inl hk)
  · exact h.map.lt (.inr hk)
  · exact (h.row.lt k hk).2
  · exact ((h.own r hr).lt k hk).2
theorem Pl.kept {w1 W W' : World} {lo hi q : Nat} {va v : Value} {BA : List Blk} {NN : List Rw} {R RL : List Rp} (h : Pl w1 W lo hi q va BA v NN R RL) (hb : Below W.heap.size W W') : Pl w1 W' lo hi q va BA v NN R RL :=
  ⟨h.map.below hb, h.rows, h.list, h.row.kept hb, fun r hr => (h.own r hr).kept hb, h.ap, h.low, h.av, Nat.le_trans h.hi hb.size, h.bel.trans (hb.mono h.bel.size)⟩
theorem PlIn.kept {w1 W W' : World} {lo hi q : Nat} {v : Value} {R RL : List Rp} (h : PlIn w1 W lo hi q v R RL) (hb : Below W.heap.size W W') : PlIn w1 W' lo hi q v R RL := by
  obtain ⟨va, BA, NN, h⟩ := h
  exact ⟨va, BA, NN, h.kept hb⟩
/-- What has been laid since is none of theirs. -/
theorem PlIn.gap {w1 W W' : World} {lo hi q : Nat} {v : Value} {R RL : List Rp} (h : PlIn w1 W lo hi q v R RL) (hb : Below W.heap.size W W') : PlIn w1 W' W.heap.size W'.heap.size q v R RL := by
  obtain ⟨va, BA, NN, h⟩ := h
  have h2 := h.kept hb
  exact ⟨va, BA, NN, h2.map, h2.rows, h2.list, h2.row, h2.own, h2.ap, h2.low, fun k hk => .inl (h.lt hk), Nat.le_refl _, h2.bel⟩
theorem PlIn.bel {w1 W : World} {lo hi q : Nat} {v : Value} {R RL : List Rp} (h : PlIn w1 W lo hi q v R RL) : Below w1.heap.size w1 W := by
  obtain ⟨va, BA, NN, h⟩ := h
  exact h.bel
theorem PlIn.shape {w1 W : World} {lo hi q : Nat} {v : Value} {R RL : List Rp} (h : PlIn w1 W lo hi q v R RL) : ∃ a c NN, v = .slice a RL.length c ∧ RwsK W a RL.length c NN ∧ NN.map Rw.pr = RL := by
  obtain ⟨va, BA, NN, h⟩ := h
  obtain ⟨a, c, e, hl⟩ := h.row.ls (z := Rw.zero) rw_size
  have hn : NN.length = RL.length := by rw [← h.list, List.length_map]
  rw [hn] at e hl
  exact ⟨a, c, NN, e, ⟨hl, h.own⟩, h.list⟩
theorem Pl.turn {w1 W W' : World} {lo hi q : Nat} {va v : Value} {BA : List Blk} {NN : List Rw} {R R' RL : List Rp} (h : Pl w1 W lo hi q va BA v NN R RL) (hd : MDone q va BA R' W W') : PlIn w1 W' lo hi q v R' RL := by
  obtain ⟨va', BA', g1, g2, g3, g4, g5⟩ := hd
  have hblk : ∀ k, footL v NN k → W'.heap[k]? = W.heap[k]? := fun k hk => g3.block k (h.lt (.inr (.inr hk))) (fun hf => h.ap k hf hk)
  refine ⟨va', BA', NN, g1, g2, h.list, h.row.of_block fun k hk => hblk k (.inl hk), fun r hr => (h.own r hr).of_block fun k hk => hblk k (.inr ⟨r, hr, hk⟩), fun k hk hl => ?_, fun k hk => ?_, fun k hk => ?_, Nat.le_trans h.hi g3.size, h.bel.trans (g3.below h.bel.size h.low)⟩
  · rcases g4 k hk with h6 | h6
    · exact h.ap k h6 hl
    · have := h.lt (.inr (.inr hl)); omega
  · rcases g4 k hk with h6 | h6
    · exact h.low k h6
    · exact Nat.le_trans h.bel.size h6
  · rcases hk with hk | hk | hk
    · rcases g4 k hk with h6 | h6
      · exact h.av k (.inl h6)
      · exact .inr (Nat.le_trans h.hi h6)
    · rcases g5 k hk with h6 | h6
      · exact h.av k (.inr (.inl h6))
      · exact .inr (Nat.le_trans h.hi h6)
    · exact h.av k (.inr (.inr hk))
theorem Pl.same {w1 W W' : World} {lo hi q : Nat} {va v : Value} {BA : List Blk} {NN : List Rw} {R R' RL : List Rp} (h : Pl w1 W lo hi q va BA v NN R RL) (hd : MDone q va BA R' W W') : (∀ k, lo ≤ k → k < hi → W'.heap[k]? = W.heap[k]?) ∧ W.heap.size ≤ W'.heap.size := by
  obtain ⟨va', BA', g1, g2, g3, g4, g5⟩ := hd
  exact ⟨fun k h1 h2 => g3.block k (Nat.lt_of_lt_of_le h2 h.hi) (fun hf => by have := h.av k (.inl hf); omega), g3.size⟩
theorem Pl.few {w1 W : World} {lo hi q : Nat} {va v : Value} {BA : List Blk} {NN : List Rw} {R RL : List Rp} (h : Pl w1 W lo hi q va BA v NN R RL) : (rowsOf BA).length = R.length := by rw [← h.rows, List.length_map]
theorem PlIn.set {w1 W : World} {lo hi q : Nat} {v : Value} {R RL : List Rp} (h : PlIn w1 W lo hi q v R RL) (hR : R.length ≤ 1000) {x : Option Addr} {m cap : Nat} {cs : List Cl} (hl : Cls W x m cap cs) (hm : m ≤ 1000000) (kk : List UInt8) :
    Calls Try.prog 17 #[.pointer (some ⟨q, 0, none⟩), .agg #[.string (text kk), .slice x m cap]] W (fun e w' => e = .returned (.int .i64 (if kk = [] then 2 else 0)) ∧ PlIn w1 w' lo hi q v (rowR R (kk, cs)) RL ∧ (∀ k, lo ≤ k → k < hi → w'.heap[k]? = W.heap[k]?) ∧ W.heap.size ≤ w'.heap.size) := by
  obtain ⟨va, BA, NN, h⟩ := h
  refine (msetr_c h.map (by have := h.few; omega) hl hm kk).mono fun e w' ⟨he, hd⟩ => ⟨he, ?_⟩
  rw [h.rows] at hd
  have hk := h.same hd
  exact ⟨h.turn hd, hk⟩
theorem PlIn.drop {w1 W : World} {lo hi q : Nat} {v : Value} {R RL : List Rp} (h : PlIn w1 W lo hi q v R RL) (hR : R.length ≤ 1000) (kk : List UInt8) :
    Calls Try.prog 21 #[.pointer (some ⟨q, 0, none⟩), .string (text kk)] W (fun e w' => e = .returned (.bool (look R kk).isSome) ∧ PlIn w1 w' lo hi q v (R.filter (fun r => decide (r.1 ≠ kk))) RL ∧ (∀ k, lo ≤ k → k < hi → w'.heap[k]? = W.heap[k]?) ∧ W.heap.size ≤ w'.heap.size) := by
  obtain ⟨va, BA, NN, h⟩ := h
  have h1 := mdrop_c h.map (by have := h.few; omega) kk
  rw [h.rows] at h1
  exact h1.mono fun e w' ⟨he, hd⟩ => ⟨he, h.turn hd, h.same hd⟩
theorem Pl.anew {w1 W W' : World} {lo hi q : Nat} {va v v' : Value} {BA : List Blk} {NN NN' : List Rw} {R RL : List Rp} (h : Pl w1 W lo hi q va BA v NN R RL) (ho : OwnK NN W.heap.size W' W.heap.size v' NN') (hb : Below W.heap.size W W') : PlIn w1 W' lo hi q v' R (NN'.map Rw.pr) := by
  have h2 := h.kept hb
  have hf : ∀ k, footL v' NN' k → footL v NN k ∨ W.heap.size ≤ k := fun k hk => by
    rcases hk with hk | ⟨r, hr, hk⟩
    · exact .inr (ho.lt k hk).1
    · rcases (ho.has r hr).src with h3 | h3
      · exact .inl (.inr ⟨r, h3, hk⟩)
      · exact .inr (h3 k hk)
  refine ⟨va, BA, NN', h2.map, h2.rows, rfl, ho.row.mono (Nat.zero_le _), fun r hr => (ho.has r hr).own, fun k hk hl => ?_, h2.low, fun k hk => ?_, h2.hi, h2.bel⟩
  · rcases hf k hl with h3 | h3
    · exact h.ap k hk h3
    · have := h.lt (.inl hk); omega
  · rcases hk with hk | hk | hk
    · exact h.av k (.inl hk)
    · exact h.av k (.inr (.inl hk))
    · rcases hf k hk with h3 | h3
      · exact h.av k (.inr (.inr h3))
      · exact .inr (Nat.le_trans h.hi h3)
theorem PlIn.rset {w1 W : World} {lo hi q : Nat} {v : Value} {R RL : List Rp} (h : PlIn w1 W lo hi q v R RL) (hR : RL.length ≤ 1000) {x : Option Addr} {m cap : Nat} {cs : List Cl} (hl : Cls W x m cap cs) (hm : m ≤ 1000000) (kk : List UInt8) :
    Calls Try.prog 18 #[v, .agg #[.string (text kk), .slice x m cap]] W (fun e w' => ∃ v', e = .returned v' ∧ PlIn w1 w' lo hi q v' R (setR Op.bytesLess Prod.fst ([], []) (kk, cs) RL) ∧ Below W.heap.size W w') := by
  obtain ⟨va, BA, NN, h⟩ := h
  obtain ⟨a, c, rfl, hls⟩ := h.row.ls (z := Rw.zero) rw_size
  have hn : NN.length = RL.length := by rw [← h.list, List.length_map]
  refine (rsetk_c (LO := W.heap.size) (L := NN) ⟨hls, h.own⟩ (Nat.le_refl _) (by omega) hl hm kk).mono fun e w' ⟨v', NN', he, hr, ho, hb⟩ => ⟨v', he, ?_⟩
  rw [h.list] at hr
  rw [← hr]
  exact ⟨h.anew ho hb, hb⟩
theorem PlIn.rdrop {w1 W : World} {lo hi q : Nat} {v : Value} {R RL : List Rp} (h : PlIn w1 W lo hi q v R RL) (hR : RL.length ≤ 1000) (kk : List UInt8) :
    Calls Try.prog 20 #[v, .string (text kk)] W (fun e w' => ∃ v', e = .returned v' ∧ PlIn w1 w' lo hi q v' R (RL.filter (fun r => decide (r.1 ≠ kk))) ∧ Below W.heap.size W w') := by
  obtain ⟨va, BA, NN, h⟩ := h
  obtain ⟨a, c, rfl, hls⟩ := h.row.ls (z := Rw.zero) rw_size
  have hn : NN.length = RL.length := by rw [← h.list, List.length_map]
  refine (rdropk_c (LO := W.heap.size) (L := NN) ⟨hls, h.own⟩ (by omega) kk).mono fun e w' ⟨v', NN', he, hr, ho, hb⟩ => ⟨v', he, ?_⟩
  rw [h.list] at hr
  rw [← hr]
  exact ⟨h.anew ho hb, hb⟩
/-- What is changed is none of theirs. -/
theorem PlIn.spoil {w1 W W' : World} {lo hi q : Nat} {v : Value} {R RL : List Rp} {F : Nat → Prop} (h : PlIn w1 W lo hi q v R RL) (ht : Turn F W W') (hF : ∀ k, F k → lo ≤ k ∧ k < hi) (hlo : w1.heap.size ≤ lo) : PlIn w1 W' 0 0 q v R RL := by
  obtain ⟨va, BA, NN, h⟩ := h
  have hblk : ∀ k, foot q va BA k ∨ cellB BA k ∨ footL v NN k → W'.heap[k]? = W.heap[k]? := fun k hk => ht.block k (h.lt hk) (fun hf => by have := hF k hf; have := h.av k hk; omega)
  exact ⟨va, BA, NN, h.map.keep fun k hk => hblk k (hk.imp_right .inl), h.rows, h.list, h.row.of_block fun k hk => hblk k (.inr (.inr (.inl hk))), fun r hr => (h.own r hr).of_block fun k hk => hblk k (.inr (.inr (.inr ⟨r, hr, hk⟩))), h.ap, h.low, fun k _ => .inr (Nat.zero_le _), Nat.zero_le _, h.bel.trans (ht.below h.bel.size fun k hk => Nat.le_trans hlo (hF k hk).1)⟩
theorem PlIn.get {w1 W : World} {lo hi q : Nat} {v : Value} {R RL : List Rp} (h : PlIn w1 W lo hi q v R RL) (hR : R.length ≤ 1000) (kk : List UInt8) :
    Calls Try.prog 22 #[.pointer (some ⟨q, 0, none⟩), .string (text kk)] W (GotPost (look R kk) (text kk) W) := by
  obtain ⟨va, BA, NN, h⟩ := h
  have h1 := mgetr_c h.map (by have := h.few; omega) kk
  rwa [h.rows] at h1
theorem PlIn.scan {w1 W : World} {lo hi q : Nat} {v : Value} {R RL : List Rp} (h : PlIn w1 W lo hi q v R RL) (hR : R.length ≤ 1000) (fr un : List UInt8) (n : Int) :
    Calls Try.prog 24 #[.pointer (some ⟨q, 0, none⟩), .string (text fr), .string (text un), .int .i64 n] W (fun e w' => ∃ v L, e = .returned v ∧ OwnRs w' W.heap.size v L ∧ L.map Rw.pr = scanP R fr un n ∧ Below W.heap.size W w') := by
  obtain ⟨va, BA, NN, h⟩ := h
  have h1 := mscanp_c h.map (by have := h.few; omega) fr un n
  rwa [h.rows] at h1
theorem PlIn.len {w1 W : World} {lo hi q : Nat} {v : Value} {R RL : List Rp} (h : PlIn w1 W lo hi q v R RL) :
    Calls Try.prog 28 #[.pointer (some ⟨q, 0, none⟩)] W (fun e w' => e = .returned (.int .i64 (R.length : Int)) ∧ w' = W) := by
  obtain ⟨va, BA, NN, h⟩ := h
  have h1 := h.map.head
  rw [h.few] at h1
  exact mlen_c h1
theorem PlIn.asc {w1 W : World} {lo hi q : Nat} {v : Value} {R RL : List Rp} (h : PlIn w1 W lo hi q v R RL) : KAsc Op.bytesLess R := by
  obtain ⟨va, BA, NN, h⟩ := h
  have h1 := h.map.asc
  rwa [h.rows] at h1
theorem PlIn.start (w : World) : PlIn w (w.alloc (.cells #[.bool true, .int .i64 0, .slice none 0 0] 57)) 0 0 w.heap.size (.slice none 0 0) [] [] := by
  refine ⟨_, [], [], MapIn.new w, rfl, rfl, OwnL.nil _ _ _, fun r hr => (nomatch hr), fun k _ h => ?_, fun k h => ?_, fun k _ => .inr (Nat.zero_le _), Nat.zero_le _, alloc_below w _⟩
  · rcases h with h | ⟨r, hr, -⟩
    · cases h
    · cases hr
  · rcases h with h | h | ⟨b, hb, -⟩
    · rw [h]; exact Nat.le_refl _
    · cases h
    · cases hb
theorem look_filter {R : List Rp} {k : List UInt8} (h : KAsc Op.bytesLess R) : (R.filter (fun r => decide (r.1 ≠ k))).length < R.length ↔ (look R k).isSome = true := by
  induction R with
  | nil => simp [look]
  | cons r R ih =>
    have h2 := List.pairwise_cons.1 h
    rw [look_cons]
    by_cases e : r.1 = k
    · rw [if_pos e, List.filter_cons, if_neg (by simpa using e)]
      have := List.length_filter_le (fun r : Rp => decide (r.1 ≠ k)) R
      simp
      simp at this
      omega
    · rw [if_neg e, List.filter_cons, if_pos (by simpa using e)]
      rw [← ih h2.2]
      simp only [List.length_cons]
      omega
/-- The rows that are looked at. -/
def GoodR (n : Nat) (R : List Rp) : Prop := R.length ≤ n ∧ ∀ z ∈ R, z.2.length ≤ 2000 ∧ ∀ c ∈ z.2, c.t.length ≤ 20000
theorem GoodR.row {n : Nat} {R : List Rp} {r : Rp} (h : GoodR n R) (ha : KAsc Op.bytesLess R) (h1 : r.2.length ≤ 2000) (h2 : ∀ c ∈ r.2, c.t.length ≤ 20000) : GoodR (n + 1) (rowR R r) :=
  ⟨Nat.le_trans (rowR_few R r) (by have := h.1; omega), rowR_all ha h.2 fun _ => ⟨h1, h2⟩⟩
theorem GoodR.drop {n : Nat} {R : List Rp} {k : List UInt8} (h : GoodR n R) : GoodR (n + 1) (R.filter (fun r => decide (r.1 ≠ k))) :=
  ⟨Nat.le_trans (List.length_filter_le _ _) (by have := h.1; omega), fun z hz => h.2 z (List.mem_filter.1 hz).1⟩
theorem GoodR.next {n : Nat} {R : List Rp} (h : GoodR n R) : GoodR (n + 1) R := ⟨Nat.le_succ_of_le h.1, h.2⟩
theorem PlIn.wide {w1 W : World} {lo hi q : Nat} {v : Value} {R RL : List Rp} (h : PlIn w1 W lo hi q v R RL) : PlIn w1 W 0 0 q v R RL := by
  obtain ⟨va, BA, NN, h⟩ := h
  exact ⟨va, BA, NN, h.map, h.rows, h.list, h.row, h.own, h.ap, h.low, fun k _ => .inr (Nat.zero_le _), Nat.zero_le _, h.bel⟩
/-- One row is changed. -/
theorem spoil1_c {W : World} {g lo : Nat} {k : List UInt8} {u : Value} {cs : List Cl} {t : TypeId} (hg : W.heap[g]? = some (.cells #[.string (text k), u] t (0, 0))) (ho : OwnC W lo u cs) (hne : u.ownBlock ≠ some g) (hs : ∀ c ∈ cs, c.t.length ≤ 20000) :
    Calls Try.prog 19 #[.slice (some ⟨g, 0, none⟩) 1 1] W (fun e w' => e = .returned (.tuple #[]) ∧ Turn (fun j => u.ownBlock = some j) W w') := by
  have hls : Ls 2 Rw.arr Rw.zero W (some ⟨g, 0, none⟩) 1 1 [⟨k, u, cs⟩] := by
    refine ⟨rfl, Nat.le_refl _, by omega, .inr ⟨g, 0, rfl, fun i hi j v hj => ?_⟩⟩
    obtain rfl : i = 0 := by omega
    show W.cell? ⟨g, 0 + 0 * 2 + j, none⟩ = some v
    simp only [Nat.zero_mul, Nat.zero_add]
    rw [cell_of_row W g j _ t (0, 0) hg]
    exact hj
  refine (spoil_c (lo := lo) hls (fun b off e r hr h => ?_) (fun r hr => ?_) (List.pairwise_singleton _ _) (fun r hr => ?_)).mono fun e w' ⟨he, ht⟩ => ⟨he, ht.mono fun j hj _ => ?_⟩
  · injection e with e
    injection e with e1
    rw [List.mem_singleton] at hr
    subst hr e1
    exact hne h
  · rw [List.mem_singleton] at hr
    subst hr
    exact ho
  · rw [List.mem_singleton] at hr
    subst hr
    exact hs
  · obtain ⟨r, hr, h⟩ := hj
    rw [List.mem_singleton] at hr
    subst hr
    exact h
/-- Rows that were told are changed. -/
theorem spoilx_c {W : World} {lo : Nat} {a : Option Addr} {m c : Nat} {L : List Rw} (h : OwnRs W lo (.slice a m c) L) (hm : L.length = m) (hs : ∀ r ∈ L, ∀ c ∈ r.cs, c.t.length ≤ 20000) :
    Calls Try.prog 19 #[.slice a m c] W (fun e w' => e = .returned (.tuple #[]) ∧ Turn (fun j => lo ≤ j) W w') := by
  have hat := h.lies hm
  refine (spoil_c (lo := lo) hat.1 (fun b off e r hr h2 => ?_) (fun r hr => (h.own r hr).1) h.apart hs).mono fun e w' ⟨he, ht⟩ => ⟨he, ht.mono fun j hj _ => ?_⟩
  · subst e
    exact own_kinds (h.own r hr).1 h.row h2 rfl
  · obtain ⟨r, hr, h2⟩ := hj
    exact ((h.own r hr).1.lt j h2).1
/-- What Get tells, in one form. -/
def gk (r : Option (List Cl)) (k : List UInt8) : List UInt8 := match r with | some _ => k | none => []
def gc (r : Option (List Cl)) : List Cl := match r with | some cs => cs | none => []
theorem GotPost.uni {r : Option (List Cl)} {k : List UInt8} {w w' : World} {e : Ending} (h : GotPost r (text k) w e w') : ∃ a c, e = .returned (.tuple #[.agg #[.string (text (gk r k)), .slice a (gc r).length c], .bool r.isSome]) ∧ OwnC w' w.heap.size (.slice a (gc r).length c) (gc r) ∧ Below w.heap.size w w' := by
  rcases h with ⟨cs, a, c, rfl, h2, h3, h4⟩ | ⟨rfl, h2, h3⟩
  · exact ⟨a, c, h2, h3, h4⟩
  · exact ⟨Option.none, 0, h2, OwnC.nil _ _, h3⟩
theorem PlIn.rget {w1 W : World} {lo hi q n : Nat} {v : Value} {R RL : List Rp} (h : PlIn w1 W lo hi q v R RL) (hg : GoodR n RL) (kk : List UInt8) :
    Calls Try.prog 23 #[v, .string (text kk)] W (GotPost (look RL kk) (text kk) W) := by
  obtain ⟨a, c, NN, rfl, hr, hn⟩ := h.shape
  have h1 := rget11_c (hr.all.ins (Nat.le_refl _)) (fun r hr => by
    have h2 := (hg.2 r.pr (by rw [← hn]; exact List.mem_map.2 ⟨r, hr, rfl⟩)).1
    have h2 : r.cs.length ≤ 2000 := h2
    omega) kk
  rwa [hn] at h1
theorem PlIn.rscan {w1 W : World} {lo hi q n : Nat} {v : Value} {R RL : List Rp} (h : PlIn w1 W lo hi q v R RL) (hg : GoodR n RL) (hn1 : n ≤ 1000) (ha : KAsc Op.bytesLess RL) (fr un : List UInt8) (m : Int) :
    Calls Try.prog 27 #[v, .string (text fr), .string (text un), .int .i64 m] W (fun e w' => ∃ a c NN, e = .returned (.slice a NN.length c) ∧ RwsAt w' a NN.length c NN ∧ NN.map Rw.pr = scanP RL fr un m ∧ Below W.heap.size W w') := by
  obtain ⟨a, c, NN, rfl, hr, hn⟩ := h.shape
  refine (rscank_c (LO := 0) hr (by have := hg.1; omega) (fun r hr => by
    have h2 := (hg.2 r.pr (by rw [← hn]; exact List.mem_map.2 ⟨r, hr, rfl⟩)).1
    have h2 : r.cs.length ≤ 2000 := h2
    omega) fr un m (Nat.zero_le _)).mono fun e w' ⟨v', NN', he, hr', ho, hb⟩ => ?_
  obtain ⟨a', c', rfl, hl'⟩ := ho.ins
  exact ⟨a', c', NN', he, ⟨hl', fun j hj => ((ho.has _ (rw_mem hj)).own).cls⟩, by rw [hr', hn, chosen_scan ha], hb⟩
theorem gc_few {R : List Rp} {n : Nat} (h : GoodR n R) (k : List UInt8) : ∀ c ∈ gc (look R k), c.t.length ≤ 20000 := by
  cases hl : look R k with
  | none => exact fun c hc => (nomatch hc)
  | some cs => exact (h.2 _ (look_mem hl)).2
theorem scan_few {R : List Rp} {n : Nat} {L : List Rw} {fr un : List UInt8} {m : Int} (h : GoodR n R) (hl : L.map Rw.pr = scanP R fr un m) : ∀ r ∈ L, ∀ c ∈ r.cs, c.t.length ≤ 20000 := fun r hr => by
  have h1 : r.pr ∈ scanP R fr un m := by rw [← hl]; exact List.mem_map.2 ⟨r, hr, rfl⟩
  rw [scan_rest] at h1
  exact (h.2 _ (rest_mem (List.mem_of_mem_take h1))).2
theorem OwnRs.turn {W W' : World} {lo : Nat} {v : Value} {L : List Rw} {F : Nat → Prop} (h : OwnRs W lo v L) (ht : Turn F W W') (hF : ∀ k, F k → k < lo) : OwnRs W' lo v L :=
  h.same ⟨ht.size, fun q h1 h2 => ht.block q h2 fun hf => by have := hF q hf; omega⟩
end Go.Proofs.Ytbpgfmcnpifmdaa
end

section
namespace Go.Proofs.Ytbpgfmcnpifmdaa
open Go.RowKit Go Go.Sort Go.Deep
set_option linter.unusedVariables false
set_option maxRecDepth 20000

set_option maxRecDepth 100000 in
set_option maxHeartbeats 40000000 in
theorem splays_walk {w : World} {x : Option Addr} {n cap : Nat} {l : List Ac} (hl : ActsAt w x n cap l) (hs : ∀ q ∈ l, q.r.k.length ≤ 9223372036854775807 ∧ q.un.length ≤ 9223372036854775807 ∧ ∀ c ∈ q.r.cs, c.t.length ≤ 9223372036854775807) :
    Calls Try.prog 3 #[.slice x n cap] w (Tells (.bool true) w) := by
  have hle := hl.1.le
  have hmax := hl.1.max
  have HLL := Lib.hid hl.1.len
  have HL := Lib.hid hl
  have HLI := Lib.hid (fun w1 (h : Below w.heap.size w w1) => slight_c (hl.below h) hs)
  have hst := PlIn.start w
  clear hl hs
  obtain ⟨W0, hW0⟩ : ∃ X, w.alloc (.cells #[.bool true, .int .i64 0, .slice none 0 0] 57) = X := ⟨_, rfl⟩
  obtain ⟨q, hq⟩ : ∃ z, w.heap.size = z := ⟨_, rfl⟩
  have hb0 := alloc_below w (.cells #[.bool true, .int .i64 0, .slice none 0 0] 57)
  rw [hW0] at hb0
  rw [hW0, hq] at hst
  have HST := Lib.hid hst
  have HB0 := Lib.hid hb0
  have HW0 := Lib.hid hW0
  have HQ := Lib.hid hq
  clear hst hb0 hW0 hq
  go_enter Try.func3, Try.ntmps3
  go_upto_region 2 with (go_at_call 13; (with_reducible refine (snew_c _).mono ?_); rintro e2 w2 ⟨rfl, rfl⟩)
  rw [HW0.out, HQ.out]
  go_upto_region 4 with (first | (go_at_call 14; (with_reducible refine (HLI.out _ HB0.out).mono ?_); rintro e1 w1 ⟨b, rfl, hb, hb1⟩) | (go_at_call 15; (with_reducible refine (slives_c _).mono ?_); rintro e8 w8 ⟨rfl, hb8⟩))
  · go_ret
    exact ⟨rfl, (HB0.out.trans (hb1.mono HB0.out.size)).trans (hb8.mono (Nat.le_trans HB0.out.size hb1.size))⟩
  have hbt : b = true := by simp_all
  subst hbt
  simp only [Bool.not_true]
  obtain ⟨h1000, hlight⟩ := hb rfl
  have HLT := Lib.hid hlight
  have HPL0 := Lib.hid (HST.out.kept hb1)
  clear hlight hb hb1 HLI HST HB0
  go_wp2
  go_loopw [4, 30] (fun v j wr => ∃ (i : Nat) (R : List Rp) (a : Option Addr) (c : Nat), i ≤ n ∧ j = .int .i64 (i : Int) ∧ v = .slice a R.length c ∧ GoodR i R ∧ PlIn w wr 0 0 q v R R) (fun _ j _ => n - (intOf j).toNat)
  case atStart => exact ⟨0, [], none, 0, Nat.zero_le _, rfl, rfl, ⟨Nat.le_refl _, fun z hz => (nomatch hz)⟩, HPL0.out⟩
  case round =>
    clear HPL0
    obtain ⟨i, R, al, cl, hi, rfl, rfl, hgr, hpl⟩ := hrel
    have HPL := Lib.hid hpl
    have HGR := Lib.hid hgr
    have hRn : R.length ≤ 1000 := by have := hgr.1; omega
    clear hpl hgr
    by_cases hlt : i < n
    · have hii : (i : Int) < (n : Int) := by omega
      have hic : (i : Int) < (cap : Int) := by omega
      obtain ⟨b, off, xa, ca, rfl, eu, hcl, hat⟩ := HL.out.place hlt
      have hbb := HPL.out.bel
      obtain ⟨c0, c1, c2, c3, c4⟩ := hat _ hbb
      have hla := HLT.out (l.getD i Ac.zero) (by
        rw [List.getD_eq_getElem?_getD, List.getElem?_eq_getElem (by have := HLL.out; omega)]
        exact List.getElem_mem _)
      obtain ⟨A, hA⟩ : ∃ z, l.getD i Ac.zero = z := ⟨_, rfl⟩
      rw [hA] at c0 c1 c2 c3 c4 hla hcl eu
      obtain ⟨kd, ⟨rk, ru, cs⟩, au, an⟩ := A
      obtain ⟨hla1, hla2, hla3, hla4⟩ := hla
      replace hla2 : au.length ≤ 20000 := hla2
      replace hla3 : cs.length ≤ 2000 := hla3
      replace hla4 : ∀ c ∈ cs, c.t.length ≤ 20000 := hla4
      replace hcl : Cls w xa cs.length ca cs := hcl
      replace c0 : wr.cell? ⟨b, off + i * 5, none⟩ = some (.int .i64 kd) := c0
      replace c1 : wr.cell? ⟨b, off + i * 5 + 1, none⟩ = some (.string (text rk)) := c1
      replace c2 : wr.cell? ⟨b, off + i * 5 + 2, none⟩ = some (.slice xa cs.length ca) := c2
      replace c3 : wr.cell? ⟨b, off + i * 5 + 3, none⟩ = some (.string (text au)) := c3
      replace c4 : wr.cell? ⟨b, off + i * 5 + 4, none⟩ = some (.int .i64 an) := c4
      obtain ⟨RC, hRC⟩ : ∃ z, (if kd = 4 then [(⟨0, 0, 0, 0, false, au, 0, 0⟩ : Cl)] else cs) = z := ⟨_, rfl⟩
      have hrl : RC.length ≤ 2000 ∧ ∀ c ∈ RC, c.t.length ≤ 20000 := by
        rw [← hRC]
        split
        · refine ⟨by show 1 ≤ 2000; omega, fun c hc => ?_⟩
          rw [List.mem_singleton] at hc
          subst hc
          exact hla2
        · exact ⟨hla3, hla4⟩
      have hz := heap_alloc_new wr (.cells #[.int .i64 kd, .string (text rk), .slice xa cs.length ca, .string (text au), .int .i64 an] 32)
      have hal := alloc_below wr (.cells #[.int .i64 kd, .string (text rk), .slice xa cs.length ca, .string (text au), .int .i64 an] 32)
      have hsz1 := World.size_alloc wr (.cells #[.int .i64 kd, .string (text rk), .slice xa cs.length ca, .string (text au), .int .i64 an] 32)
      have HRW := Lib.hid (show Calls Try.prog 16 #[.agg #[.int .i64 kd, .string (text rk), .slice xa cs.length ca, .string (text au), .int .i64 an]] (wr.alloc (.cells #[.int .i64 kd, .string (text rk), .slice xa cs.length ca, .string (text au), .int .i64 an] 32)) _ from sarow_c (un := au) (hcl.below (hbb.trans (hal.mono hbb.size))) (by omega))
      rw [hRC] at HRW
      have hkey : (text rk).toList.isEmpty = rk.isEmpty := by rw [text_toList]
      have HAL := Lib.hid hal
      have HRL := Lib.hid hrl
      have HZ := Lib.hid hz
      have HS1 := Lib.hid hsz1
      clear hA eu hat hcl hbb hal hrl hRC hla1 hla2 hla3 hla4 hz hsz1
      go_upto_region 8 with (fail)
      obtain ⟨W1, hW1⟩ : ∃ X, wr.alloc (.cells #[.int .i64 kd, .string (text rk), .slice xa cs.length ca, .string (text au), .int .i64 an] 32) = X := ⟨_, rfl⟩
      obtain ⟨z, hzz⟩ : ∃ X, wr.heap.size = X := ⟨_, rfl⟩
      rw [hW1] at HAL HZ HRW HS1
      rw [hzz] at HZ HS1
      simp only [hW1, hzz]
      have HZZ := Lib.hid hzz
      clear hW1 hzz c0 c1 c2 c3 c4
      obtain ⟨d0, d1, d2, d3, d4⟩ := actb_cells HZ.out
      have HIS := Lib.hid hkey
      by_cases hset : kd = 0 ∨ kd = 4
      · have HPG := Lib.hid (fun W (h : Below W1.heap.size W1 W) => HPL.out.gap (HAL.out.trans (h.mono HAL.out.size)))
        have hk3 : kd = 0 ∨ (¬ kd = 0 ∧ kd = 4) := by rcases hset with h | h <;> omega
        clear hset
        have HK1 := Lib.hid (show ¬ kd = 1 by omega)
        rcases hk3 with hk0 | ⟨hk0, hk4⟩
        · subst hk0
          go_upto_region 12 with (go_at_call 16; (with_reducible refine HRW.out.mono ?_); rintro e3 w3 ⟨v3, rfl, ho3, hb3⟩; obtain ⟨a3, c3, rfl, hcl3⟩ := ho3.cls)
          have hal3 := alloc_below w3 (.cells #[.string (text rk), .slice a3 RC.length c3] 30)
          have hz7 := heap_alloc_new w3 (.cells #[.string (text rk), .slice a3 RC.length c3] 30)
          have hs3 := World.size_alloc w3 (.cells #[.string (text rk), .slice a3 RC.length c3] 30)
          have ho4 := ho3.kept hal3
          have hb4 := hb3.trans (hal3.mono hb3.size)
          obtain ⟨W3, hW3⟩ : ∃ X, w3.alloc (.cells #[.string (text rk), .slice a3 RC.length c3] 30) = X := ⟨_, rfl⟩
          obtain ⟨y, hy⟩ : ∃ X, w3.heap.size = X := ⟨_, rfl⟩
          have hol := fun j hj => (ho3.lt j hj)
          rw [hW3] at hz7 hs3 ho4 hb4
          rw [hy] at hz7 hs3 hol
          simp only [hW3, hy]
          have hpa := HPG.out W3 hb4
          rw [HZZ.out] at hpa
          have HPA := Lib.hid hpa
          have HO4 := Lib.hid ho4
          have HZ7 := Lib.hid hz7
          have HZ3 := Lib.hid (heap_below HZ.out hb4)
          have HS3 := Lib.hid hs3
          have HOL := Lib.hid hol
          obtain ⟨r0, r1, -⟩ := row_cells hz7
          have HYG := Lib.hid (show z < y by have h1 := hb3.size; have h2 := HS1.out; omega)
          clear hal3 hz7 hs3 ho3 ho4 hb3 hb4 hW3 hy hol hpa d0 d1 d2 d3 d4 HPG hcl3
          obtain ⟨a4, c4, e4, hcl4⟩ := HO4.out.cls
          injection e4 with e5 e6 e7
          subst e5 e7
          have HSE := Lib.hid (HPA.out.set hRn hcl4 (by have := HRL.out.1; omega) rk)
          clear hcl4 e6
          by_cases he : rk = []
          · have hse := HSE.out
            rw [if_pos he, show rowR R (rk, RC) = R from by unfold rowR; rw [if_pos he]] at hse
            have HSE2 := Lib.hid hse
            have hkt : (text rk).toList.isEmpty = true := by rw [hkey, he]; rfl
            clear hkey hse HSE he
            go_upto_region 13 with (go_at_call 17; (with_reducible refine HSE2.out.mono ?_); rintro e4 w4 ⟨rfl, hp4, hs4, hz4⟩)
            have HP4 := Lib.hid hp4
            have HK4 := Lib.hid hs4
            have HW4 := Lib.hid hz4
            have hz7b := (hs4 y (by have := HYG.out; omega) (by have := HS3.out; omega)).trans HZ7.out
            clear r0 r1 hp4 hs4 hz4
            obtain ⟨r0, r1, -⟩ := row_cells hz7b
            clear hz7b
            have HOV := Lib.hid (HO4.out.of_block fun k hk => HK4.out k (by have := (HOL.out k hk).1; have := HS1.out; omega) (by have := (HOL.out k hk).2; have := HS3.out; omega))
            have HPV := HP4
            have HZV := Lib.hid ((HK4.out z (Nat.le_refl _) (by have := HYG.out; have := HS3.out; omega)).trans HZ3.out)
            have hg5 := heap_alloc_new w4 (.cells #[.string (text rk), .slice a3 RC.length c3] 30)
            have hal5 := alloc_below w4 (.cells #[.string (text rk), .slice a3 RC.length c3] 30)
            have hoV := HOV.out.kept hal5
            have HSP := Lib.hid (spoil1_c hg5 hoV (fun e => by have := (HOV.out.lt _ e).2; omega) HRL.out.2)
            have HPV5 := Lib.hid (HPV.out.kept hal5)
            have HZV5 := Lib.hid (heap_below HZV.out hal5)
            clear hg5 hal5 hoV
            go_upto_region 23 with (go_at_call 19; (with_reducible refine HSP.out.mono ?_); rintro e7 WN ⟨rfl, ht7⟩)
            have HPN := Lib.hid (HPV5.out.spoil ht7 (fun k hk => ⟨by have := (HOL.out k hk).1; have := HS1.out; omega, by have := (HOL.out k hk).2; have := HS3.out; omega⟩) (by have := HPL.out.bel.size; have := HZZ.out; omega))
            have HZN := Lib.hid ((ht7.block z (Array.getElem?_eq_some_iff.1 HZV5.out).1 (fun e => by have := (HOL.out z e).1; have := HS1.out; omega)).trans HZV5.out)
            have HGN := Lib.hid HGR.out.next
            have hrn : R.length ≤ 1000 := by have := HGN.out.1; omega
            obtain ⟨d0, d1, d2, d3, d4⟩ := actb_cells HZN.out
            have HGT := Lib.hid (HPN.out.get hrn rk)
            go_upto_region 24 with (go_at_call 22; (with_reducible refine HGT.out.mono ?_); intro e5 w5 hp5; obtain ⟨a5, c5, rfl, ho5, hb5⟩ := hp5.uni)
            have hbx := hb5.trans ((alloc_below w5 (.cells #[.string (text (gk (look R rk) rk)), .slice a5 (gc (look R rk)).length c5] 30)).mono hb5.size)
            have hbz := heap_alloc_new w5 (.cells #[.string (text (gk (look R rk) rk)), .slice a5 (gc (look R rk)).length c5] 30)
            have hob := ho5.kept (alloc_below w5 (.cells #[.string (text (gk (look R rk) rk)), .slice a5 (gc (look R rk)).length c5] 30))
            have hsb := World.size_alloc w5 (.cells #[.string (text (gk (look R rk) rk)), .slice a5 (gc (look R rk)).length c5] 30)
            obtain ⟨W5, hW5⟩ : ∃ X, w5.alloc (.cells #[.string (text (gk (look R rk) rk)), .slice a5 (gc (look R rk)).length c5] 30) = X := ⟨_, rfl⟩
            obtain ⟨y5, hy5⟩ : ∃ X, w5.heap.size = X := ⟨_, rfl⟩
            rw [hW5] at hbx hbz hob hsb
            rw [hy5] at hbz hsb
            have HLT5 := Lib.hid (fun k hk => (ho5.lt k hk))
            rw [hy5] at HLT5
            simp only [hW5, hy5]
            have HB5 := Lib.hid hbx
            have HZ5 := Lib.hid hbz
            have HO5 := Lib.hid hob
            have HS5 := Lib.hid hsb
            clear hW5 hy5 hbz hob hsb hb5 ho5 hp5 d0 d1 d2 d3 d4 HGT
            obtain ⟨d0, d1, d2, d3, d4⟩ := actb_cells (heap_below HZN.out hbx)
            have HRG := Lib.hid ((HPN.out.kept hbx).rget HGN.out rk)
            clear hbx
            go_upto_region 25 with (go_at_call 23; (with_reducible refine HRG.out.mono ?_); intro e6 w6 hp6; obtain ⟨a6, c6, rfl, ho6, hb6⟩ := hp6.uni)
            have hbx := hb6.trans ((alloc_below w6 (.cells #[.string (text (gk (look R rk) rk)), .slice a6 (gc (look R rk)).length c6] 30)).mono hb6.size)
            have hbz := heap_alloc_new w6 (.cells #[.string (text (gk (look R rk) rk)), .slice a6 (gc (look R rk)).length c6] 30)
            have hob := ho6.kept (alloc_below w6 (.cells #[.string (text (gk (look R rk) rk)), .slice a6 (gc (look R rk)).length c6] 30))
            obtain ⟨W6, hW6⟩ : ∃ X, w6.alloc (.cells #[.string (text (gk (look R rk) rk)), .slice a6 (gc (look R rk)).length c6] 30) = X := ⟨_, rfl⟩
            obtain ⟨y6, hy6⟩ : ∃ X, w6.heap.size = X := ⟨_, rfl⟩
            rw [hW6] at hbx hbz hob
            rw [hy6] at hbz
            simp only [hW6, hy6]
            have HB56 := Lib.hid hbx
            have HB6 := Lib.hid (HB5.out.trans (hbx.mono HB5.out.size))
            have HZ6 := Lib.hid hbz
            have HO6 := Lib.hid hob
            clear hW6 hy6 hbz hob hb6 ho6 hp6 d0 d1 d2 d3 d4 HRG hbx
            obtain ⟨d0, d1, d2, d3, d4⟩ := actb_cells (heap_below HZN.out HB6.out)
            have HSN := Lib.hid ((HPN.out.kept HB6.out).scan hrn rk au an)
            go_upto_region 26 with (go_at_call 24; (with_reducible refine HSN.out.mono ?_); rintro e7 w7 ⟨v7, L7, rfl, ho7, hl7, hb7⟩; obtain ⟨a7, c7, rfl, hr7⟩ := ho7.all)
            obtain ⟨m7, hm7⟩ : ∃ z, L7.length = z := ⟨_, rfl⟩
            rw [hm7] at hr7 ho7 ⊢
            have hle7 := hr7.1.le
            have hmax7 := hr7.1.max
            have HM7 := Lib.hid hm7
            have HO7 := Lib.hid ho7
            have HR7 := Lib.hid hr7
            have HL7 := Lib.hid hl7
            have HB67 := Lib.hid hb7
            have HB7 := Lib.hid (HB6.out.trans (hb7.mono HB6.out.size))
            have HB57 := Lib.hid (HB56.out.trans (hb7.mono HB56.out.size))
            have hzr := heap_below HZ5.out HB57.out
            have hzs := heap_below HZ6.out hb7
            have HZR := Lib.hid hzr
            have HOR := Lib.hid (HO5.out.kept HB57.out)
            have HOS := Lib.hid (HO6.out.kept hb7)
            obtain ⟨ar, cr, er, hclr⟩ := HOR.out.cls
            injection er with er1 er2 er3
            subst er1 er3
            obtain ⟨asx, cs9, es, hcls⟩ := HOS.out.cls
            injection es with es1 es2 es3
            subst es1 es3
            have HSM := Lib.hid (rrowsame2_c hclr hcls (gk (look R rk) rk) (gk (look R rk) rk))
            have HLE := Lib.hid (gc_few HGN.out rk)
            obtain ⟨LC, hLC⟩ : ∃ z, gc (look R rk) = z := ⟨_, rfl⟩
            obtain ⟨LB, hLB⟩ : ∃ z, (look R rk).isSome = z := ⟨_, rfl⟩
            obtain ⟨LK, hLK⟩ : ∃ z, gk (look R rk) rk = z := ⟨_, rfl⟩
            rw [hLC] at HOR HLE hclr hcls HLT5
            rw [hLC, hLK] at HSM hzr hzs HZR
            simp only [hLC, hLB, hLK]
            rw [show ((LK == LK) && decide (LC = LC)) = true by simp] at HSM
            clear hLC hLB hLK HSN hl7 hm7 ho7 hr7 hb7 HZ5 HZ6 HO5 HO6 HOS d0 d1 d2 d3 d4 er2 es2 hclr hcls
            obtain ⟨r0, r1, -⟩ := row_cells hzr
            obtain ⟨s0, s1, -⟩ := row_cells hzs
            clear hzr hzs
            have hbb : (LB != LB) = false := by cases LB <;> rfl
            go_upto_region 28 with (first
              | (go_at_call 25; (with_reducible refine HSM.out.mono ?_); rintro e8 w8 ⟨rfl, hb8⟩; obtain ⟨d0, d1, d2, d3, d4⟩ := actb_cells (heap_below HZN.out (HB7.out.trans (hb8.mono HB7.out.size))); have HB78 := Lib.hid hb8; have HB8 := Lib.hid (HB7.out.trans (hb8.mono HB7.out.size)); clear hb8)
              | (go_at_call 27; (with_reducible refine ((HPN.out.kept HB8.out).rscan HGN.out (by omega) HPN.out.asc rk au an).mono ?_); rintro e9 w9 ⟨a9, c9, NN9, rfl, hr9, hn9, hb9⟩; have HR9 := Lib.hid hr9; have HN9 := Lib.hid hn9; have HB79 := Lib.hid (HB78.out.trans (hb9.mono HB78.out.size)); have HB9 := Lib.hid (HB8.out.trans (hb9.mono HB8.out.size)); clear hr9 hn9 hb9)
              | (go_at_call 26; (with_reducible refine (rall2_c (HR7.out.below HB79.out) HR9.out).mono ?_); rintro e10 w10 ⟨rfl, hb10⟩; rw [show decide (L7.map Rw.pr = NN9.map Rw.pr) = true from decide_eq_true (HL7.out.trans HN9.out.symm)]; have HB7A := Lib.hid (HB79.out.trans (hb10.mono HB79.out.size)); have HBA := Lib.hid (HB9.out.trans (hb10.mono HB9.out.size)); clear hb10)
              | (go_at_call 28; (with_reducible refine ((HPN.out.kept HBA.out).len).mono ?_); rintro e11 w11 ⟨rfl, rfl⟩))
            clear r0 r1 s0 s1 hbb d0 d1 d2 d3 d4
            have hzr := heap_below HZR.out HB7A.out
            obtain ⟨r0, r1, -⟩ := row_cells hzr
            have hg := heap_alloc_new w11 (.cells #[.string (text LK), .slice a5 LC.length c5] 30)
            have hal := alloc_below w11 (.cells #[.string (text LK), .slice a5 LC.length c5] 30)
            have HOR2 := Lib.hid ((HOR.out.kept HB7A.out).kept hal)
            have HSP := Lib.hid (spoil1_c hg HOR2.out (fun e => by have := ((HOR.out.kept HB7A.out).lt _ e).2; omega) HLE.out)
            have HBB := Lib.hid (HBA.out.trans (hal.mono HBA.out.size))
            have HOX := Lib.hid ((HO7.out.kept HB7A.out).kept hal)
            clear hzr hg hal
            go_upto_region 29 with (go_at_call 19; (with_reducible refine HSP.out.mono ?_); rintro e12 w12 ⟨rfl, ht12⟩)
            have HO12 := Lib.hid (HOX.out.turn ht12 (fun k hk => by have := (HLT5.out k hk).2; have := HS5.out; have := HB56.out.size; omega))
            have HTB := Lib.hid (HBB.out.trans (ht12.below HBB.out.size (fun k hk => (HLT5.out k hk).1)))
            have HSX := Lib.hid (spoilx_c HO12.out HM7.out (scan_few HGN.out HL7.out))
            clear ht12 r0 r1 HSP HOX HBB
            go_wp2_with (go_at_call 19; (with_reducible refine HSX.out.mono ?_); rintro e13 w13 ⟨rfl, ht13⟩; have HTE := Lib.hid (HTB.out.trans (ht13.below HTB.out.size (fun k hk => Nat.le_trans HB6.out.size hk))); clear ht13)
            go_roundw
            case rel => exact ⟨i + 1, R, al, cl, by omega, by go_num, rfl, HGN.out, HPN.out.kept HTE.out⟩
            case measure => simp [intOf]; omega
          · have hse := HSE.out
            rw [if_neg he] at hse
            have HSE2 := Lib.hid hse
            have hkt : (text rk).toList.isEmpty = false := by rw [hkey]; cases rk with | nil => exact absurd rfl he | cons _ _ => rfl
            clear hkey hse HSE
            go_upto_region 13 with (go_at_call 17; (with_reducible refine HSE2.out.mono ?_); rintro e4 w4 ⟨rfl, hp4, hs4, hz4⟩)
            have HP4 := Lib.hid hp4
            have HK4 := Lib.hid hs4
            have HW4 := Lib.hid hz4
            have hz7b := (hs4 y (by have := HYG.out; omega) (by have := HS3.out; omega)).trans HZ7.out
            clear r0 r1 hp4 hs4 hz4
            obtain ⟨r0, r1, -⟩ := row_cells hz7b
            clear hz7b
            have hob4 : OwnC w4 W1.heap.size (.slice a3 RC.length c3) RC := HO4.out.of_block fun k hk => HK4.out k (by have := (HOL.out k hk).1; have := HS1.out; omega) (by have := (HOL.out k hk).2; have := HS3.out; omega)
            obtain ⟨a5, c5, e5, hcl5⟩ := hob4.cls
            injection e5 with e6 e7 e8
            subst e6 e8
            have hrR : rowR R (rk, RC) = setR Op.bytesLess Prod.fst ([], []) (rk, RC) R := by unfold rowR; rw [if_neg he]
            have hrs := HP4.out.rset hRn hcl5 (by have := HRL.out.1; omega) rk
            rw [← hrR] at hrs
            have HRS := Lib.hid hrs
            have HOB4 := Lib.hid hob4
            have HZ4 := Lib.hid ((HK4.out z (Nat.le_refl _) (by have := HYG.out; have := HS3.out; omega)).trans HZ3.out)
            have HY4 := Lib.hid ((HK4.out y (by have := HYG.out; omega) (by have := HS3.out; omega)).trans HZ7.out)
            obtain ⟨RN, hRN⟩ : ∃ X, rowR R (rk, RC) = X := ⟨_, rfl⟩
            have hgn := HGR.out.row (r := (rk, RC)) HPL.out.asc HRL.out.1 HRL.out.2
            rw [hRN] at hgn HRS
            have HGN := Lib.hid hgn
            clear hob4 e7 hcl5 hrR hrs hRN hgn
            go_upto_region 17 with (go_at_call 18; (with_reducible refine HRS.out.mono ?_); rintro e5 w5 ⟨v5, rfl, hp5, hb5⟩)
            obtain ⟨aN, cN, NN5, rfl, -, -⟩ := hp5.shape
            have HPV := Lib.hid hp5
            have HOV := Lib.hid (HOB4.out.kept hb5)
            have HZV := Lib.hid (heap_below HZ4.out hb5)
            have hz7c := heap_below HY4.out hb5
            clear r0 r1 hp5 hb5
            obtain ⟨r0, r1, -⟩ := row_cells hz7c
            clear hz7c
            have hg5 := heap_alloc_new w5 (.cells #[.string (text rk), .slice a3 RC.length c3] 30)
            have hal5 := alloc_below w5 (.cells #[.string (text rk), .slice a3 RC.length c3] 30)
            have hoV := HOV.out.kept hal5
            have HSP := Lib.hid (spoil1_c hg5 hoV (fun e => by have := (HOV.out.lt _ e).2; omega) HRL.out.2)
            have HPV5 := Lib.hid (HPV.out.kept hal5)
            have HZV5 := Lib.hid (heap_below HZV.out hal5)
            clear hg5 hal5 hoV
            go_upto_region 23 with (go_at_call 19; (with_reducible refine HSP.out.mono ?_); rintro e7 WN ⟨rfl, ht7⟩)
            have HPN := Lib.hid (HPV5.out.spoil ht7 (fun k hk => ⟨by have := (HOL.out k hk).1; have := HS1.out; omega, by have := (HOL.out k hk).2; have := HS3.out; omega⟩) (by have := HPL.out.bel.size; have := HZZ.out; omega))
            have HZN := Lib.hid ((ht7.block z (Array.getElem?_eq_some_iff.1 HZV5.out).1 (fun e => by have := (HOL.out z e).1; have := HS1.out; omega)).trans HZV5.out)
            have hrn : RN.length ≤ 1000 := by have := HGN.out.1; omega
            obtain ⟨d0, d1, d2, d3, d4⟩ := actb_cells HZN.out
            have HGT := Lib.hid (HPN.out.get hrn rk)
            go_upto_region 24 with (go_at_call 22; (with_reducible refine HGT.out.mono ?_); intro e5 w5 hp5; obtain ⟨a5, c5, rfl, ho5, hb5⟩ := hp5.uni)
            have hbx := hb5.trans ((alloc_below w5 (.cells #[.string (text (gk (look RN rk) rk)), .slice a5 (gc (look RN rk)).length c5] 30)).mono hb5.size)
            have hbz := heap_alloc_new w5 (.cells #[.string (text (gk (look RN rk) rk)), .slice a5 (gc (look RN rk)).length c5] 30)
            have hob := ho5.kept (alloc_below w5 (.cells #[.string (text (gk (look RN rk) rk)), .slice a5 (gc (look RN rk)).length c5] 30))
            have hsb := World.size_alloc w5 (.cells #[.string (text (gk (look RN rk) rk)), .slice a5 (gc (look RN rk)).length c5] 30)
            obtain ⟨W5, hW5⟩ : ∃ X, w5.alloc (.cells #[.string (text (gk (look RN rk) rk)), .slice a5 (gc (look RN rk)).length c5] 30) = X := ⟨_, rfl⟩
            obtain ⟨y5, hy5⟩ : ∃ X, w5.heap.size = X := ⟨_, rfl⟩
            rw [hW5] at hbx hbz hob hsb
            rw [hy5] at hbz hsb
            have HLT5 := Lib.hid (fun k hk => (ho5.lt k hk))
            rw [hy5] at HLT5
            simp only [hW5, hy5]
            have HB5 := Lib.hid hbx
            have HZ5 := Lib.hid hbz
            have HO5 := Lib.hid hob
            have HS5 := Lib.hid hsb
            clear hW5 hy5 hbz hob hsb hb5 ho5 hp5 d0 d1 d2 d3 d4 HGT
            obtain ⟨d0, d1, d2, d3, d4⟩ := actb_cells (heap_below HZN.out hbx)
            have HRG := Lib.hid ((HPN.out.kept hbx).rget HGN.out rk)
            clear hbx
            go_upto_region 25 with (go_at_call 23; (with_reducible refine HRG.out.mono ?_); intro e6 w6 hp6; obtain ⟨a6, c6, rfl, ho6, hb6⟩ := hp6.uni)
            have hbx := hb6.trans ((alloc_below w6 (.cells #[.string (text (gk (look RN rk) rk)), .slice a6 (gc (look RN rk)).length c6] 30)).mono hb6.size)
            have hbz := heap_alloc_new w6 (.cells #[.string (text (gk (look RN rk) rk)), .slice a6 (gc (look RN rk)).length c6] 30)
            have hob := ho6.kept (alloc_below w6 (.cells #[.string (text (gk (look RN rk) rk)), .slice a6 (gc (look RN rk)).length c6] 30))
            obtain ⟨W6, hW6⟩ : ∃ X, w6.alloc (.cells #[.string (text (gk (look RN rk) rk)), .slice a6 (gc (look RN rk)).length c6] 30) = X := ⟨_, rfl⟩
            obtain ⟨y6, hy6⟩ : ∃ X, w6.heap.size = X := ⟨_, rfl⟩
            rw [hW6] at hbx hbz hob
            rw [hy6] at hbz
            simp only [hW6, hy6]
            have HB56 := Lib.hid hbx
            have HB6 := Lib.hid (HB5.out.trans (hbx.mono HB5.out.size))
            have HZ6 := Lib.hid hbz
            have HO6 := Lib.hid hob
            clear hW6 hy6 hbz hob hb6 ho6 hp6 d0 d1 d2 d3 d4 HRG hbx
            obtain ⟨d0, d1, d2, d3, d4⟩ := actb_cells (heap_below HZN.out HB6.out)
            have HSN := Lib.hid ((HPN.out.kept HB6.out).scan hrn rk au an)
            go_upto_region 26 with (go_at_call 24; (with_reducible refine HSN.out.mono ?_); rintro e7 w7 ⟨v7, L7, rfl, ho7, hl7, hb7⟩; obtain ⟨a7, c7, rfl, hr7⟩ := ho7.all)
            obtain ⟨m7, hm7⟩ : ∃ z, L7.length = z := ⟨_, rfl⟩
            rw [hm7] at hr7 ho7 ⊢
            have hle7 := hr7.1.le
            have hmax7 := hr7.1.max
            have HM7 := Lib.hid hm7
            have HO7 := Lib.hid ho7
            have HR7 := Lib.hid hr7
            have HL7 := Lib.hid hl7
            have HB67 := Lib.hid hb7
            have HB7 := Lib.hid (HB6.out.trans (hb7.mono HB6.out.size))
            have HB57 := Lib.hid (HB56.out.trans (hb7.mono HB56.out.size))
            have hzr := heap_below HZ5.out HB57.out
            have hzs := heap_below HZ6.out hb7
            have HZR := Lib.hid hzr
            have HOR := Lib.hid (HO5.out.kept HB57.out)
            have HOS := Lib.hid (HO6.out.kept hb7)
            obtain ⟨ar, cr, er, hclr⟩ := HOR.out.cls
            injection er with er1 er2 er3
            subst er1 er3
            obtain ⟨asx, cs9, es, hcls⟩ := HOS.out.cls
            injection es with es1 es2 es3
            subst es1 es3
            have HSM := Lib.hid (rrowsame2_c hclr hcls (gk (look RN rk) rk) (gk (look RN rk) rk))
            have HLE := Lib.hid (gc_few HGN.out rk)
            obtain ⟨LC, hLC⟩ : ∃ z, gc (look RN rk) = z := ⟨_, rfl⟩
            obtain ⟨LB, hLB⟩ : ∃ z, (look RN rk).isSome = z := ⟨_, rfl⟩
            obtain ⟨LK, hLK⟩ : ∃ z, gk (look RN rk) rk = z := ⟨_, rfl⟩
            rw [hLC] at HOR HLE hclr hcls HLT5
            rw [hLC, hLK] at HSM hzr hzs HZR
            simp only [hLC, hLB, hLK]
            rw [show ((LK == LK) && decide (LC = LC)) = true by simp] at HSM
            clear hLC hLB hLK HSN hl7 hm7 ho7 hr7 hb7 HZ5 HZ6 HO5 HO6 HOS d0 d1 d2 d3 d4 er2 es2 hclr hcls
            obtain ⟨r0, r1, -⟩ := row_cells hzr
            obtain ⟨s0, s1, -⟩ := row_cells hzs
            clear hzr hzs
            have hbb : (LB != LB) = false := by cases LB <;> rfl
            go_upto_region 28 with (first
              | (go_at_call 25; (with_reducible refine HSM.out.mono ?_); rintro e8 w8 ⟨rfl, hb8⟩; obtain ⟨d0, d1, d2, d3, d4⟩ := actb_cells (heap_below HZN.out (HB7.out.trans (hb8.mono HB7.out.size))); have HB78 := Lib.hid hb8; have HB8 := Lib.hid (HB7.out.trans (hb8.mono HB7.out.size)); clear hb8)
              | (go_at_call 27; (with_reducible refine ((HPN.out.kept HB8.out).rscan HGN.out (by omega) HPN.out.asc rk au an).mono ?_); rintro e9 w9 ⟨a9, c9, NN9, rfl, hr9, hn9, hb9⟩; have HR9 := Lib.hid hr9; have HN9 := Lib.hid hn9; have HB79 := Lib.hid (HB78.out.trans (hb9.mono HB78.out.size)); have HB9 := Lib.hid (HB8.out.trans (hb9.mono HB8.out.size)); clear hr9 hn9 hb9)
              | (go_at_call 26; (with_reducible refine (rall2_c (HR7.out.below HB79.out) HR9.out).mono ?_); rintro e10 w10 ⟨rfl, hb10⟩; rw [show decide (L7.map Rw.pr = NN9.map Rw.pr) = true from decide_eq_true (HL7.out.trans HN9.out.symm)]; have HB7A := Lib.hid (HB79.out.trans (hb10.mono HB79.out.size)); have HBA := Lib.hid (HB9.out.trans (hb10.mono HB9.out.size)); clear hb10)
              | (go_at_call 28; (with_reducible refine ((HPN.out.kept HBA.out).len).mono ?_); rintro e11 w11 ⟨rfl, rfl⟩))
            clear r0 r1 s0 s1 hbb d0 d1 d2 d3 d4
            have hzr := heap_below HZR.out HB7A.out
            obtain ⟨r0, r1, -⟩ := row_cells hzr
            have hg := heap_alloc_new w11 (.cells #[.string (text LK), .slice a5 LC.length c5] 30)
            have hal := alloc_below w11 (.cells #[.string (text LK), .slice a5 LC.length c5] 30)
            have HOR2 := Lib.hid ((HOR.out.kept HB7A.out).kept hal)
            have HSP := Lib.hid (spoil1_c hg HOR2.out (fun e => by have := ((HOR.out.kept HB7A.out).lt _ e).2; omega) HLE.out)
            have HBB := Lib.hid (HBA.out.trans (hal.mono HBA.out.size))
            have HOX := Lib.hid ((HO7.out.kept HB7A.out).kept hal)
            clear hzr hg hal
            go_upto_region 29 with (go_at_call 19; (with_reducible refine HSP.out.mono ?_); rintro e12 w12 ⟨rfl, ht12⟩)
            have HO12 := Lib.hid (HOX.out.turn ht12 (fun k hk => by have := (HLT5.out k hk).2; have := HS5.out; have := HB56.out.size; omega))
            have HTB := Lib.hid (HBB.out.trans (ht12.below HBB.out.size (fun k hk => (HLT5.out k hk).1)))
            have HSX := Lib.hid (spoilx_c HO12.out HM7.out (scan_few HGN.out HL7.out))
            clear ht12 r0 r1 HSP HOX HBB
            go_wp2_with (go_at_call 19; (with_reducible refine HSX.out.mono ?_); rintro e13 w13 ⟨rfl, ht13⟩; have HTE := Lib.hid (HTB.out.trans (ht13.below HTB.out.size (fun k hk => Nat.le_trans HB6.out.size hk))); clear ht13)
            go_roundw
            case rel => exact ⟨i + 1, RN, aN, cN, by omega, by go_num, rfl, HGN.out, HPN.out.kept HTE.out⟩
            case measure => simp [intOf]; omega
        · subst hk4
          go_upto_region 12 with (go_at_call 16; (with_reducible refine HRW.out.mono ?_); rintro e3 w3 ⟨v3, rfl, ho3, hb3⟩; obtain ⟨a3, c3, rfl, hcl3⟩ := ho3.cls)
          have hal3 := alloc_below w3 (.cells #[.string (text rk), .slice a3 RC.length c3] 30)
          have hz7 := heap_alloc_new w3 (.cells #[.string (text rk), .slice a3 RC.length c3] 30)
          have hs3 := World.size_alloc w3 (.cells #[.string (text rk), .slice a3 RC.length c3] 30)
          have ho4 := ho3.kept hal3
          have hb4 := hb3.trans (hal3.mono hb3.size)
          obtain ⟨W3, hW3⟩ : ∃ X, w3.alloc (.cells #[.string (text rk), .slice a3 RC.length c3] 30) = X := ⟨_, rfl⟩
          obtain ⟨y, hy⟩ : ∃ X, w3.heap.size = X := ⟨_, rfl⟩
          have hol := fun j hj => (ho3.lt j hj)
          rw [hW3] at hz7 hs3 ho4 hb4
          rw [hy] at hz7 hs3 hol
          simp only [hW3, hy]
          have hpa := HPG.out W3 hb4
          rw [HZZ.out] at hpa
          have HPA := Lib.hid hpa
          have HO4 := Lib.hid ho4
          have HZ7 := Lib.hid hz7
          have HZ3 := Lib.hid (heap_below HZ.out hb4)
          have HS3 := Lib.hid hs3
          have HOL := Lib.hid hol
          obtain ⟨r0, r1, -⟩ := row_cells hz7
          have HYG := Lib.hid (show z < y by have h1 := hb3.size; have h2 := HS1.out; omega)
          clear hal3 hz7 hs3 ho3 ho4 hb3 hb4 hW3 hy hol hpa d0 d1 d2 d3 d4 HPG hcl3
          obtain ⟨a4, c4, e4, hcl4⟩ := HO4.out.cls
          injection e4 with e5 e6 e7
          subst e5 e7
          have HSE := Lib.hid (HPA.out.set hRn hcl4 (by have := HRL.out.1; omega) rk)
          clear hcl4 e6
          by_cases he : rk = []
          · have hse := HSE.out
            rw [if_pos he, show rowR R (rk, RC) = R from by unfold rowR; rw [if_pos he]] at hse
            have HSE2 := Lib.hid hse
            have hkt : (text rk).toList.isEmpty = true := by rw [hkey, he]; rfl
            clear hkey hse HSE he
            go_upto_region 13 with (go_at_call 17; (with_reducible refine HSE2.out.mono ?_); rintro e4 w4 ⟨rfl, hp4, hs4, hz4⟩)
            have HP4 := Lib.hid hp4
            have HK4 := Lib.hid hs4
            have HW4 := Lib.hid hz4
            have hz7b := (hs4 y (by have := HYG.out; omega) (by have := HS3.out; omega)).trans HZ7.out
            clear r0 r1 hp4 hs4 hz4
            obtain ⟨r0, r1, -⟩ := row_cells hz7b
            clear hz7b
            have HOV := Lib.hid (HO4.out.of_block fun k hk => HK4.out k (by have := (HOL.out k hk).1; have := HS1.out; omega) (by have := (HOL.out k hk).2; have := HS3.out; omega))
            have HPV := HP4
            have HZV := Lib.hid ((HK4.out z (Nat.le_refl _) (by have := HYG.out; have := HS3.out; omega)).trans HZ3.out)
            have hg5 := heap_alloc_new w4 (.cells #[.string (text rk), .slice a3 RC.length c3] 30)
            have hal5 := alloc_below w4 (.cells #[.string (text rk), .slice a3 RC.length c3] 30)
            have hoV := HOV.out.kept hal5
            have HSP := Lib.hid (spoil1_c hg5 hoV (fun e => by have := (HOV.out.lt _ e).2; omega) HRL.out.2)
            have HPV5 := Lib.hid (HPV.out.kept hal5)
            have HZV5 := Lib.hid (heap_below HZV.out hal5)
            clear hg5 hal5 hoV
            go_upto_region 23 with (go_at_call 19; (with_reducible refine HSP.out.mono ?_); rintro e7 WN ⟨rfl, ht7⟩)
            have HPN := Lib.hid (HPV5.out.spoil ht7 (fun k hk => ⟨by have := (HOL.out k hk).1; have := HS1.out; omega, by have := (HOL.out k hk).2; have := HS3.out; omega⟩) (by have := HPL.out.bel.size; have := HZZ.out; omega))
            have HZN := Lib.hid ((ht7.block z (Array.getElem?_eq_some_iff.1 HZV5.out).1 (fun e => by have := (HOL.out z e).1; have := HS1.out; omega)).trans HZV5.out)
            have HGN := Lib.hid HGR.out.next
            have hrn : R.length ≤ 1000 := by have := HGN.out.1; omega
            obtain ⟨d0, d1, d2, d3, d4⟩ := actb_cells HZN.out
            have HGT := Lib.hid (HPN.out.get hrn rk)
            go_upto_region 24 with (go_at_call 22; (with_reducible refine HGT.out.mono ?_); intro e5 w5 hp5; obtain ⟨a5, c5, rfl, ho5, hb5⟩ := hp5.uni)
            have hbx := hb5.trans ((alloc_below w5 (.cells #[.string (text (gk (look R rk) rk)), .slice a5 (gc (look R rk)).length c5] 30)).mono hb5.size)
            have hbz := heap_alloc_new w5 (.cells #[.string (text (gk (look R rk) rk)), .slice a5 (gc (look R rk)).length c5] 30)
            have hob := ho5.kept (alloc_below w5 (.cells #[.string (text (gk (look R rk) rk)), .slice a5 (gc (look R rk)).length c5] 30))
            have hsb := World.size_alloc w5 (.cells #[.string (text (gk (look R rk) rk)), .slice a5 (gc (look R rk)).length c5] 30)
            obtain ⟨W5, hW5⟩ : ∃ X, w5.alloc (.cells #[.string (text (gk (look R rk) rk)), .slice a5 (gc (look R rk)).length c5] 30) = X := ⟨_, rfl⟩
            obtain ⟨y5, hy5⟩ : ∃ X, w5.heap.size = X := ⟨_, rfl⟩
            rw [hW5] at hbx hbz hob hsb
            rw [hy5] at hbz hsb
            have HLT5 := Lib.hid (fun k hk => (ho5.lt k hk))
            rw [hy5] at HLT5
            simp only [hW5, hy5]
            have HB5 := Lib.hid hbx
            have HZ5 := Lib.hid hbz
            have HO5 := Lib.hid hob
            have HS5 := Lib.hid hsb
            clear hW5 hy5 hbz hob hsb hb5 ho5 hp5 d0 d1 d2 d3 d4 HGT
            obtain ⟨d0, d1, d2, d3, d4⟩ := actb_cells (heap_below HZN.out hbx)
            have HRG := Lib.hid ((HPN.out.kept hbx).rget HGN.out rk)
            clear hbx
            go_upto_region 25 with (go_at_call 23; (with_reducible refine HRG.out.mono ?_); intro e6 w6 hp6; obtain ⟨a6, c6, rfl, ho6, hb6⟩ := hp6.uni)
            have hbx := hb6.trans ((alloc_below w6 (.cells #[.string (text (gk (look R rk) rk)), .slice a6 (gc (look R rk)).length c6] 30)).mono hb6.size)
            have hbz := heap_alloc_new w6 (.cells #[.string (text (gk (look R rk) rk)), .slice a6 (gc (look R rk)).length c6] 30)
            have hob := ho6.kept (alloc_below w6 (.cells #[.string (text (gk (look R rk) rk)), .slice a6 (gc (look R rk)).length c6] 30))
            obtain ⟨W6, hW6⟩ : ∃ X, w6.alloc (.cells #[.string (text (gk (look R rk) rk)), .slice a6 (gc (look R rk)).length c6] 30) = X := ⟨_, rfl⟩
            obtain ⟨y6, hy6⟩ : ∃ X, w6.heap.size = X := ⟨_, rfl⟩
            rw [hW6] at hbx hbz hob
            rw [hy6] at hbz
            simp only [hW6, hy6]
            have HB56 := Lib.hid hbx
            have HB6 := Lib.hid (HB5.out.trans (hbx.mono HB5.out.size))
            have HZ6 := Lib.hid hbz
            have HO6 := Lib.hid hob
            clear hW6 hy6 hbz hob hb6 ho6 hp6 d0 d1 d2 d3 d4 HRG hbx
            obtain ⟨d0, d1, d2, d3, d4⟩ := actb_cells (heap_below HZN.out HB6.out)
            have HSN := Lib.hid ((HPN.out.kept HB6.out).scan hrn rk au an)
            go_upto_region 26 with (go_at_call 24; (with_reducible refine HSN.out.mono ?_); rintro e7 w7 ⟨v7, L7, rfl, ho7, hl7, hb7⟩; obtain ⟨a7, c7, rfl, hr7⟩ := ho7.all)
            obtain ⟨m7, hm7⟩ : ∃ z, L7.length = z := ⟨_, rfl⟩
            rw [hm7] at hr7 ho7 ⊢
            have hle7 := hr7.1.le
            have hmax7 := hr7.1.max
            have HM7 := Lib.hid hm7
            have HO7 := Lib.hid ho7
            have HR7 := Lib.hid hr7
            have HL7 := Lib.hid hl7
            have HB67 := Lib.hid hb7
            have HB7 := Lib.hid (HB6.out.trans (hb7.mono HB6.out.size))
            have HB57 := Lib.hid (HB56.out.trans (hb7.mono HB56.out.size))
            have hzr := heap_below HZ5.out HB57.out
            have hzs := heap_below HZ6.out hb7
            have HZR := Lib.hid hzr
            have HOR := Lib.hid (HO5.out.kept HB57.out)
            have HOS := Lib.hid (HO6.out.kept hb7)
            obtain ⟨ar, cr, er, hclr⟩ := HOR.out.cls
            injection er with er1 er2 er3
            subst er1 er3
            obtain ⟨asx, cs9, es, hcls⟩ := HOS.out.cls
            injection es with es1 es2 es3
            subst es1 es3
            have HSM := Lib.hid (rrowsame2_c hclr hcls (gk (look R rk) rk) (gk (look R rk) rk))
            have HLE := Lib.hid (gc_few HGN.out rk)
            obtain ⟨LC, hLC⟩ : ∃ z, gc (look R rk) = z := ⟨_, rfl⟩
            obtain ⟨LB, hLB⟩ : ∃ z, (look R rk).isSome = z := ⟨_, rfl⟩
            obtain ⟨LK, hLK⟩ : ∃ z, gk (look R rk) rk = z := ⟨_, rfl⟩
            rw [hLC] at HOR HLE hclr hcls HLT5
            rw [hLC, hLK] at HSM hzr hzs HZR
            simp only [hLC, hLB, hLK]
            rw [show ((LK == LK) && decide (LC = LC)) = true by simp] at HSM
            clear hLC hLB hLK HSN hl7 hm7 ho7 hr7 hb7 HZ5 HZ6 HO5 HO6 HOS d0 d1 d2 d3 d4 er2 es2 hclr hcls
            obtain ⟨r0, r1, -⟩ := row_cells hzr
            obtain ⟨s0, s1, -⟩ := row_cells hzs
            clear hzr hzs
            have hbb : (LB != LB) = false := by cases LB <;> rfl
            go_upto_region 28 with (first
              | (go_at_call 25; (with_reducible refine HSM.out.mono ?_); rintro e8 w8 ⟨rfl, hb8⟩; obtain ⟨d0, d1, d2, d3, d4⟩ := actb_cells (heap_below HZN.out (HB7.out.trans (hb8.mono HB7.out.size))); have HB78 := Lib.hid hb8; have HB8 := Lib.hid (HB7.out.trans (hb8.mono HB7.out.size)); clear hb8)
              | (go_at_call 27; (with_reducible refine ((HPN.out.kept HB8.out).rscan HGN.out (by omega) HPN.out.asc rk au an).mono ?_); rintro e9 w9 ⟨a9, c9, NN9, rfl, hr9, hn9, hb9⟩; have HR9 := Lib.hid hr9; have HN9 := Lib.hid hn9; have HB79 := Lib.hid (HB78.out.trans (hb9.mono HB78.out.size)); have HB9 := Lib.hid (HB8.out.trans (hb9.mono HB8.out.size)); clear hr9 hn9 hb9)
              | (go_at_call 26; (with_reducible refine (rall2_c (HR7.out.below HB79.out) HR9.out).mono ?_); rintro e10 w10 ⟨rfl, hb10⟩; rw [show decide (L7.map Rw.pr = NN9.map Rw.pr) = true from decide_eq_true (HL7.out.trans HN9.out.symm)]; have HB7A := Lib.hid (HB79.out.trans (hb10.mono HB79.out.size)); have HBA := Lib.hid (HB9.out.trans (hb10.mono HB9.out.size)); clear hb10)
              | (go_at_call 28; (with_reducible refine ((HPN.out.kept HBA.out).len).mono ?_); rintro e11 w11 ⟨rfl, rfl⟩))
            clear r0 r1 s0 s1 hbb d0 d1 d2 d3 d4
            have hzr := heap_below HZR.out HB7A.out
            obtain ⟨r0, r1, -⟩ := row_cells hzr
            have hg := heap_alloc_new w11 (.cells #[.string (text LK), .slice a5 LC.length c5] 30)
            have hal := alloc_below w11 (.cells #[.string (text LK), .slice a5 LC.length c5] 30)
            have HOR2 := Lib.hid ((HOR.out.kept HB7A.out).kept hal)
            have HSP := Lib.hid (spoil1_c hg HOR2.out (fun e => by have := ((HOR.out.kept HB7A.out).lt _ e).2; omega) HLE.out)
            have HBB := Lib.hid (HBA.out.trans (hal.mono HBA.out.size))
            have HOX := Lib.hid ((HO7.out.kept HB7A.out).kept hal)
            clear hzr hg hal
            go_upto_region 29 with (go_at_call 19; (with_reducible refine HSP.out.mono ?_); rintro e12 w12 ⟨rfl, ht12⟩)
            have HO12 := Lib.hid (HOX.out.turn ht12 (fun k hk => by have := (HLT5.out k hk).2; have := HS5.out; have := HB56.out.size; omega))
            have HTB := Lib.hid (HBB.out.trans (ht12.below HBB.out.size (fun k hk => (HLT5.out k hk).1)))
            have HSX := Lib.hid (spoilx_c HO12.out HM7.out (scan_few HGN.out HL7.out))
            clear ht12 r0 r1 HSP HOX HBB
            go_wp2_with (go_at_call 19; (with_reducible refine HSX.out.mono ?_); rintro e13 w13 ⟨rfl, ht13⟩; have HTE := Lib.hid (HTB.out.trans (ht13.below HTB.out.size (fun k hk => Nat.le_trans HB6.out.size hk))); clear ht13)
            go_roundw
            case rel => exact ⟨i + 1, R, al, cl, by omega, by go_num, rfl, HGN.out, HPN.out.kept HTE.out⟩
            case measure => simp [intOf]; omega
          · have hse := HSE.out
            rw [if_neg he] at hse
            have HSE2 := Lib.hid hse
            have hkt : (text rk).toList.isEmpty = false := by rw [hkey]; cases rk with | nil => exact absurd rfl he | cons _ _ => rfl
            clear hkey hse HSE
            go_upto_region 13 with (go_at_call 17; (with_reducible refine HSE2.out.mono ?_); rintro e4 w4 ⟨rfl, hp4, hs4, hz4⟩)
            have HP4 := Lib.hid hp4
            have HK4 := Lib.hid hs4
            have HW4 := Lib.hid hz4
            have hz7b := (hs4 y (by have := HYG.out; omega) (by have := HS3.out; omega)).trans HZ7.out
            clear r0 r1 hp4 hs4 hz4
            obtain ⟨r0, r1, -⟩ := row_cells hz7b
            clear hz7b
            have hob4 : OwnC w4 W1.heap.size (.slice a3 RC.length c3) RC := HO4.out.of_block fun k hk => HK4.out k (by have := (HOL.out k hk).1; have := HS1.out; omega) (by have := (HOL.out k hk).2; have := HS3.out; omega)
            obtain ⟨a5, c5, e5, hcl5⟩ := hob4.cls
            injection e5 with e6 e7 e8
            subst e6 e8
            have hrR : rowR R (rk, RC) = setR Op.bytesLess Prod.fst ([], []) (rk, RC) R := by unfold rowR; rw [if_neg he]
            have hrs := HP4.out.rset hRn hcl5 (by have := HRL.out.1; omega) rk
            rw [← hrR] at hrs
            have HRS := Lib.hid hrs
            have HOB4 := Lib.hid hob4
            have HZ4 := Lib.hid ((HK4.out z (Nat.le_refl _) (by have := HYG.out; have := HS3.out; omega)).trans HZ3.out)
            have HY4 := Lib.hid ((HK4.out y (by have := HYG.out; omega) (by have := HS3.out; omega)).trans HZ7.out)
            obtain ⟨RN, hRN⟩ : ∃ X, rowR R (rk, RC) = X := ⟨_, rfl⟩
            have hgn := HGR.out.row (r := (rk, RC)) HPL.out.asc HRL.out.1 HRL.out.2
            rw [hRN] at hgn HRS
            have HGN := Lib.hid hgn
            clear hob4 e7 hcl5 hrR hrs hRN hgn
            go_upto_region 17 with (go_at_call 18; (with_reducible refine HRS.out.mono ?_); rintro e5 w5 ⟨v5, rfl, hp5, hb5⟩)
            obtain ⟨aN, cN, NN5, rfl, -, -⟩ := hp5.shape
            have HPV := Lib.hid hp5
            have HOV := Lib.hid (HOB4.out.kept hb5)
            have HZV := Lib.hid (heap_below HZ4.out hb5)
            have hz7c := heap_below HY4.out hb5
            clear r0 r1 hp5 hb5
            obtain ⟨r0, r1, -⟩ := row_cells hz7c
            clear hz7c
            have hg5 := heap_alloc_new w5 (.cells #[.string (text rk), .slice a3 RC.length c3] 30)
            have hal5 := alloc_below w5 (.cells #[.string (text rk), .slice a3 RC.length c3] 30)
            have hoV := HOV.out.kept hal5
            have HSP := Lib.hid (spoil1_c hg5 hoV (fun e => by have := (HOV.out.lt _ e).2; omega) HRL.out.2)
            have HPV5 := Lib.hid (HPV.out.kept hal5)
            have HZV5 := Lib.hid (heap_below HZV.out hal5)
            clear hg5 hal5 hoV
            go_upto_region 23 with (go_at_call 19; (with_reducible refine HSP.out.mono ?_); rintro e7 WN ⟨rfl, ht7⟩)
            have HPN := Lib.hid (HPV5.out.spoil ht7 (fun k hk => ⟨by have := (HOL.out k hk).1; have := HS1.out; omega, by have := (HOL.out k hk).2; have := HS3.out; omega⟩) (by have := HPL.out.bel.size; have := HZZ.out; omega))
            have HZN := Lib.hid ((ht7.block z (Array.getElem?_eq_some_iff.1 HZV5.out).1 (fun e => by have := (HOL.out z e).1; have := HS1.out; omega)).trans HZV5.out)
            have hrn : RN.length ≤ 1000 := by have := HGN.out.1; omega
            obtain ⟨d0, d1, d2, d3, d4⟩ := actb_cells HZN.out
            have HGT := Lib.hid (HPN.out.get hrn rk)
            go_upto_region 24 with (go_at_call 22; (with_reducible refine HGT.out.mono ?_); intro e5 w5 hp5; obtain ⟨a5, c5, rfl, ho5, hb5⟩ := hp5.uni)
            have hbx := hb5.trans ((alloc_below w5 (.cells #[.string (text (gk (look RN rk) rk)), .slice a5 (gc (look RN rk)).length c5] 30)).mono hb5.size)
            have hbz := heap_alloc_new w5 (.cells #[.string (text (gk (look RN rk) rk)), .slice a5 (gc (look RN rk)).length c5] 30)
            have hob := ho5.kept (alloc_below w5 (.cells #[.string (text (gk (look RN rk) rk)), .slice a5 (gc (look RN rk)).length c5] 30))
            have hsb := World.size_alloc w5 (.cells #[.string (text (gk (look RN rk) rk)), .slice a5 (gc (look RN rk)).length c5] 30)
            obtain ⟨W5, hW5⟩ : ∃ X, w5.alloc (.cells #[.string (text (gk (look RN rk) rk)), .slice a5 (gc (look RN rk)).length c5] 30) = X := ⟨_, rfl⟩
            obtain ⟨y5, hy5⟩ : ∃ X, w5.heap.size = X := ⟨_, rfl⟩
            rw [hW5] at hbx hbz hob hsb
            rw [hy5] at hbz hsb
            have HLT5 := Lib.hid (fun k hk => (ho5.lt k hk))
            rw [hy5] at HLT5
            simp only [hW5, hy5]
            have HB5 := Lib.hid hbx
            have HZ5 := Lib.hid hbz
            have HO5 := Lib.hid hob
            have HS5 := Lib.hid hsb
            clear hW5 hy5 hbz hob hsb hb5 ho5 hp5 d0 d1 d2 d3 d4 HGT
            obtain ⟨d0, d1, d2, d3, d4⟩ := actb_cells (heap_below HZN.out hbx)
            have HRG := Lib.hid ((HPN.out.kept hbx).rget HGN.out rk)
            clear hbx
            go_upto_region 25 with (go_at_call 23; (with_reducible refine HRG.out.mono ?_); intro e6 w6 hp6; obtain ⟨a6, c6, rfl, ho6, hb6⟩ := hp6.uni)
            have hbx := hb6.trans ((alloc_below w6 (.cells #[.string (text (gk (look RN rk) rk)), .slice a6 (gc (look RN rk)).length c6] 30)).mono hb6.size)
            have hbz := heap_alloc_new w6 (.cells #[.string (text (gk (look RN rk) rk)), .slice a6 (gc (look RN rk)).length c6] 30)
            have hob := ho6.kept (alloc_below w6 (.cells #[.string (text (gk (look RN rk) rk)), .slice a6 (gc (look RN rk)).length c6] 30))
            obtain ⟨W6, hW6⟩ : ∃ X, w6.alloc (.cells #[.string (text (gk (look RN rk) rk)), .slice a6 (gc (look RN rk)).length c6] 30) = X := ⟨_, rfl⟩
            obtain ⟨y6, hy6⟩ : ∃ X, w6.heap.size = X := ⟨_, rfl⟩
            rw [hW6] at hbx hbz hob
            rw [hy6] at hbz
            simp only [hW6, hy6]
            have HB56 := Lib.hid hbx
            have HB6 := Lib.hid (HB5.out.trans (hbx.mono HB5.out.size))
            have HZ6 := Lib.hid hbz
            have HO6 := Lib.hid hob
            clear hW6 hy6 hbz hob hb6 ho6 hp6 d0 d1 d2 d3 d4 HRG hbx
            obtain ⟨d0, d1, d2, d3, d4⟩ := actb_cells (heap_below HZN.out HB6.out)
            have HSN := Lib.hid ((HPN.out.kept HB6.out).scan hrn rk au an)
            go_upto_region 26 with (go_at_call 24; (with_reducible refine HSN.out.mono ?_); rintro e7 w7 ⟨v7, L7, rfl, ho7, hl7, hb7⟩; obtain ⟨a7, c7, rfl, hr7⟩ := ho7.all)
            obtain ⟨m7, hm7⟩ : ∃ z, L7.length = z := ⟨_, rfl⟩
            rw [hm7] at hr7 ho7 ⊢
            have hle7 := hr7.1.le
            have hmax7 := hr7.1.max
            have HM7 := Lib.hid hm7
            have HO7 := Lib.hid ho7
            have HR7 := Lib.hid hr7
            have HL7 := Lib.hid hl7
            have HB67 := Lib.hid hb7
            have HB7 := Lib.hid (HB6.out.trans (hb7.mono HB6.out.size))
            have HB57 := Lib.hid (HB56.out.trans (hb7.mono HB56.out.size))
            have hzr := heap_below HZ5.out HB57.out
            have hzs := heap_below HZ6.out hb7
            have HZR := Lib.hid hzr
            have HOR := Lib.hid (HO5.out.kept HB57.out)
            have HOS := Lib.hid (HO6.out.kept hb7)
            obtain ⟨ar, cr, er, hclr⟩ := HOR.out.cls
            injection er with er1 er2 er3
            subst er1 er3
            obtain ⟨asx, cs9, es, hcls⟩ := HOS.out.cls
            injection es with es1 es2 es3
            subst es1 es3
            have HSM := Lib.hid (rrowsame2_c hclr hcls (gk (look RN rk) rk) (gk (look RN rk) rk))
            have HLE := Lib.hid (gc_few HGN.out rk)
            obtain ⟨LC, hLC⟩ : ∃ z, gc (look RN rk) = z := ⟨_, rfl⟩
            obtain ⟨LB, hLB⟩ : ∃ z, (look RN rk).isSome = z := ⟨_, rfl⟩
            obtain ⟨LK, hLK⟩ : ∃ z, gk (look RN rk) rk = z := ⟨_, rfl⟩
            rw [hLC] at HOR HLE hclr hcls HLT5
            rw [hLC, hLK] at HSM hzr hzs HZR
            simp only [hLC, hLB, hLK]
            rw [show ((LK == LK) && decide (LC = LC)) = true by simp] at HSM
            clear hLC hLB hLK HSN hl7 hm7 ho7 hr7 hb7 HZ5 HZ6 HO5 HO6 HOS d0 d1 d2 d3 d4 er2 es2 hclr hcls
            obtain ⟨r0, r1, -⟩ := row_cells hzr
            obtain ⟨s0, s1, -⟩ := row_cells hzs
            clear hzr hzs
            have hbb : (LB != LB) = false := by cases LB <;> rfl
            go_upto_region 28 with (first
              | (go_at_call 25; (with_reducible refine HSM.out.mono ?_); rintro e8 w8 ⟨rfl, hb8⟩; obtain ⟨d0, d1, d2, d3, d4⟩ := actb_cells (heap_below HZN.out (HB7.out.trans (hb8.mono HB7.out.size))); have HB78 := Lib.hid hb8; have HB8 := Lib.hid (HB7.out.trans (hb8.mono HB7.out.size)); clear hb8)
              | (go_at_call 27; (with_reducible refine ((HPN.out.kept HB8.out).rscan HGN.out (by omega) HPN.out.asc rk au an).mono ?_); rintro e9 w9 ⟨a9, c9, NN9, rfl, hr9, hn9, hb9⟩; have HR9 := Lib.hid hr9; have HN9 := Lib.hid hn9; have HB79 := Lib.hid (HB78.out.trans (hb9.mono HB78.out.size)); have HB9 := Lib.hid (HB8.out.trans (hb9.mono HB8.out.size)); clear hr9 hn9 hb9)
              | (go_at_call 26; (with_reducible refine (rall2_c (HR7.out.below HB79.out) HR9.out).mono ?_); rintro e10 w10 ⟨rfl, hb10⟩; rw [show decide (L7.map Rw.pr = NN9.map Rw.pr) = true from decide_eq_true (HL7.out.trans HN9.out.symm)]; have HB7A := Lib.hid (HB79.out.trans (hb10.mono HB79.out.size)); have HBA := Lib.hid (HB9.out.trans (hb10.mono HB9.out.size)); clear hb10)
              | (go_at_call 28; (with_reducible refine ((HPN.out.kept HBA.out).len).mono ?_); rintro e11 w11 ⟨rfl, rfl⟩))
            clear r0 r1 s0 s1 hbb d0 d1 d2 d3 d4
            have hzr := heap_below HZR.out HB7A.out
            obtain ⟨r0, r1, -⟩ := row_cells hzr
            have hg := heap_alloc_new w11 (.cells #[.string (text LK), .slice a5 LC.length c5] 30)
            have hal := alloc_below w11 (.cells #[.string (text LK), .slice a5 LC.length c5] 30)
            have HOR2 := Lib.hid ((HOR.out.kept HB7A.out).kept hal)
            have HSP := Lib.hid (spoil1_c hg HOR2.out (fun e => by have := ((HOR.out.kept HB7A.out).lt _ e).2; omega) HLE.out)
            have HBB := Lib.hid (HBA.out.trans (hal.mono HBA.out.size))
            have HOX := Lib.hid ((HO7.out.kept HB7A.out).kept hal)
            clear hzr hg hal
            go_upto_region 29 with (go_at_call 19; (with_reducible refine HSP.out.mono ?_); rintro e12 w12 ⟨rfl, ht12⟩)
            have HO12 := Lib.hid (HOX.out.turn ht12 (fun k hk => by have := (HLT5.out k hk).2; have := HS5.out; have := HB56.out.size; omega))
            have HTB := Lib.hid (HBB.out.trans (ht12.below HBB.out.size (fun k hk => (HLT5.out k hk).1)))
            have HSX := Lib.hid (spoilx_c HO12.out HM7.out (scan_few HGN.out HL7.out))
            clear ht12 r0 r1 HSP HOX HBB
            go_wp2_with (go_at_call 19; (with_reducible refine HSX.out.mono ?_); rintro e13 w13 ⟨rfl, ht13⟩; have HTE := Lib.hid (HTB.out.trans (ht13.below HTB.out.size (fun k hk => Nat.le_trans HB6.out.size hk))); clear ht13)
            go_roundw
            case rel => exact ⟨i + 1, RN, aN, cN, by omega, by go_num, rfl, HGN.out, HPN.out.kept HTE.out⟩
            case measure => simp [intOf]; omega
      · have hk0 : ¬ kd = 0 := fun h => hset (.inl h)
        have hk4 : ¬ kd = 4 := fun h => hset (.inr h)
        clear hset
        by_cases hk1 : kd = 1
        · subst hk1
          have hpa := HPL.out.gap HAL.out
          rw [HZZ.out] at hpa
          have hrd := hpa.rdrop hRn rk
          have hiff := look_filter (k := rk) HPL.out.asc
          obtain ⟨RN, hRN⟩ : ∃ X, R.filter (fun r => decide (r.1 ≠ rk)) = X := ⟨_, rfl⟩
          have hgn := HGR.out.drop (k := rk)
          rw [hRN] at hrd hiff hgn
          have HGN := Lib.hid hgn
          have HRD := Lib.hid hrd
          have HRN := Lib.hid hRN
          have HIFF := Lib.hid hiff
          clear hpa hrd hiff hgn hRN hkey
          go_upto_region 21 with (go_at_call 20; (with_reducible refine HRD.out.mono ?_); rintro e3 w3 ⟨v3, rfl, hp3, hb3⟩)
          obtain ⟨aN, cN, NN3, rfl, -, -⟩ := hp3.shape
          have hdr := hp3.drop hRn rk
          rw [HRN.out] at hdr
          have HDR := Lib.hid hdr
          have hz3 := heap_below HZ.out hb3
          have HZ3 := Lib.hid hz3
          have HB3 := Lib.hid hb3.size
          clear d0 d1 d2 d3 d4 hdr hp3 hb3
          obtain ⟨d0, d1, d2, d3, d4⟩ := actb_cells hz3
          clear hz3
          obtain ⟨BB, hBB⟩ : ∃ X, (look R rk).isSome = X := ⟨_, rfl⟩
          have hiff := HIFF.out
          rw [hBB] at hiff HDR
          clear hBB
          by_cases hlt9 : RN.length < R.length
          · obtain rfl : BB = true := hiff.1 hlt9
            have hl9 : (RN.length : Int) < (R.length : Int) := by omega
            clear hiff
            go_upto_region 23 with (go_at_call 21; (with_reducible refine HDR.out.mono ?_); rintro e4 WN ⟨rfl, hp4, hs4, hz4⟩)
            have HPN := Lib.hid hp4.wide
            have HZN := Lib.hid ((hs4 z (Nat.le_refl _) (by have := HS1.out; omega)).trans HZ3.out)
            clear d0 d1 d2 d3 d4 hp4 hs4 hz4 hl9
            have hrn : RN.length ≤ 1000 := by have := HGN.out.1; omega
            obtain ⟨d0, d1, d2, d3, d4⟩ := actb_cells HZN.out
            have HGT := Lib.hid (HPN.out.get hrn rk)
            go_upto_region 24 with (go_at_call 22; (with_reducible refine HGT.out.mono ?_); intro e5 w5 hp5; obtain ⟨a5, c5, rfl, ho5, hb5⟩ := hp5.uni)
            have hbx := hb5.trans ((alloc_below w5 (.cells #[.string (text (gk (look RN rk) rk)), .slice a5 (gc (look RN rk)).length c5] 30)).mono hb5.size)
            have hbz := heap_alloc_new w5 (.cells #[.string (text (gk (look RN rk) rk)), .slice a5 (gc (look RN rk)).length c5] 30)
            have hob := ho5.kept (alloc_below w5 (.cells #[.string (text (gk (look RN rk) rk)), .slice a5 (gc (look RN rk)).length c5] 30))
            have hsb := World.size_alloc w5 (.cells #[.string (text (gk (look RN rk) rk)), .slice a5 (gc (look RN rk)).length c5] 30)
            obtain ⟨W5, hW5⟩ : ∃ X, w5.alloc (.cells #[.string (text (gk (look RN rk) rk)), .slice a5 (gc (look RN rk)).length c5] 30) = X := ⟨_, rfl⟩
            obtain ⟨y5, hy5⟩ : ∃ X, w5.heap.size = X := ⟨_, rfl⟩
            rw [hW5] at hbx hbz hob hsb
            rw [hy5] at hbz hsb
            have HLT5 := Lib.hid (fun k hk => (ho5.lt k hk))
            rw [hy5] at HLT5
            simp only [hW5, hy5]
            have HB5 := Lib.hid hbx
            have HZ5 := Lib.hid hbz
            have HO5 := Lib.hid hob
            have HS5 := Lib.hid hsb
            clear hW5 hy5 hbz hob hsb hb5 ho5 hp5 d0 d1 d2 d3 d4 HGT
            obtain ⟨d0, d1, d2, d3, d4⟩ := actb_cells (heap_below HZN.out hbx)
            have HRG := Lib.hid ((HPN.out.kept hbx).rget HGN.out rk)
            clear hbx
            go_upto_region 25 with (go_at_call 23; (with_reducible refine HRG.out.mono ?_); intro e6 w6 hp6; obtain ⟨a6, c6, rfl, ho6, hb6⟩ := hp6.uni)
            have hbx := hb6.trans ((alloc_below w6 (.cells #[.string (text (gk (look RN rk) rk)), .slice a6 (gc (look RN rk)).length c6] 30)).mono hb6.size)
            have hbz := heap_alloc_new w6 (.cells #[.string (text (gk (look RN rk) rk)), .slice a6 (gc (look RN rk)).length c6] 30)
            have hob := ho6.kept (alloc_below w6 (.cells #[.string (text (gk (look RN rk) rk)), .slice a6 (gc (look RN rk)).length c6] 30))
            obtain ⟨W6, hW6⟩ : ∃ X, w6.alloc (.cells #[.string (text (gk (look RN rk) rk)), .slice a6 (gc (look RN rk)).length c6] 30) = X := ⟨_, rfl⟩
            obtain ⟨y6, hy6⟩ : ∃ X, w6.heap.size = X := ⟨_, rfl⟩
            rw [hW6] at hbx hbz hob
            rw [hy6] at hbz
            simp only [hW6, hy6]
            have HB56 := Lib.hid hbx
            have HB6 := Lib.hid (HB5.out.trans (hbx.mono HB5.out.size))
            have HZ6 := Lib.hid hbz
            have HO6 := Lib.hid hob
            clear hW6 hy6 hbz hob hb6 ho6 hp6 d0 d1 d2 d3 d4 HRG hbx
            obtain ⟨d0, d1, d2, d3, d4⟩ := actb_cells (heap_below HZN.out HB6.out)
            have HSN := Lib.hid ((HPN.out.kept HB6.out).scan hrn rk au an)
            go_upto_region 26 with (go_at_call 24; (with_reducible refine HSN.out.mono ?_); rintro e7 w7 ⟨v7, L7, rfl, ho7, hl7, hb7⟩; obtain ⟨a7, c7, rfl, hr7⟩ := ho7.all)
            obtain ⟨m7, hm7⟩ : ∃ z, L7.length = z := ⟨_, rfl⟩
            rw [hm7] at hr7 ho7 ⊢
            have hle7 := hr7.1.le
            have hmax7 := hr7.1.max
            have HM7 := Lib.hid hm7
            have HO7 := Lib.hid ho7
            have HR7 := Lib.hid hr7
            have HL7 := Lib.hid hl7
            have HB67 := Lib.hid hb7
            have HB7 := Lib.hid (HB6.out.trans (hb7.mono HB6.out.size))
            have HB57 := Lib.hid (HB56.out.trans (hb7.mono HB56.out.size))
            have hzr := heap_below HZ5.out HB57.out
            have hzs := heap_below HZ6.out hb7
            have HZR := Lib.hid hzr
            have HOR := Lib.hid (HO5.out.kept HB57.out)
            have HOS := Lib.hid (HO6.out.kept hb7)
            obtain ⟨ar, cr, er, hclr⟩ := HOR.out.cls
            injection er with er1 er2 er3
            subst er1 er3
            obtain ⟨asx, cs9, es, hcls⟩ := HOS.out.cls
            injection es with es1 es2 es3
            subst es1 es3
            have HSM := Lib.hid (rrowsame2_c hclr hcls (gk (look RN rk) rk) (gk (look RN rk) rk))
            have HLE := Lib.hid (gc_few HGN.out rk)
            obtain ⟨LC, hLC⟩ : ∃ z, gc (look RN rk) = z := ⟨_, rfl⟩
            obtain ⟨LB, hLB⟩ : ∃ z, (look RN rk).isSome = z := ⟨_, rfl⟩
            obtain ⟨LK, hLK⟩ : ∃ z, gk (look RN rk) rk = z := ⟨_, rfl⟩
            rw [hLC] at HOR HLE hclr hcls HLT5
            rw [hLC, hLK] at HSM hzr hzs HZR
            simp only [hLC, hLB, hLK]
            rw [show ((LK == LK) && decide (LC = LC)) = true by simp] at HSM
            clear hLC hLB hLK HSN hl7 hm7 ho7 hr7 hb7 HZ5 HZ6 HO5 HO6 HOS d0 d1 d2 d3 d4 er2 es2 hclr hcls
            obtain ⟨r0, r1, -⟩ := row_cells hzr
            obtain ⟨s0, s1, -⟩ := row_cells hzs
            clear hzr hzs
            have hbb : (LB != LB) = false := by cases LB <;> rfl
            go_upto_region 28 with (first
              | (go_at_call 25; (with_reducible refine HSM.out.mono ?_); rintro e8 w8 ⟨rfl, hb8⟩; obtain ⟨d0, d1, d2, d3, d4⟩ := actb_cells (heap_below HZN.out (HB7.out.trans (hb8.mono HB7.out.size))); have HB78 := Lib.hid hb8; have HB8 := Lib.hid (HB7.out.trans (hb8.mono HB7.out.size)); clear hb8)
              | (go_at_call 27; (with_reducible refine ((HPN.out.kept HB8.out).rscan HGN.out (by omega) HPN.out.asc rk au an).mono ?_); rintro e9 w9 ⟨a9, c9, NN9, rfl, hr9, hn9, hb9⟩; have HR9 := Lib.hid hr9; have HN9 := Lib.hid hn9; have HB79 := Lib.hid (HB78.out.trans (hb9.mono HB78.out.size)); have HB9 := Lib.hid (HB8.out.trans (hb9.mono HB8.out.size)); clear hr9 hn9 hb9)
              | (go_at_call 26; (with_reducible refine (rall2_c (HR7.out.below HB79.out) HR9.out).mono ?_); rintro e10 w10 ⟨rfl, hb10⟩; rw [show decide (L7.map Rw.pr = NN9.map Rw.pr) = true from decide_eq_true (HL7.out.trans HN9.out.symm)]; have HB7A := Lib.hid (HB79.out.trans (hb10.mono HB79.out.size)); have HBA := Lib.hid (HB9.out.trans (hb10.mono HB9.out.size)); clear hb10)
              | (go_at_call 28; (with_reducible refine ((HPN.out.kept HBA.out).len).mono ?_); rintro e11 w11 ⟨rfl, rfl⟩))
            clear r0 r1 s0 s1 hbb d0 d1 d2 d3 d4
            have hzr := heap_below HZR.out HB7A.out
            obtain ⟨r0, r1, -⟩ := row_cells hzr
            have hg := heap_alloc_new w11 (.cells #[.string (text LK), .slice a5 LC.length c5] 30)
            have hal := alloc_below w11 (.cells #[.string (text LK), .slice a5 LC.length c5] 30)
            have HOR2 := Lib.hid ((HOR.out.kept HB7A.out).kept hal)
            have HSP := Lib.hid (spoil1_c hg HOR2.out (fun e => by have := ((HOR.out.kept HB7A.out).lt _ e).2; omega) HLE.out)
            have HBB := Lib.hid (HBA.out.trans (hal.mono HBA.out.size))
            have HOX := Lib.hid ((HO7.out.kept HB7A.out).kept hal)
            clear hzr hg hal
            go_upto_region 29 with (go_at_call 19; (with_reducible refine HSP.out.mono ?_); rintro e12 w12 ⟨rfl, ht12⟩)
            have HO12 := Lib.hid (HOX.out.turn ht12 (fun k hk => by have := (HLT5.out k hk).2; have := HS5.out; have := HB56.out.size; omega))
            have HTB := Lib.hid (HBB.out.trans (ht12.below HBB.out.size (fun k hk => (HLT5.out k hk).1)))
            have HSX := Lib.hid (spoilx_c HO12.out HM7.out (scan_few HGN.out HL7.out))
            clear ht12 r0 r1 HSP HOX HBB
            go_wp2_with (go_at_call 19; (with_reducible refine HSX.out.mono ?_); rintro e13 w13 ⟨rfl, ht13⟩; have HTE := Lib.hid (HTB.out.trans (ht13.below HTB.out.size (fun k hk => Nat.le_trans HB6.out.size hk))); clear ht13)
            go_roundw
            case rel => exact ⟨i + 1, RN, aN, cN, by omega, by go_num, rfl, HGN.out, HPN.out.kept HTE.out⟩
            case measure => simp [intOf]; omega
          · obtain rfl : BB = false := by
              cases BB with
              | false => rfl
              | true => exact absurd (hiff.2 rfl) hlt9
            have hl9 : ¬ (RN.length : Int) < (R.length : Int) := by omega
            clear hiff
            go_upto_region 23 with (go_at_call 21; (with_reducible refine HDR.out.mono ?_); rintro e4 WN ⟨rfl, hp4, hs4, hz4⟩)
            have HPN := Lib.hid hp4.wide
            have HZN := Lib.hid ((hs4 z (Nat.le_refl _) (by have := HS1.out; omega)).trans HZ3.out)
            clear d0 d1 d2 d3 d4 hp4 hs4 hz4 hl9
            have hrn : RN.length ≤ 1000 := by have := HGN.out.1; omega
            obtain ⟨d0, d1, d2, d3, d4⟩ := actb_cells HZN.out
            have HGT := Lib.hid (HPN.out.get hrn rk)
            go_upto_region 24 with (go_at_call 22; (with_reducible refine HGT.out.mono ?_); intro e5 w5 hp5; obtain ⟨a5, c5, rfl, ho5, hb5⟩ := hp5.uni)
            have hbx := hb5.trans ((alloc_below w5 (.cells #[.string (text (gk (look RN rk) rk)), .slice a5 (gc (look RN rk)).length c5] 30)).mono hb5.size)
            have hbz := heap_alloc_new w5 (.cells #[.string (text (gk (look RN rk) rk)), .slice a5 (gc (look RN rk)).length c5] 30)
            have hob := ho5.kept (alloc_below w5 (.cells #[.string (text (gk (look RN rk) rk)), .slice a5 (gc (look RN rk)).length c5] 30))
            have hsb := World.size_alloc w5 (.cells #[.string (text (gk (look RN rk) rk)), .slice a5 (gc (look RN rk)).length c5] 30)
            obtain ⟨W5, hW5⟩ : ∃ X, w5.alloc (.cells #[.string (text (gk (look RN rk) rk)), .slice a5 (gc (look RN rk)).length c5] 30) = X := ⟨_, rfl⟩
            obtain ⟨y5, hy5⟩ : ∃ X, w5.heap.size = X := ⟨_, rfl⟩
            rw [hW5] at hbx hbz hob hsb
            rw [hy5] at hbz hsb
            have HLT5 := Lib.hid (fun k hk => (ho5.lt k hk))
            rw [hy5] at HLT5
            simp only [hW5, hy5]
            have HB5 := Lib.hid hbx
            have HZ5 := Lib.hid hbz
            have HO5 := Lib.hid hob
            have HS5 := Lib.hid hsb
            clear hW5 hy5 hbz hob hsb hb5 ho5 hp5 d0 d1 d2 d3 d4 HGT
            obtain ⟨d0, d1, d2, d3, d4⟩ := actb_cells (heap_below HZN.out hbx)
            have HRG := Lib.hid ((HPN.out.kept hbx).rget HGN.out rk)
            clear hbx
            go_upto_region 25 with (go_at_call 23; (with_reducible refine HRG.out.mono ?_); intro e6 w6 hp6; obtain ⟨a6, c6, rfl, ho6, hb6⟩ := hp6.uni)
            have hbx := hb6.trans ((alloc_below w6 (.cells #[.string (text (gk (look RN rk) rk)), .slice a6 (gc (look RN rk)).length c6] 30)).mono hb6.size)
            have hbz := heap_alloc_new w6 (.cells #[.string (text (gk (look RN rk) rk)), .slice a6 (gc (look RN rk)).length c6] 30)
            have hob := ho6.kept (alloc_below w6 (.cells #[.string (text (gk (look RN rk) rk)), .slice a6 (gc (look RN rk)).length c6] 30))
            obtain ⟨W6, hW6⟩ : ∃ X, w6.alloc (.cells #[.string (text (gk (look RN rk) rk)), .slice a6 (gc (look RN rk)).length c6] 30) = X := ⟨_, rfl⟩
            obtain ⟨y6, hy6⟩ : ∃ X, w6.heap.size = X := ⟨_, rfl⟩
            rw [hW6] at hbx hbz hob
            rw [hy6] at hbz
            simp only [hW6, hy6]
            have HB56 := Lib.hid hbx
            have HB6 := Lib.hid (HB5.out.trans (hbx.mono HB5.out.size))
            have HZ6 := Lib.hid hbz
            have HO6 := Lib.hid hob
            clear hW6 hy6 hbz hob hb6 ho6 hp6 d0 d1 d2 d3 d4 HRG hbx
            obtain ⟨d0, d1, d2, d3, d4⟩ := actb_cells (heap_below HZN.out HB6.out)
            have HSN := Lib.hid ((HPN.out.kept HB6.out).scan hrn rk au an)
            go_upto_region 26 with (go_at_call 24; (with_reducible refine HSN.out.mono ?_); rintro e7 w7 ⟨v7, L7, rfl, ho7, hl7, hb7⟩; obtain ⟨a7, c7, rfl, hr7⟩ := ho7.all)
            obtain ⟨m7, hm7⟩ : ∃ z, L7.length = z := ⟨_, rfl⟩
            rw [hm7] at hr7 ho7 ⊢
            have hle7 := hr7.1.le
            have hmax7 := hr7.1.max
            have HM7 := Lib.hid hm7
            have HO7 := Lib.hid ho7
            have HR7 := Lib.hid hr7
            have HL7 := Lib.hid hl7
            have HB67 := Lib.hid hb7
            have HB7 := Lib.hid (HB6.out.trans (hb7.mono HB6.out.size))
            have HB57 := Lib.hid (HB56.out.trans (hb7.mono HB56.out.size))
            have hzr := heap_below HZ5.out HB57.out
            have hzs := heap_below HZ6.out hb7
            have HZR := Lib.hid hzr
            have HOR := Lib.hid (HO5.out.kept HB57.out)
            have HOS := Lib.hid (HO6.out.kept hb7)
            obtain ⟨ar, cr, er, hclr⟩ := HOR.out.cls
            injection er with er1 er2 er3
            subst er1 er3
            obtain ⟨asx, cs9, es, hcls⟩ := HOS.out.cls
            injection es with es1 es2 es3
            subst es1 es3
            have HSM := Lib.hid (rrowsame2_c hclr hcls (gk (look RN rk) rk) (gk (look RN rk) rk))
            have HLE := Lib.hid (gc_few HGN.out rk)
            obtain ⟨LC, hLC⟩ : ∃ z, gc (look RN rk) = z := ⟨_, rfl⟩
            obtain ⟨LB, hLB⟩ : ∃ z, (look RN rk).isSome = z := ⟨_, rfl⟩
            obtain ⟨LK, hLK⟩ : ∃ z, gk (look RN rk) rk = z := ⟨_, rfl⟩
            rw [hLC] at HOR HLE hclr hcls HLT5
            rw [hLC, hLK] at HSM hzr hzs HZR
            simp only [hLC, hLB, hLK]
            rw [show ((LK == LK) && decide (LC = LC)) = true by simp] at HSM
            clear hLC hLB hLK HSN hl7 hm7 ho7 hr7 hb7 HZ5 HZ6 HO5 HO6 HOS d0 d1 d2 d3 d4 er2 es2 hclr hcls
            obtain ⟨r0, r1, -⟩ := row_cells hzr
            obtain ⟨s0, s1, -⟩ := row_cells hzs
            clear hzr hzs
            have hbb : (LB != LB) = false := by cases LB <;> rfl
            go_upto_region 28 with (first
              | (go_at_call 25; (with_reducible refine HSM.out.mono ?_); rintro e8 w8 ⟨rfl, hb8⟩; obtain ⟨d0, d1, d2, d3, d4⟩ := actb_cells (heap_below HZN.out (HB7.out.trans (hb8.mono HB7.out.size))); have HB78 := Lib.hid hb8; have HB8 := Lib.hid (HB7.out.trans (hb8.mono HB7.out.size)); clear hb8)
              | (go_at_call 27; (with_reducible refine ((HPN.out.kept HB8.out).rscan HGN.out (by omega) HPN.out.asc rk au an).mono ?_); rintro e9 w9 ⟨a9, c9, NN9, rfl, hr9, hn9, hb9⟩; have HR9 := Lib.hid hr9; have HN9 := Lib.hid hn9; have HB79 := Lib.hid (HB78.out.trans (hb9.mono HB78.out.size)); have HB9 := Lib.hid (HB8.out.trans (hb9.mono HB8.out.size)); clear hr9 hn9 hb9)
              | (go_at_call 26; (with_reducible refine (rall2_c (HR7.out.below HB79.out) HR9.out).mono ?_); rintro e10 w10 ⟨rfl, hb10⟩; rw [show decide (L7.map Rw.pr = NN9.map Rw.pr) = true from decide_eq_true (HL7.out.trans HN9.out.symm)]; have HB7A := Lib.hid (HB79.out.trans (hb10.mono HB79.out.size)); have HBA := Lib.hid (HB9.out.trans (hb10.mono HB9.out.size)); clear hb10)
              | (go_at_call 28; (with_reducible refine ((HPN.out.kept HBA.out).len).mono ?_); rintro e11 w11 ⟨rfl, rfl⟩))
            clear r0 r1 s0 s1 hbb d0 d1 d2 d3 d4
            have hzr := heap_below HZR.out HB7A.out
            obtain ⟨r0, r1, -⟩ := row_cells hzr
            have hg := heap_alloc_new w11 (.cells #[.string (text LK), .slice a5 LC.length c5] 30)
            have hal := alloc_below w11 (.cells #[.string (text LK), .slice a5 LC.length c5] 30)
            have HOR2 := Lib.hid ((HOR.out.kept HB7A.out).kept hal)
            have HSP := Lib.hid (spoil1_c hg HOR2.out (fun e => by have := ((HOR.out.kept HB7A.out).lt _ e).2; omega) HLE.out)
            have HBB := Lib.hid (HBA.out.trans (hal.mono HBA.out.size))
            have HOX := Lib.hid ((HO7.out.kept HB7A.out).kept hal)
            clear hzr hg hal
            go_upto_region 29 with (go_at_call 19; (with_reducible refine HSP.out.mono ?_); rintro e12 w12 ⟨rfl, ht12⟩)
            have HO12 := Lib.hid (HOX.out.turn ht12 (fun k hk => by have := (HLT5.out k hk).2; have := HS5.out; have := HB56.out.size; omega))
            have HTB := Lib.hid (HBB.out.trans (ht12.below HBB.out.size (fun k hk => (HLT5.out k hk).1)))
            have HSX := Lib.hid (spoilx_c HO12.out HM7.out (scan_few HGN.out HL7.out))
            clear ht12 r0 r1 HSP HOX HBB
            go_wp2_with (go_at_call 19; (with_reducible refine HSX.out.mono ?_); rintro e13 w13 ⟨rfl, ht13⟩; have HTE := Lib.hid (HTB.out.trans (ht13.below HTB.out.size (fun k hk => Nat.le_trans HB6.out.size hk))); clear ht13)
            go_roundw
            case rel => exact ⟨i + 1, RN, aN, cN, by omega, by go_num, rfl, HGN.out, HPN.out.kept HTE.out⟩
            case measure => simp [intOf]; omega
        · have HGN := Lib.hid HGR.out.next
          clear hkey
          go_upto_region 23 with (fail)
          generalize W1 = WN at *
          have HPN := Lib.hid (HPL.out.kept (show Below wr.heap.size wr WN from HAL.out))
          have HZN := HZ
          clear d0 d1 d2 d3 d4
          have hrn : R.length ≤ 1000 := by have := HGN.out.1; omega
          obtain ⟨d0, d1, d2, d3, d4⟩ := actb_cells HZN.out
          have HGT := Lib.hid (HPN.out.get hrn rk)
          go_upto_region 24 with (go_at_call 22; (with_reducible refine HGT.out.mono ?_); intro e5 w5 hp5; obtain ⟨a5, c5, rfl, ho5, hb5⟩ := hp5.uni)
          have hbx := hb5.trans ((alloc_below w5 (.cells #[.string (text (gk (look R rk) rk)), .slice a5 (gc (look R rk)).length c5] 30)).mono hb5.size)
          have hbz := heap_alloc_new w5 (.cells #[.string (text (gk (look R rk) rk)), .slice a5 (gc (look R rk)).length c5] 30)
          have hob := ho5.kept (alloc_below w5 (.cells #[.string (text (gk (look R rk) rk)), .slice a5 (gc (look R rk)).length c5] 30))
          have hsb := World.size_alloc w5 (.cells #[.string (text (gk (look R rk) rk)), .slice a5 (gc (look R rk)).length c5] 30)
          obtain ⟨W5, hW5⟩ : ∃ X, w5.alloc (.cells #[.string (text (gk (look R rk) rk)), .slice a5 (gc (look R rk)).length c5] 30) = X := ⟨_, rfl⟩
          obtain ⟨y5, hy5⟩ : ∃ X, w5.heap.size = X := ⟨_, rfl⟩
          rw [hW5] at hbx hbz hob hsb
          rw [hy5] at hbz hsb
          have HLT5 := Lib.hid (fun k hk => (ho5.lt k hk))
          rw [hy5] at HLT5
          simp only [hW5, hy5]
          have HB5 := Lib.hid hbx
          have HZ5 := Lib.hid hbz
          have HO5 := Lib.hid hob
          have HS5 := Lib.hid hsb
          clear hW5 hy5 hbz hob hsb hb5 ho5 hp5 d0 d1 d2 d3 d4 HGT
          obtain ⟨d0, d1, d2, d3, d4⟩ := actb_cells (heap_below HZN.out hbx)
          have HRG := Lib.hid ((HPN.out.kept hbx).rget HGN.out rk)
          clear hbx
          go_upto_region 25 with (go_at_call 23; (with_reducible refine HRG.out.mono ?_); intro e6 w6 hp6; obtain ⟨a6, c6, rfl, ho6, hb6⟩ := hp6.uni)
          have hbx := hb6.trans ((alloc_below w6 (.cells #[.string (text (gk (look R rk) rk)), .slice a6 (gc (look R rk)).length c6] 30)).mono hb6.size)
          have hbz := heap_alloc_new w6 (.cells #[.string (text (gk (look R rk) rk)), .slice a6 (gc (look R rk)).length c6] 30)
          have hob := ho6.kept (alloc_below w6 (.cells #[.string (text (gk (look R rk) rk)), .slice a6 (gc (look R rk)).length c6] 30))
          obtain ⟨W6, hW6⟩ : ∃ X, w6.alloc (.cells #[.string (text (gk (look R rk) rk)), .slice a6 (gc (look R rk)).length c6] 30) = X := ⟨_, rfl⟩
          obtain ⟨y6, hy6⟩ : ∃ X, w6.heap.size = X := ⟨_, rfl⟩
          rw [hW6] at hbx hbz hob
          rw [hy6] at hbz
          simp only [hW6, hy6]
          have HB56 := Lib.hid hbx
          have HB6 := Lib.hid (HB5.out.trans (hbx.mono HB5.out.size))
          have HZ6 := Lib.hid hbz
          have HO6 := Lib.hid hob
          clear hW6 hy6 hbz hob hb6 ho6 hp6 d0 d1 d2 d3 d4 HRG hbx
          obtain ⟨d0, d1, d2, d3, d4⟩ := actb_cells (heap_below HZN.out HB6.out)
          have HSN := Lib.hid ((HPN.out.kept HB6.out).scan hrn rk au an)
          go_upto_region 26 with (go_at_call 24; (with_reducible refine HSN.out.mono ?_); rintro e7 w7 ⟨v7, L7, rfl, ho7, hl7, hb7⟩; obtain ⟨a7, c7, rfl, hr7⟩ := ho7.all)
          obtain ⟨m7, hm7⟩ : ∃ z, L7.length = z := ⟨_, rfl⟩
          rw [hm7] at hr7 ho7 ⊢
          have hle7 := hr7.1.le
          have hmax7 := hr7.1.max
          have HM7 := Lib.hid hm7
          have HO7 := Lib.hid ho7
          have HR7 := Lib.hid hr7
          have HL7 := Lib.hid hl7
          have HB67 := Lib.hid hb7
          have HB7 := Lib.hid (HB6.out.trans (hb7.mono HB6.out.size))
          have HB57 := Lib.hid (HB56.out.trans (hb7.mono HB56.out.size))
          have hzr := heap_below HZ5.out HB57.out
          have hzs := heap_below HZ6.out hb7
          have HZR := Lib.hid hzr
          have HOR := Lib.hid (HO5.out.kept HB57.out)
          have HOS := Lib.hid (HO6.out.kept hb7)
          obtain ⟨ar, cr, er, hclr⟩ := HOR.out.cls
          injection er with er1 er2 er3
          subst er1 er3
          obtain ⟨asx, cs9, es, hcls⟩ := HOS.out.cls
          injection es with es1 es2 es3
          subst es1 es3
          have HSM := Lib.hid (rrowsame2_c hclr hcls (gk (look R rk) rk) (gk (look R rk) rk))
          have HLE := Lib.hid (gc_few HGN.out rk)
          obtain ⟨LC, hLC⟩ : ∃ z, gc (look R rk) = z := ⟨_, rfl⟩
          obtain ⟨LB, hLB⟩ : ∃ z, (look R rk).isSome = z := ⟨_, rfl⟩
          obtain ⟨LK, hLK⟩ : ∃ z, gk (look R rk) rk = z := ⟨_, rfl⟩
          rw [hLC] at HOR HLE hclr hcls HLT5
          rw [hLC, hLK] at HSM hzr hzs HZR
          simp only [hLC, hLB, hLK]
          rw [show ((LK == LK) && decide (LC = LC)) = true by simp] at HSM
          clear hLC hLB hLK HSN hl7 hm7 ho7 hr7 hb7 HZ5 HZ6 HO5 HO6 HOS d0 d1 d2 d3 d4 er2 es2 hclr hcls
          obtain ⟨r0, r1, -⟩ := row_cells hzr
          obtain ⟨s0, s1, -⟩ := row_cells hzs
          clear hzr hzs
          have hbb : (LB != LB) = false := by cases LB <;> rfl
          go_upto_region 28 with (first
            | (go_at_call 25; (with_reducible refine HSM.out.mono ?_); rintro e8 w8 ⟨rfl, hb8⟩; obtain ⟨d0, d1, d2, d3, d4⟩ := actb_cells (heap_below HZN.out (HB7.out.trans (hb8.mono HB7.out.size))); have HB78 := Lib.hid hb8; have HB8 := Lib.hid (HB7.out.trans (hb8.mono HB7.out.size)); clear hb8)
            | (go_at_call 27; (with_reducible refine ((HPN.out.kept HB8.out).rscan HGN.out (by omega) HPN.out.asc rk au an).mono ?_); rintro e9 w9 ⟨a9, c9, NN9, rfl, hr9, hn9, hb9⟩; have HR9 := Lib.hid hr9; have HN9 := Lib.hid hn9; have HB79 := Lib.hid (HB78.out.trans (hb9.mono HB78.out.size)); have HB9 := Lib.hid (HB8.out.trans (hb9.mono HB8.out.size)); clear hr9 hn9 hb9)
            | (go_at_call 26; (with_reducible refine (rall2_c (HR7.out.below HB79.out) HR9.out).mono ?_); rintro e10 w10 ⟨rfl, hb10⟩; rw [show decide (L7.map Rw.pr = NN9.map Rw.pr) = true from decide_eq_true (HL7.out.trans HN9.out.symm)]; have HB7A := Lib.hid (HB79.out.trans (hb10.mono HB79.out.size)); have HBA := Lib.hid (HB9.out.trans (hb10.mono HB9.out.size)); clear hb10)
            | (go_at_call 28; (with_reducible refine ((HPN.out.kept HBA.out).len).mono ?_); rintro e11 w11 ⟨rfl, rfl⟩))
          clear r0 r1 s0 s1 hbb d0 d1 d2 d3 d4
          have hzr := heap_below HZR.out HB7A.out
          obtain ⟨r0, r1, -⟩ := row_cells hzr
          have hg := heap_alloc_new w11 (.cells #[.string (text LK), .slice a5 LC.length c5] 30)
          have hal := alloc_below w11 (.cells #[.string (text LK), .slice a5 LC.length c5] 30)
          have HOR2 := Lib.hid ((HOR.out.kept HB7A.out).kept hal)
          have HSP := Lib.hid (spoil1_c hg HOR2.out (fun e => by have := ((HOR.out.kept HB7A.out).lt _ e).2; omega) HLE.out)
          have HBB := Lib.hid (HBA.out.trans (hal.mono HBA.out.size))
          have HOX := Lib.hid ((HO7.out.kept HB7A.out).kept hal)
          clear hzr hg hal
          go_upto_region 29 with (go_at_call 19; (with_reducible refine HSP.out.mono ?_); rintro e12 w12 ⟨rfl, ht12⟩)
          have HO12 := Lib.hid (HOX.out.turn ht12 (fun k hk => by have := (HLT5.out k hk).2; have := HS5.out; have := HB56.out.size; omega))
          have HTB := Lib.hid (HBB.out.trans (ht12.below HBB.out.size (fun k hk => (HLT5.out k hk).1)))
          have HSX := Lib.hid (spoilx_c HO12.out HM7.out (scan_few HGN.out HL7.out))
          clear ht12 r0 r1 HSP HOX HBB
          go_wp2_with (go_at_call 19; (with_reducible refine HSX.out.mono ?_); rintro e13 w13 ⟨rfl, ht13⟩; have HTE := Lib.hid (HTB.out.trans (ht13.below HTB.out.size (fun k hk => Nat.le_trans HB6.out.size hk))); clear ht13)
          go_roundw
          case rel => exact ⟨i + 1, R, al, cl, by omega, by go_num, rfl, HGN.out, HPN.out.kept HTE.out⟩
          case measure => simp [intOf]; omega
    · obtain rfl : i = n := by omega
      have hsn := HPL.out.scan hRn [] [] ((R.length : Int) + 1)
      rw [scan_whole (by omega)] at hsn
      have hsn2 : Calls Try.prog 24 #[.pointer (some ⟨q, 0, none⟩), .string ⟨#[]⟩, .string ⟨#[]⟩, .int .i64 ((R.length : Int) + 1)] wr (fun e w' => ∃ v L, e = .returned v ∧ OwnRs w' wr.heap.size v L ∧ L.map Rw.pr = R ∧ Below wr.heap.size wr w') := hsn
      have HSN := Lib.hid hsn2
      obtain ⟨ax, cx, NNx, ex, hrx, hnx⟩ := HPL.out.shape
      injection ex with ex1 ex2 ex3
      subst ex1 ex3
      have HRX := Lib.hid hrx.all
      have HNX := Lib.hid hnx
      clear hsn hsn2 hrx hnx ex2
      go_wp2_with (first
        | (go_at_call 24; (with_reducible refine HSN.out.mono ?_); rintro e6 w6 ⟨v6, L6, rfl, ho6, hl6, hb6⟩; obtain ⟨a6, c6, rfl, hrw6⟩ := ho6.all; have HRW6 := Lib.hid hrw6; have HL6 := Lib.hid hl6; have HB6 := Lib.hid hb6; clear ho6 hl6 hb6 hrw6)
        | (go_at_call 26; (with_reducible refine (rall2_c HRW6.out (HRX.out.below HB6.out)).mono ?_); rintro e7 w7 ⟨rfl, hb7⟩; rw [show decide (L6.map Rw.pr = NNx.map Rw.pr) = true from decide_eq_true (HL6.out.trans HNX.out.symm)]; have HB7 := Lib.hid (HB6.out.trans (hb7.mono HB6.out.size)); clear hb7)
        | (go_at_call 15; (with_reducible refine (slives_c _).mono ?_); rintro e8 w8 ⟨rfl, hb8⟩; have HB8 := Lib.hid (HB7.out.trans (hb8.mono HB7.out.size)); clear hb8))
      go_ret
      exact ⟨rfl, HPL.out.bel.trans (HB8.out.mono HPL.out.bel.size)⟩
end Go.Proofs.Ytbpgfmcnpifmdaa
end

