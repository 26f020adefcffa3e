/-
  Disk: the program's laws: the walk of DiskRefused.
-/
import Derived.Test.YtpndpmgbnnpciaaDX
import Derived.Shelf.Abstract
namespace Go.Proofs.Ytpndpmgbnnpciaa
open Go.RowKit Go Go.Sort Go.Maps Go.WideMaps
set_option linter.unusedVariables false
set_option maxRecDepth 20000

/-- A disk of one's own, and texts beside it. -/
def LvN (w0 W : World) (q : Nat) (st : Ds) (v : Value) (L : List (List UInt8)) : Prop := ∃ F, Dk W q st F ∧ (∀ k, F k → w0.heap.size ≤ k) ∧ Below w0.heap.size w0 W ∧ Tx W v L ∧ (∀ b n c, v = .slice (some ⟨b, 0, none⟩) n c → b < W.heap.size ∧ ¬ F b)
def LvNP (w0 : World) (q : Nat) (st : Ds) (v : Value) (L : List (List UInt8)) (r : Value) (e : Ending) (W : World) : Prop := e = .returned r ∧ LvN w0 W q st v L
section
variable {w0 w w' : World} {q : Nat} {st st' : Ds} {v : Value} {L : List (List UInt8)}
theorem LvN.lv (h : LvN w0 w q st v L) : Lv w0 w q st := by obtain ⟨F, h1, h2, h3, -⟩ := h; exact ⟨F, h1, h2, h3⟩
theorem LvN.tx (h : LvN w0 w q st v L) : Tx w v L := by obtain ⟨F, h1, h2, h3, h4, -⟩ := h; exact h4
theorem LvN.keep (h : LvN w0 w q st v L) (hb : Below w.heap.size w w') : LvN w0 w' q st v L := by
  obtain ⟨F, hk, hlo, hb0, ht, hn⟩ := h
  exact ⟨F, hk.below hb, hlo, hb0.trans (hb.mono hb0.size), ht.below hb, fun b n c e => ⟨Nat.lt_of_lt_of_le (hn b n c e).1 hb.size, (hn b n c e).2⟩⟩
theorem LvN.post {r : Value} {e : Ending} {F : Nat → Prop} (hlo : ∀ k, F k → w0.heap.size ≤ k) (hb : Below w0.heap.size w0 w) (htx : Tx w v L) (hn : ∀ b n c, v = .slice (some ⟨b, 0, none⟩) n c → b < w.heap.size ∧ ¬ F b) (h : DPost q F r st' w e w') : LvNP w0 q st' v L r e w' := by
  obtain ⟨he, F', hk, ht, hf⟩ := h
  refine ⟨he, F', hk, fun k hk => (hf k hk).elim (hlo k) (fun h => Nat.le_trans hb.size h), hb.trans (ht.base hb.size hlo), ?_, fun b n c e => ?_⟩
  · obtain ⟨a, cap, rfl, h1, h2, h3⟩ := htx
    refine ⟨a, cap, rfl, h1, h2, h3.imp_right ?_⟩
    rintro ⟨b, rfl, hc⟩
    obtain ⟨hlt, hnf⟩ := hn b _ _ rfl
    exact ⟨b, rfl, fun i hi => by rw [World.cell?_of_block (ht.block b hlt hnf)]; exact hc i hi⟩
  · obtain ⟨hlt, hnf⟩ := hn b n c e
    exact ⟨Nat.lt_of_lt_of_le hlt ht.size, fun h => (hf b h).elim hnf (fun h => by omega)⟩
theorem lvn_names (h : Lv w0 w q st) {L : List (List UInt8)} (hL : st.F.map Fi.nm = L) : Calls Try.prog 31 #[.pointer (some ⟨q, 0, none⟩)] w (fun e w' => ∃ v, e = .returned v ∧ LvN w0 w' q st v L ∧ Below w.heap.size w w') := by
  subst hL
  obtain ⟨F, ⟨m, pv, FS, h1, rfl⟩, hlo, hb0⟩ := h
  refine (dnames_c h1).mono fun e w' ⟨v, he, ho, hb⟩ => ⟨v, he, ⟨_, ⟨m, pv, FS, h1.below hb, rfl⟩, hlo, hb0.trans (hb.mono hb0.size), ho.tx, fun b n c ev => ?_⟩, hb⟩
  obtain ⟨h8, h9⟩ := World.ownsRow.lt ho b (by rw [ev]; rfl)
  exact ⟨h9, fun hf => by have := h1.lt hf; omega⟩
theorem lvn_used (h : LvN w0 w q st v L) {U : Nat} (hU : usedF st.F = U) : Calls Try.prog 32 #[.pointer (some ⟨q, 0, none⟩)] w (fun e w' => e = .returned (.int .i64 (U : Int)) ∧ LvN w0 w' q st v L ∧ Below w.heap.size w w') := by
  subst hU
  have hN := h
  obtain ⟨F, ⟨m, pv, FS, h, rfl⟩, -⟩ := h
  exact (dused_c h).mono fun e w' hp => ⟨hp.1, hN.keep hp.2, hp.2⟩
theorem lvn_ops (h : LvN w0 w q st v L) {O : Int} (hO : st.ops = O) : Calls Try.prog 33 #[.pointer (some ⟨q, 0, none⟩)] w (fun e w' => e = .returned (.int .i64 O) ∧ w = w') := by subst hO; exact lv_ops h.lv
theorem lvn_on (h : LvN w0 w q st v L) (hO : st.on = true) : Calls Try.prog 34 #[.pointer (some ⟨q, 0, none⟩)] w (fun e w' => e = .returned (.bool true) ∧ w = w') := by have := lv_on h.lv; rw [hO] at this; exact this
theorem lvn_texts (h : LvN w0 w q st v L) {u : Value} (hu : Tx w u L) : Calls Try.prog 36 #[u, v] w (fun e w' => e = .returned (.bool true) ∧ LvN w0 w' q st v L) :=
  (rtexts_c hu h.tx).mono fun e w' hp => ⟨by have := hp.1; rwa [decide_eq_true rfl] at this, h.keep hp.2⟩
theorem lvn_names2 (h : LvN w0 w q st v L) (hL : st.F.map Fi.nm = L) : Calls Try.prog 31 #[.pointer (some ⟨q, 0, none⟩)] w (fun e w' => ∃ u, e = .returned u ∧ Tx w' u L ∧ LvN w0 w' q st v L) :=
  (lvn_names h.lv hL).mono fun e w' ⟨u, he, h2, hb⟩ => ⟨u, he, h2.tx, h.keep hb⟩
theorem lvn_make (h : LvN w0 w q st v L) (nm : List UInt8) (hn : nm.length ≤ 9223372036854775807) {r : Int} (heq : st.make nm = (r, st')) {s : ByteArray} (hs : text nm = s) : Calls Try.prog 28 #[.pointer (some ⟨q, 0, none⟩), .string s] w (LvNP w0 q st' v L (.int .i64 r)) := by
  subst hs
  obtain ⟨F, hk, hlo, hb, ht, hx⟩ := h
  have := dmake_c hk nm hn
  rw [heq] at this
  exact this.mono fun e w' hp => LvN.post hlo hb ht hx hp
theorem lvn_sync (h : LvN w0 w q st v L) (nm : List UInt8) (hn : nm.length ≤ 9223372036854775807) {r : Int} (heq : st.sync nm = (r, st')) {s : ByteArray} (hs : text nm = s) : Calls Try.prog 30 #[.pointer (some ⟨q, 0, none⟩), .string s] w (LvNP w0 q st' v L (.int .i64 r)) := by
  subst hs
  obtain ⟨F, hk, hlo, hb, ht, hx⟩ := h
  have := dsync_c hk nm hn
  rw [heq] at this
  exact this.mono fun e w' hp => LvN.post hlo hb ht hx hp
theorem lvn_drop (h : LvN w0 w q st v L) (nm : List UInt8) (hn : nm.length ≤ 9223372036854775807) {r : Int} (heq : st.drop nm = (r, st')) {s : ByteArray} (hs : text nm = s) : Calls Try.prog 27 #[.pointer (some ⟨q, 0, none⟩), .string s] w (LvNP w0 q st' v L (.int .i64 r)) := by
  subst hs
  obtain ⟨F, hk, hlo, hb, ht, hx⟩ := h
  have := ddrop_c hk nm hn
  rw [heq] at this
  exact this.mono fun e w' hp => LvN.post hlo hb ht hx hp
theorem lvn_cut (h : LvN w0 w q st v L) (nm : List UInt8) (hn : nm.length ≤ 9223372036854775807) {n : Int} {r : Int} (heq : st.cut nm n = (r, st')) {s : ByteArray} (hs : text nm = s) : Calls Try.prog 35 #[.pointer (some ⟨q, 0, none⟩), .string s, .int .i64 n] w (LvNP w0 q st' v L (.int .i64 r)) := by
  subst hs
  obtain ⟨F, hk, hlo, hb, ht, hx⟩ := h
  have := dcut_c hk nm hn n
  rw [heq] at this
  exact this.mono fun e w' hp => LvN.post hlo hb ht hx hp
theorem lvn_append (h : LvN w0 w q st v L) (nm : List UInt8) (hn : nm.length ≤ 9223372036854775807) {ab : Option Addr} {bl cb : Nat} {l : List UInt8} (hbl : Bys w0 ab bl cb l) (hl : l.length ≤ 1000000) {r : Int} (heq : st.append nm l = (r, st')) {s : ByteArray} (hs : text nm = s) : Calls Try.prog 29 #[.pointer (some ⟨q, 0, none⟩), .string s, .slice ab bl cb] w (LvNP w0 q st' v L (.int .i64 r)) := by
  subst hs
  obtain ⟨F, hk, hlo, hb, ht, hx⟩ := h
  have hlt : 0 < bl → ∀ b off, ab = some ⟨b, off, none⟩ → b < w0.heap.size := by
    rintro hpos b off rfl
    rcases hbl.adr with h4 | ⟨b', off', e, hc⟩
    · have := hbl.le; omega
    · injection e with e; injection e with e1 e2
      subst e1
      exact World.block_lt_of_cell? w0 _ (hc 0 hpos)
  have := dappend_c hk nm hn (hbl.below hb) hl (fun hpos b off e hF => by have h1 := hlt hpos b off e; have h2 := hlo b hF; omega)
  rw [heq] at this
  exact this.mono fun e w' hp => LvN.post hlo hb ht hx hp
end
end Go.Proofs.Ytpndpmgbnnpciaa
