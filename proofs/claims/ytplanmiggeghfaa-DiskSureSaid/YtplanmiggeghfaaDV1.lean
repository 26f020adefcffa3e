/-
  Disk: both disks side by side: what each call leaves of both.
-/
import Derived.Test.YtplanmiggeghfaaDRC
import Derived.Test.YtplanmiggeghfaaDW
import Derived.Shelf.Abstract
namespace Go.Proofs.Ytplanmiggeghfaa
open Go.RowKit Go Go.Sort Go.Maps Go.WideMaps
set_option linter.unusedVariables false
set_option maxRecDepth 20000

theorem Rk.keep {W W' : World} {q : Nat} {st : Ds} {F : Nat → Prop} (h : Rk W q st F) (hk : ∀ k, F k → W'.heap[k]? = W.heap[k]?) : Rk W' q st F := by
  obtain ⟨fv, FS, h1, rfl⟩ := h; exact ⟨fv, FS, h1.keep hk, rfl⟩
theorem Rk.lt {W : World} {q : Nat} {st : Ds} {F : Nat → Prop} (h : Rk W q st F) {k : Nat} (hk : F k) : k < W.heap.size := by
  obtain ⟨fv, FS, h1, rfl⟩ := h; exact h1.lt hk
/-- Both disks, apart, since w1; s1 is the program's state, s2 the reference's. -/
structure Du (w1 : World) (F0 G0 : Nat → Prop) (q r : Nat) (s1 s2 : Ds) (W : World) : Prop where
  ex : ∃ F G, Dk W q s1 F ∧ Rk W r s2 G ∧ (∀ k, F k → ¬ G k) ∧ (∀ k, F k → F0 k ∨ w1.heap.size ≤ k) ∧ (∀ k, G k → G0 k ∨ w1.heap.size ≤ k)
  tr : Trn (fun k => F0 k ∨ G0 k) w1 W
theorem Du.start {W : World} {F G : Nat → Prop} {q r : Nat} {s1 s2 : Ds} (hd : Dk W q s1 F) (hr : Rk W r s2 G) (hn : ∀ k, F k → ¬ G k) : Du W F G q r s1 s2 W :=
  ⟨⟨F, G, hd, hr, hn, fun k hk => .inl hk, fun k hk => .inl hk⟩, Trn.refl⟩
theorem Du.prog {w1 W W' : World} {F0 G0 F : Nat → Prop} {q r : Nat} {s1' s2 : Ds} {G : Nat → Prop} {v : Value} {e : Ending} (hr : Rk W r s2 G) (hn : ∀ k, F k → ¬ G k) (hF : ∀ k, F k → F0 k ∨ w1.heap.size ≤ k) (hG : ∀ k, G k → G0 k ∨ w1.heap.size ≤ k) (ht : Trn (fun k => F0 k ∨ G0 k) w1 W) (h : DPost q F v s1' W e W') :
    e = .returned v ∧ Du w1 F0 G0 q r s1' s2 W' := by
  obtain ⟨he, F', hd, ht', hf⟩ := h
  refine ⟨he, ⟨F', G, hd, hr.keep fun k hk => ht'.block k (hr.lt hk) (fun h => hn k h hk), fun k hk hg => ?_, fun k hk => ?_, hG⟩, ht.trans ht' fun k hk => (hF k hk).imp_left .inl⟩
  · rcases hf k hk with h1 | h1
    · exact hn k h1 hg
    · have := hr.lt hg; omega
  · rcases hf k hk with h1 | h1
    · exact hF k h1
    · exact .inr (Nat.le_trans ht.size h1)
theorem Du.ref {w1 W W' : World} {F0 G0 F : Nat → Prop} {q r : Nat} {s1 s2' : Ds} {G : Nat → Prop} {v : Value} {e : Ending} (hd : Dk W q s1 F) (hn : ∀ k, F k → ¬ G k) (hF : ∀ k, F k → F0 k ∨ w1.heap.size ≤ k) (hG : ∀ k, G k → G0 k ∨ w1.heap.size ≤ k) (ht : Trn (fun k => F0 k ∨ G0 k) w1 W) (h : RPost r G v s2' W e W') :
    e = .returned v ∧ Du w1 F0 G0 q r s1 s2' W' := by
  obtain ⟨he, G', hr, ht', hf⟩ := h
  refine ⟨he, ⟨F, G', hd.keep fun k hk => ht'.block k (hd.lt hk) (fun h => hn k hk h), hr, fun k hk hg => ?_, hF, fun k hk => ?_⟩, ht.trans ht' fun k hk => (hG k hk).imp_left .inr⟩
  · rcases hf k hg with h1 | h1
    · exact hn k hk h1
    · have := hd.lt hk; omega
  · rcases hf k hk with h1 | h1
    · exact hG k h1
    · exact .inr (Nat.le_trans ht.size h1)
section
variable {w1 W : World} {F0 G0 : Nat → Prop} {q r : Nat} {s1 s2 : Ds}
theorem Du.below {W' : World} (h : Du w1 F0 G0 q r s1 s2 W) (hb : Below W.heap.size W W') : Du w1 F0 G0 q r s1 s2 W' := by
  obtain ⟨⟨F, G, hd, hr, h1, h2, h3⟩, ht⟩ := h
  exact ⟨⟨F, G, hd.below hb, hr.below hb, h1, h2, h3⟩, ht.then (Trn.of hb)⟩
theorem Du.heap (h : Du w1 F0 G0 q r s1 s2 W) {k : Nat} {o : Obj} (hk : w1.heap[k]? = some o) (hf : ¬ F0 k) (hg : ¬ G0 k) : W.heap[k]? = some o := h.tr.heap hk fun h => h.elim hf hg
/-- A block that neither disk holds is turned. -/
theorem Du.aside {w : World} {st : Ds} (h : Du w1 F0 G0 q r s1 s2 W) {W' : World} {T : Nat → Prop} (ht : Trn T W W') (hT : ∀ k, T k → k < w1.heap.size ∧ ¬ F0 k ∧ ¬ G0 k ∧ w.heap.size ≤ k) (hb : Below w.heap.size w w1) : Du w F0 G0 q r s1 s2 W' := by
  obtain ⟨⟨F, G, hd, hr, h1, h2, h3⟩, htr⟩ := h
  refine ⟨⟨F, G, hd.keep fun k hk => ht.block k (hd.lt hk) (fun hk9 => ?_), hr.keep fun k hk => ht.block k (hr.lt hk) (fun hk9 => ?_), h1, fun k hk => (h2 k hk).imp_right (fun h => Nat.le_trans hb.size h), fun k hk => (h3 k hk).imp_right (fun h => Nat.le_trans hb.size h)⟩, ?_⟩
  · obtain ⟨a1, a2, a3, -⟩ := hT k hk9
    rcases h2 k hk with h | h
    · exact a2 h
    · omega
  · obtain ⟨a1, a2, a3, -⟩ := hT k hk9
    rcases h3 k hk with h | h
    · exact a3 h
    · omega
  · exact ((Trn.of hb).then htr).trans ht fun k hk => .inr (hT k hk).2.2.2
theorem du_make (h : Du w1 F0 G0 q r s1 s2 W) (nm : List UInt8) (hn : nm.length ≤ 9223372036854775807) : Calls Try.prog 27 #[.pointer (some ⟨q, 0, none⟩), .string (text nm)] W (fun e W' => e = .returned (.int .i64 (s1.make nm).1) ∧ Du w1 F0 G0 q r (s1.make nm).2 s2 W') := by
  obtain ⟨⟨F, G, hd, hr, h1, h2, h3⟩, ht⟩ := h
  exact (dmake_c hd nm hn).mono fun e W' hp => Du.prog hr h1 h2 h3 ht hp
theorem du_rmake (h : Du w1 F0 G0 q r s1 s2 W) (nm : List UInt8) (hn : nm.length ≤ 9223372036854775807) : Calls Try.prog 48 #[.pointer (some ⟨r, 0, none⟩), .string (text nm)] W (fun e W' => e = .returned (.int .i64 (s2.make nm).1) ∧ Du w1 F0 G0 q r s1 (s2.make nm).2 W') := by
  obtain ⟨⟨F, G, hd, hr, h1, h2, h3⟩, ht⟩ := h
  exact (rmake_c hr nm hn).mono fun e W' hp => Du.ref hd h1 h2 h3 ht hp
theorem du_sync (h : Du w1 F0 G0 q r s1 s2 W) (nm : List UInt8) (hn : nm.length ≤ 9223372036854775807) : Calls Try.prog 29 #[.pointer (some ⟨q, 0, none⟩), .string (text nm)] W (fun e W' => e = .returned (.int .i64 (s1.sync nm).1) ∧ Du w1 F0 G0 q r (s1.sync nm).2 s2 W') := by
  obtain ⟨⟨F, G, hd, hr, h1, h2, h3⟩, ht⟩ := h
  exact (dsync_c hd nm hn).mono fun e W' hp => Du.prog hr h1 h2 h3 ht hp
theorem du_rsync (h : Du w1 F0 G0 q r s1 s2 W) (nm : List UInt8) : Calls Try.prog 50 #[.pointer (some ⟨r, 0, none⟩), .string (text nm)] W (fun e W' => e = .returned (.int .i64 (s2.sync nm).1) ∧ Du w1 F0 G0 q r s1 (s2.sync nm).2 W') := by
  obtain ⟨⟨F, G, hd, hr, h1, h2, h3⟩, ht⟩ := h
  exact (rsync_c hr nm).mono fun e W' hp => Du.ref hd h1 h2 h3 ht hp
theorem du_drop (h : Du w1 F0 G0 q r s1 s2 W) (nm : List UInt8) (hn : nm.length ≤ 9223372036854775807) : Calls Try.prog 26 #[.pointer (some ⟨q, 0, none⟩), .string (text nm)] W (fun e W' => e = .returned (.int .i64 (s1.drop nm).1) ∧ Du w1 F0 G0 q r (s1.drop nm).2 s2 W') := by
  obtain ⟨⟨F, G, hd, hr, h1, h2, h3⟩, ht⟩ := h
  exact (ddrop_c hd nm hn).mono fun e W' hp => Du.prog hr h1 h2 h3 ht hp
theorem du_rdrop (h : Du w1 F0 G0 q r s1 s2 W) (nm : List UInt8) : Calls Try.prog 53 #[.pointer (some ⟨r, 0, none⟩), .string (text nm)] W (fun e W' => e = .returned (.int .i64 (s2.drop nm).1) ∧ Du w1 F0 G0 q r s1 (s2.drop nm).2 W') := by
  obtain ⟨⟨F, G, hd, hr, h1, h2, h3⟩, ht⟩ := h
  exact (rdrop_c hr nm).mono fun e W' hp => Du.ref hd h1 h2 h3 ht hp
theorem du_cut (h : Du w1 F0 G0 q r s1 s2 W) (nm : List UInt8) (hn : nm.length ≤ 9223372036854775807) (n : Int) : Calls Try.prog 51 #[.pointer (some ⟨q, 0, none⟩), .string (text nm), .int .i64 n] W (fun e W' => e = .returned (.int .i64 (s1.cut nm n).1) ∧ Du w1 F0 G0 q r (s1.cut nm n).2 s2 W') := by
  obtain ⟨⟨F, G, hd, hr, h1, h2, h3⟩, ht⟩ := h
  exact (dcut_c hd nm hn n).mono fun e W' hp => Du.prog hr h1 h2 h3 ht hp
theorem du_rcut (h : Du w1 F0 G0 q r s1 s2 W) (nm : List UInt8) (n : Int) : Calls Try.prog 52 #[.pointer (some ⟨r, 0, none⟩), .string (text nm), .int .i64 n] W (fun e W' => e = .returned (.int .i64 (s2.cut nm n).1) ∧ Du w1 F0 G0 q r s1 (s2.cut nm n).2 W') := by
  obtain ⟨⟨F, G, hd, hr, h1, h2, h3⟩, ht⟩ := h
  exact (rcut_c hr nm n).mono fun e W' hp => Du.ref hd h1 h2 h3 ht hp
theorem du_arm (h : Du w1 F0 G0 q r s1 s2 W) (n k : Int) (hn : n ≤ 9223372036854775807) : Calls Try.prog 54 #[.pointer (some ⟨q, 0, none⟩), .int .i64 n, .int .i64 k] W (fun e W' => e = .returned (.int .i64 (s1.arm n k).1) ∧ Du w1 F0 G0 q r (s1.arm n k).2 s2 W') := by
  obtain ⟨⟨F, G, hd, hr, h1, h2, h3⟩, ht⟩ := h
  exact (darm_c hd n k hn).mono fun e W' hp => Du.prog hr h1 h2 h3 ht hp
theorem du_rarm (h : Du w1 F0 G0 q r s1 s2 W) (n k : Int) (hn : n ≤ 9223372036854775807) : Calls Try.prog 55 #[.pointer (some ⟨r, 0, none⟩), .int .i64 n, .int .i64 k] W (fun e W' => e = .returned (.int .i64 (s2.arm n k).1) ∧ Du w1 F0 G0 q r s1 (s2.arm n k).2 W') := by
  obtain ⟨⟨F, G, hd, hr, h1, h2, h3⟩, ht⟩ := h
  exact (rarm_c hr n k hn).mono fun e W' hp => Du.ref hd h1 h2 h3 ht hp
theorem du_fail (h : Du w1 F0 G0 q r s1 s2 W) (k : Int) : Calls Try.prog 22 #[.pointer (some ⟨q, 0, none⟩), .int .i64 k] W (fun e W' => e = .returned (.int .i64 (s1.fail k).1) ∧ Du w1 F0 G0 q r (s1.fail k).2 s2 W') := by
  obtain ⟨⟨F, G, hd, hr, h1, h2, h3⟩, ht⟩ := h
  exact (dfail_c hd k).mono fun e W' hp => Du.prog hr h1 h2 h3 ht hp
theorem du_rfail (h : Du w1 F0 G0 q r s1 s2 W) (k : Int) : Calls Try.prog 23 #[.pointer (some ⟨r, 0, none⟩), .int .i64 k] W (fun e W' => e = .returned (.int .i64 (s2.fail k).1) ∧ Du w1 F0 G0 q r s1 (s2.fail k).2 W') := by
  obtain ⟨⟨F, G, hd, hr, h1, h2, h3⟩, ht⟩ := h
  exact (rfail_c hr k).mono fun e W' hp => Du.ref hd h1 h2 h3 ht hp
theorem du_power (h : Du w1 F0 G0 q r s1 s2 W) : Calls Try.prog 24 #[.pointer (some ⟨q, 0, none⟩)] W (fun e W' => e = .returned (.int .i64 0) ∧ Du w1 F0 G0 q r s1.power s2 W') := by
  obtain ⟨⟨F, G, hd, hr, h1, h2, h3⟩, ht⟩ := h
  exact (dpower_c hd).mono fun e W' hp => Du.prog hr h1 h2 h3 ht hp
theorem du_rpower (h : Du w1 F0 G0 q r s1 s2 W) : Calls Try.prog 25 #[.pointer (some ⟨r, 0, none⟩)] W (fun e W' => e = .returned (.tuple #[]) ∧ Du w1 F0 G0 q r s1 s2.power W') := by
  obtain ⟨⟨F, G, hd, hr, h1, h2, h3⟩, ht⟩ := h
  exact (rpower_c hr).mono fun e W' hp => Du.ref hd h1 h2 h3 ht hp
theorem du_append (h : Du w1 F0 G0 q r s1 s2 W) (nm : List UInt8) (hn : nm.length ≤ 9223372036854775807) {ab : Option Addr} {bl cb : Nat} {l : List UInt8} (hbl : Bys w1 ab bl cb l) (hbl2 : l.length ≤ 1000000) (hbn : 0 < bl → ∀ b off, ab = some ⟨b, off, none⟩ → b < w1.heap.size ∧ ¬ F0 b ∧ ¬ G0 b) :
    Calls Try.prog 28 #[.pointer (some ⟨q, 0, none⟩), .string (text nm), .slice ab bl cb] W (fun e W' => e = .returned (.int .i64 (s1.append nm l).1) ∧ Du w1 F0 G0 q r (s1.append nm l).2 s2 W') := by
  obtain ⟨⟨F, G, hd, hr, h1, h2, h3⟩, ht⟩ := h
  refine (dappend_c hd nm hn (hbl.trn (fun h0 b off e => fun hk => hk.elim (hbn h0 b off e).2.1 (hbn h0 b off e).2.2) ht) hbl2 (fun h0 b off e hf => ?_)).mono fun e W' hp => Du.prog hr h1 h2 h3 ht hp
  obtain ⟨a1, a2, a3⟩ := hbn h0 b off e
  rcases h2 b hf with h | h
  · exact a2 h
  · omega
theorem du_rappend (h : Du w1 F0 G0 q r s1 s2 W) (nm : List UInt8) {ab : Option Addr} {bl cb : Nat} {l : List UInt8} (hbl : Bys w1 ab bl cb l) (hbl2 : l.length ≤ 1000000) (hbn : 0 < bl → ∀ b off, ab = some ⟨b, off, none⟩ → b < w1.heap.size ∧ ¬ F0 b ∧ ¬ G0 b) :
    Calls Try.prog 49 #[.pointer (some ⟨r, 0, none⟩), .string (text nm), .slice ab bl cb] W (fun e W' => e = .returned (.int .i64 (s2.append nm l).1) ∧ Du w1 F0 G0 q r s1 (s2.append nm l).2 W') := by
  obtain ⟨⟨F, G, hd, hr, h1, h2, h3⟩, ht⟩ := h
  refine (rappend_c hr nm (hbl.trn (fun h0 b off e => fun hk => hk.elim (hbn h0 b off e).2.1 (hbn h0 b off e).2.2) ht) hbl2 (fun h0 b off e hf => ?_)).mono fun e W' hp => Du.ref hd h1 h2 h3 ht hp
  obtain ⟨a1, a2, a3⟩ := hbn h0 b off e
  rcases h3 b hf with h | h
  · exact a3 h
  · omega
end
/-- What an act does. -/
def Ds.act (st : Ds) (a : Dc) : Int × Ds :=
  if a.kd = 0 then st.make a.nm else if a.kd = 1 then st.append a.nm a.l else if a.kd = 2 then st.sync a.nm else if a.kd = 3 then st.cut a.nm a.n else if a.kd = 4 then st.drop a.nm else if a.kd = 5 then st.arm a.n a.kp else if a.kd = 6 then st.fail a.kp else if a.kd = 7 then (0, st.power) else (0, st)
end Go.Proofs.Ytplanmiggeghfaa
