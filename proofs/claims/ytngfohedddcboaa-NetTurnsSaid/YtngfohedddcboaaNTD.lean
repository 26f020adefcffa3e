/-
  Net: both nets side by side; an act done on both.
-/
import Derived.Test.YtngfohedddcboaaNTC
import Derived.Laws.Append
import Derived.Laws.AppendOwn
namespace Go.Proofs.Ytngfohedddcboaa
open Go.RowKit Go Go.Sort Go.Lib Go.Maps
set_option linter.unusedVariables false
set_option maxRecDepth 20000

theorem infoN5 : (Try.prog.info? 5).map (fun i => (i.zero, i.size, i.bytes)) = some (some (.int .u8 0), 1, 1) := by kernel_rfl
/-- append([]byte{}, l...): what it leaves lies in a block of its own, nothing of the old is turned. -/
theorem run_append_e0 {P : Program} {w : World} {base : Nat} {t ty e : TypeId} {i : TypeInfo} (ht : P.underlying t = some (.slice e)) (hi : P.info? e = some i) (hz : i.zero = some (.int .u8 0))
    (hsize : i.size = 1) (hby : i.bytes = 1) {g : Nat} (hown : OwnB w base e (.slice (some ⟨g, 0, none⟩) 0 0) [])
    {a : Option Addr} {m c : Nat} {l : List UInt8} (hb : Bys w a m c l) (h63 : m ≤ 140737488355328) (hbase : base ≤ w.heap.size) :
    ∃ v' w', (Builtin.append_ #[t, t] ty #[.slice (some ⟨g, 0, none⟩) 0 0, .slice a m c]).run P w = .ok v' w' ∧ OwnB w' base e v' l ∧ Below w.heap.size w w' := by
  have hlen := hb.len
  by_cases hm : m = 0
  · subst hm
    have hl : l = [] := List.eq_nil_of_length_eq_zero hb.len
    subst hl
    refine ⟨_, w, ?_, hown, Below.refl _ _⟩
    cases a with
    | none => simp [Builtin.append_, run_underlying ht, sizeOf, typeInfo, hi, Builtin.lenOf, Builtin.firstCells, storeCells]
    | some ad =>
      simp [Builtin.append_, run_underlying ht, sizeOf, typeInfo, hi, Builtin.lenOf, Builtin.firstCells, storeCells, loadCells, loadCellsFrom]
  · subst hlen
    obtain ⟨ad, rfl, hc⟩ := hb.cells (by omega)
    have hr := run_append_grow (P := P) w t ty e i (.int .u8 0) ht hi hz ⟨g, 0, none⟩ 0 0 [] (by simp) (by intro j v hj; simp at hj) ad l.length c (u8v l) (by rw [u8v_length, hsize]; omega) hc (by omega) (by omega)
      (growslice_fits (by omega) (by rw [hby]; omega))
    simp only [Nat.zero_add] at hr
    have hge := grownCap_ge w l.length 0 e
    have hcm : grownCap w l.length 0 e ≤ maxLen := grownCap_le_maxLen w l.length 0 e (by unfold maxLen; omega)
    refine ⟨_, _, hr, ?_, ⟨rfl, rfl, rfl, by simp, fun k hk => heap_alloc_old w.drew _ hk⟩⟩
    generalize grownCap w l.length 0 e = cap at hge hcm
    refine ⟨by rw [u8v_length, Nat.mul_one], .inr ⟨w.heap.size, cap, _, rfl, hbase, heap_alloc_new w.drew _, by omega, hcm, ?_, ?_⟩⟩
    · simp [u8v_length, size_zeroCells, Value.cells]
      omega
    · have : l.length * 1 = (u8v l).length := by rw [u8v_length, Nat.mul_one]
      rw [this]
      simp
theorem wpList_append_e0 {P : Program} {w : World} {ops : Array Oper} {rest : List Oper} {o : Oper} {a : Act} {Q : Exit → Act → World → Prop} (hgd : o.guard = none) (s x : Operand) (t : TypeId)
    (ho : o.op = .call { callee := .builtin .append, args := #[s, x], argTypes := #[t, t] })
    {base : Nat} {e : TypeId} {i : TypeInfo} (ht : P.underlying t = some (.slice e)) (hi : P.info? e = some i) (hz : i.zero = some (.int .u8 0))
    (hsize : i.size = 1) (hby : i.bytes = 1) {g : Nat} (hs : a.eval s = .slice (some ⟨g, 0, none⟩) 0 0) (hown : OwnB w base e (.slice (some ⟨g, 0, none⟩) 0 0) [])
    {ad : Option Addr} {m c : Nat} {l : List UInt8} (hx : a.eval x = .slice ad m c) (hb : Bys w ad m c l) (h63 : m ≤ 140737488355328) (hbase : base ≤ w.heap.size)
    (h : ∀ v' w', OwnB w' base e v' l → Below w.heap.size w w' → wpList P ops Q rest (a.put o.dst v') w') : wpList P ops Q (o :: rest) a w := by
  refine wpList_plain hgd fun K hK => ?_
  obtain ⟨v', w', hr, h2, h3⟩ := run_append_e0 (P := P) (ty := o.type) ht hi hz hsize hby hown hb h63 hbase
  unfold Oper.wp execOp
  simp only [ho, resolve, invoke, builtin, Sem.run_bind, Sem.run_pure, Result.andThen_ok, List.map_toArray, List.map_cons, List.map_nil, hs, hx, hr]
  exact hK _ _ (h v' w' h2 h3)

theorem Bys.trN {F : Nat → Prop} {w W : World} {a : Option Addr} {n cap : Nat} {l : List UInt8} (h : Bys w a n cap l) (hn : 0 < n → ∀ b off, a = some ⟨b, off, none⟩ → ¬ F b) (ht : TrN F w W) : Bys W a n cap l := by
  refine ⟨h.len, h.le, h.max, ?_⟩
  rcases h.adr with h4 | ⟨b, off, rfl, hc⟩
  · exact .inl h4
  · exact .inr ⟨b, off, rfl, fun i hi => by rw [World.cell?_of_block (ht.block b (World.block_lt_of_cell? w _ (hc i hi)) (hn (by omega) b off rfl))]; exact hc i hi⟩
/-- Both nets, apart, since w1; s1 is the program's state, s2 the reference's. -/
structure Nu (w1 : World) (F0 G0 : Nat → Prop) (q r : Nat) (s1 s2 : Nt) (W : World) : Prop where
  ex : ∃ F G, Nk W 56 q s1 F ∧ Nk W 60 r s2 G ∧ (∀ k, F k → ¬ G k) ∧ (∀ k, F k → F0 k ∨ w1.heap.size ≤ k) ∧ (∀ k, G k → G0 k ∨ w1.heap.size ≤ k)
  tr : TrN (fun k => F0 k ∨ G0 k) w1 W
theorem Nu.start {W : World} {F G : Nat → Prop} {q r : Nat} {s1 s2 : Nt} (hd : Nk W 56 q s1 F) (hr : Nk W 60 r s2 G) (hn : ∀ k, F k → ¬ G k) : Nu W F G q r s1 s2 W :=
  ⟨⟨F, G, hd, hr, hn, fun k hk => .inl hk, fun k hk => .inl hk⟩, TrN.refl⟩
theorem Nu.prog {w1 W W' : World} {F0 G0 F : Nat → Prop} {q r : Nat} {s1' s2 : Nt} {G : Nat → Prop} {v : Value} {e : Ending} (hr : Nk W 60 r s2 G) (hn : ∀ k, F k → ¬ G k) (hF : ∀ k, F k → F0 k ∨ w1.heap.size ≤ k) (hG : ∀ k, G k → G0 k ∨ w1.heap.size ≤ k) (ht : TrN (fun k => F0 k ∨ G0 k) w1 W) (h : NPost 56 q F v s1' W e W') :
    e = .returned v ∧ Nu w1 F0 G0 q r s1' s2 W' := by
  obtain ⟨he, F', hd, ht', hf⟩ := h
  refine ⟨he, ⟨F', G, hd, hr.keep fun k hk => ht'.block k (hr.lt hk) (fun h => hn k h hk), fun k hk hg => ?_, fun k hk => ?_, hG⟩, ht.trans ht' fun k hk => (hF k hk).imp_left .inl⟩
  · rcases hf k hk with h1 | h1
    · exact hn k h1 hg
    · have := hr.lt hg; omega
  · rcases hf k hk with h1 | h1
    · exact hF k h1
    · exact .inr (Nat.le_trans ht.size h1)
theorem Nu.ref {w1 W W' : World} {F0 G0 F : Nat → Prop} {q r : Nat} {s1 s2' : Nt} {G : Nat → Prop} {v : Value} {e : Ending} (hd : Nk W 56 q s1 F) (hn : ∀ k, F k → ¬ G k) (hF : ∀ k, F k → F0 k ∨ w1.heap.size ≤ k) (hG : ∀ k, G k → G0 k ∨ w1.heap.size ≤ k) (ht : TrN (fun k => F0 k ∨ G0 k) w1 W) (h : NPost 60 r G v s2' W e W') :
    e = .returned v ∧ Nu w1 F0 G0 q r s1 s2' W' := by
  obtain ⟨he, G', hr, ht', hf⟩ := h
  refine ⟨he, ⟨F, G', hd.keep fun k hk => ht'.block k (hd.lt hk) (fun h => hn k hk h), hr, fun k hk hg => ?_, hF, fun k hk => ?_⟩, ht.trans ht' fun k hk => (hG k hk).imp_left .inr⟩
  · rcases hf k hg with h1 | h1
    · exact hn k hk h1
    · have := hd.lt hk; omega
  · rcases hf k hk with h1 | h1
    · exact hG k h1
    · exact .inr (Nat.le_trans ht.size h1)
section
variable {w1 W : World} {F0 G0 : Nat → Prop} {q r nn : Nat} {s1 s2 : Nt}
theorem Nu.below {W' : World} (h : Nu w1 F0 G0 q r s1 s2 W) (hb : Below W.heap.size W W') : Nu w1 F0 G0 q r s1 s2 W' := by
  obtain ⟨⟨F, G, hd, hr, h1, h2, h3⟩, ht⟩ := h
  exact ⟨⟨F, G, hd.below hb, hr.below hb, h1, h2, h3⟩, ht.then (TrN.of hb)⟩
theorem Nu.heap (h : Nu w1 F0 G0 q r s1 s2 W) {k : Nat} {o : Obj} (hk : w1.heap[k]? = some o) (hf : ¬ F0 k) (hg : ¬ G0 k) : W.heap[k]? = some o := h.tr.heap hk fun h => h.elim hf hg
/-- A block that neither net holds is turned. -/
theorem Nu.aside {w : World} (h : Nu w1 F0 G0 q r s1 s2 W) {W' : World} {T : Nat → Prop} (ht : TrN T W W') (hT : ∀ k, T k → k < w1.heap.size ∧ ¬ F0 k ∧ ¬ G0 k ∧ w.heap.size ≤ k) (hb : Below w.heap.size w w1) : Nu w F0 G0 q r s1 s2 W' := by
  obtain ⟨⟨F, G, hd, hr, h1, h2, h3⟩, htr⟩ := h
  refine ⟨⟨F, G, hd.keep fun k hk => ht.block k (hd.lt hk) (fun hk9 => ?_), hr.keep fun k hk => ht.block k (hr.lt hk) (fun hk9 => ?_), h1, fun k hk => (h2 k hk).imp_right (fun h => Nat.le_trans hb.size h), fun k hk => (h3 k hk).imp_right (fun h => Nat.le_trans hb.size h)⟩, ?_⟩
  · obtain ⟨a1, a2, a3, -⟩ := hT k hk9
    rcases h2 k hk with h | h
    · exact a2 h
    · omega
  · obtain ⟨a1, a2, a3, -⟩ := hT k hk9
    rcases h3 k hk with h | h
    · exact a3 h
    · omega
  · exact ((TrN.of hb).then htr).trans ht fun k hk => .inr (hT k hk).2.2.2
theorem nu_send (h : Nu w1 F0 G0 q r s1 s2 W) (ho : s1.Ok nn) (hnn : nn ≤ 100000) (frm : Int) {a : Option Addr} {n cap : Nat} {l : List UInt8} (hb : Bys W a n cap l) : Calls Try.prog 16 #[.pointer (some ⟨q, 0, none⟩), .int .i64 frm, .slice a n cap] W (fun e W' => e = .returned (.int .i64 (s1.send frm l).1) ∧ Nu w1 F0 G0 q r ((s1.send frm l).2) s2 W') := by
  obtain ⟨⟨F, G, hd, hr, h1, h2, h3⟩, ht⟩ := h
  exact (nsend_c hd ho hnn frm hb).mono fun e W' hp => Nu.prog hr h1 h2 h3 ht hp
theorem nu_take (h : Nu w1 F0 G0 q r s1 s2 W) (ho : s1.Ok nn) (hnn : nn ≤ 100000) (i : Int) : Calls Try.prog 17 #[.pointer (some ⟨q, 0, none⟩), .int .i64 i] W (fun e W' => e = .returned (.tuple #[.agg (s1.look i).1.arr, .int .i64 (s1.look i).2]) ∧ Nu w1 F0 G0 q r (s1.took i) s2 W') := by
  obtain ⟨⟨F, G, hd, hr, h1, h2, h3⟩, ht⟩ := h
  exact (ntake_c hd ho hnn i).mono fun e W' hp => Nu.prog hr h1 h2 h3 ht hp
theorem nu_drop (h : Nu w1 F0 G0 q r s1 s2 W) (ho : s1.Ok nn) (hnn : nn ≤ 100000) (i : Int) : Calls Try.prog 21 #[.pointer (some ⟨q, 0, none⟩), .int .i64 i] W (fun e W' => e = .returned (.int .i64 (s1.look i).2) ∧ Nu w1 F0 G0 q r (s1.drop i) s2 W') := by
  obtain ⟨⟨F, G, hd, hr, h1, h2, h3⟩, ht⟩ := h
  exact (ndrop_c hd ho hnn i).mono fun e W' hp => Nu.prog hr h1 h2 h3 ht hp
theorem nu_twice (h : Nu w1 F0 G0 q r s1 s2 W) (ho : s1.Ok nn) (hnn : nn ≤ 100000) (i : Int) : Calls Try.prog 18 #[.pointer (some ⟨q, 0, none⟩), .int .i64 i] W (fun e W' => e = .returned (.int .i64 (s1.twice i).1) ∧ Nu w1 F0 G0 q r ((s1.twice i).2) s2 W') := by
  obtain ⟨⟨F, G, hd, hr, h1, h2, h3⟩, ht⟩ := h
  exact (ntwice_c hd ho hnn i).mono fun e W' hp => Nu.prog hr h1 h2 h3 ht hp
theorem nu_turn (h : Nu w1 F0 G0 q r s1 s2 W) (ho : s1.Ok nn) (hnn : nn ≤ 100000) (i a9 z : Int) (hz0 : 0 ≤ z) (hz1 : z ≤ 255) : Calls Try.prog 19 #[.pointer (some ⟨q, 0, none⟩), .int .i64 i, .int .i64 a9, .int .u8 z] W (fun e W' => e = .returned (.int .i64 (s1.turn i a9 z).1) ∧ Nu w1 F0 G0 q r ((s1.turn i a9 z).2) s2 W') := by
  obtain ⟨⟨F, G, hd, hr, h1, h2, h3⟩, ht⟩ := h
  exact (nturn_c hd ho i a9 z hz0 hz1).mono fun e W' hp => Nu.prog hr h1 h2 h3 ht hp
theorem nu_rsend (h : Nu w1 F0 G0 q r s1 s2 W) (ho : s2.Ok nn) (hnn : nn ≤ 100000) (frm : Int) {a : Option Addr} {n cap : Nat} {l : List UInt8} (hb : Bys W a n cap l) : Calls Try.prog 23 #[.pointer (some ⟨r, 0, none⟩), .int .i64 frm, .slice a n cap] W (fun e W' => e = .returned (.int .i64 (s2.send frm l).1) ∧ Nu w1 F0 G0 q r s1 ((s2.send frm l).2) W') := by
  obtain ⟨⟨F, G, hd, hr, h1, h2, h3⟩, ht⟩ := h
  exact (rnsend_c hr ho hnn frm hb).mono fun e W' hp => Nu.ref hd h1 h2 h3 ht hp
theorem nu_rtake (h : Nu w1 F0 G0 q r s1 s2 W) (ho : s2.Ok nn) (hnn : nn ≤ 100000) (i : Int) : Calls Try.prog 24 #[.pointer (some ⟨r, 0, none⟩), .int .i64 i] W (fun e W' => e = .returned (.tuple #[.agg (s2.look i).1.arr, .int .i64 (s2.look i).2]) ∧ Nu w1 F0 G0 q r s1 (s2.took i) W') := by
  obtain ⟨⟨F, G, hd, hr, h1, h2, h3⟩, ht⟩ := h
  exact (rntake_c hr ho hnn i).mono fun e W' hp => Nu.ref hd h1 h2 h3 ht hp
theorem nu_rdrop (h : Nu w1 F0 G0 q r s1 s2 W) (ho : s2.Ok nn) (hnn : nn ≤ 100000) (i : Int) : Calls Try.prog 25 #[.pointer (some ⟨r, 0, none⟩), .int .i64 i] W (fun e W' => e = .returned (.int .i64 (s2.look i).2) ∧ Nu w1 F0 G0 q r s1 (s2.drop i) W') := by
  obtain ⟨⟨F, G, hd, hr, h1, h2, h3⟩, ht⟩ := h
  exact (rndrop_c hr ho hnn i).mono fun e W' hp => Nu.ref hd h1 h2 h3 ht hp
theorem nu_rtwice (h : Nu w1 F0 G0 q r s1 s2 W) (ho : s2.Ok nn) (hnn : nn ≤ 100000) (i : Int) : Calls Try.prog 26 #[.pointer (some ⟨r, 0, none⟩), .int .i64 i] W (fun e W' => e = .returned (.int .i64 (s2.twice i).1) ∧ Nu w1 F0 G0 q r s1 ((s2.twice i).2) W') := by
  obtain ⟨⟨F, G, hd, hr, h1, h2, h3⟩, ht⟩ := h
  exact (rntwice_c hr ho hnn i).mono fun e W' hp => Nu.ref hd h1 h2 h3 ht hp
theorem nu_rturn (h : Nu w1 F0 G0 q r s1 s2 W) (ho : s2.Ok nn) (hnn : nn ≤ 100000) (i a9 z : Int) (hz0 : 0 ≤ z) (hz1 : z ≤ 255) : Calls Try.prog 27 #[.pointer (some ⟨r, 0, none⟩), .int .i64 i, .int .i64 a9, .int .u8 z] W (fun e W' => e = .returned (.int .i64 (s2.turn i a9 z).1) ∧ Nu w1 F0 G0 q r s1 ((s2.turn i a9 z).2) W') := by
  obtain ⟨⟨F, G, hd, hr, h1, h2, h3⟩, ht⟩ := h
  exact (rnturn_c hr ho i a9 z hz0 hz1).mono fun e W' hp => Nu.ref hd h1 h2 h3 ht hp
theorem nu_look (h : Nu w1 F0 G0 q r s1 s2 W) (ho : s1.Ok nn) (i : Int) : Calls Try.prog 20 #[.pointer (some ⟨q, 0, none⟩), .int .i64 i] W (fun e W' => e = .returned (.tuple #[.agg (s1.look i).1.arr, .int .i64 (s1.look i).2]) ∧ Nu w1 F0 G0 q r s1 s2 W') := by
  have h0 := h
  obtain ⟨⟨F, G, hd, hr, h1, h2, h3⟩, ht⟩ := h
  exact (nlook_c hd ho.m0 i).mono fun e W' hp => ⟨hp.1, h0.below hp.2⟩
theorem nu_rlook (h : Nu w1 F0 G0 q r s1 s2 W) (i : Int) : Calls Try.prog 28 #[.pointer (some ⟨r, 0, none⟩), .int .i64 i] W (fun e W' => e = .returned (.tuple #[.agg (s2.look i).1.arr, .int .i64 (s2.look i).2]) ∧ Nu w1 F0 G0 q r s1 s2 W') := by
  have h0 := h
  obtain ⟨⟨F, G, hd, hr, h1, h2, h3⟩, ht⟩ := h
  exact (rnlook_c hr i).mono fun e W' hp => ⟨hp.1, h0.below hp.2⟩
end
/-- An act: the slice of its bytes, and these. -/
structure Na where
  kd : Int
  frm : Int
  v : Value
  l : List UInt8
  i : Int
  at9 : Int
  z : Int
def Na.zero : Na := ⟨0, 0, .slice none 0 0, [], 0, 0, 0⟩
def Na.arr (a : Na) : Array Value := #[.int .i64 a.kd, .int .i64 a.frm, a.v, .int .i64 a.i, .int .i64 a.at9, .int .u8 a.z]
/-- What an act makes of a net. -/
def Nt.act (st : Nt) (a : Na) : Nt :=
  if a.kd = 0 then (st.send a.frm a.l).2 else if a.kd = 1 then st.took a.i else if a.kd = 2 then st.drop a.i else if a.kd = 3 then (st.twice a.i).2 else if a.kd = 4 then (st.turn a.i a.at9 a.z).2 else st
theorem Nt.Ok.act {st : Nt} {n : Nat} (h : st.Ok n) (a : Na) : (st.act a).Ok (n + 1) := by
  unfold Nt.act
  split
  · exact h.send _ _
  · split
    · exact h.took _
    · split
      · exact h.drop _
      · split
        · exact h.twice _
        · split
          · exact h.turn _ _ _
          · exact h.mono (Nat.le_succ n)
def NuI (w1 : World) (F G : Nat → Prop) (q r : Nat) (s s' : Nt) (a b n : Nat) (vals : List (Option Value)) (L : Nat → Bool) (xs : Nat → Value) (W : World) : Prop :=
  Nu w1 F G q r (if L a = true then s' else s) (if L b = true then s' else s) W ∧ ∀ i, i < n → L i = true → RvN vals i (xs i)
theorem NuI.pure {w1 W : World} {F G : Nat → Prop} {q r a b n : Nat} {s s' : Nt} {vals : List (Option Value)} {L : Nat → Bool} {xs : Nat → Value} (h : NuI w1 F G q r s s' a b n vals L xs W) (i : Nat) (ha : i ≠ a) (hb : i ≠ b) {v : Value} (hv : RvN vals i v) : NuI w1 F G q r s s' a b n vals (fun j => if j = i then true else L j) (fun j => if j = i then v else xs j) W := by
  refine ⟨by simpa only [if_neg (Ne.symm ha), if_neg (Ne.symm hb)] using h.1, fun j hj hL => ?_⟩
  by_cases e : j = i
  · subst e; simpa using hv
  · simp only [if_neg e] at hL ⊢; exact h.2 j hj hL
theorem NuI.pa {w1 W W' : World} {F G : Nat → Prop} {q r a b n : Nat} {s s' : Nt} {vals : List (Option Value)} {L : Nat → Bool} {xs : Nat → Value} (h : NuI w1 F G q r s s' a b n vals L xs W) (hab : a ≠ b) {v : Value} (hv : RvN vals a v) (hd : Nu w1 F G q r s' (if L b = true then s' else s) W') : NuI w1 F G q r s s' a b n vals (fun j => if j = a then true else L j) (fun j => if j = a then v else xs j) W' := by
  refine ⟨by simpa only [if_true, if_neg (Ne.symm hab)] using hd, fun j hj hL => ?_⟩
  by_cases e : j = a
  · subst e; simpa using hv
  · simp only [if_neg e] at hL ⊢; exact h.2 j hj hL
theorem NuI.pb {w1 W W' : World} {F G : Nat → Prop} {q r a b n : Nat} {s s' : Nt} {vals : List (Option Value)} {L : Nat → Bool} {xs : Nat → Value} (h : NuI w1 F G q r s s' a b n vals L xs W) (hab : a ≠ b) {v : Value} (hv : RvN vals b v) (hd : Nu w1 F G q r (if L a = true then s' else s) s' W') : NuI w1 F G q r s s' a b n vals (fun j => if j = b then true else L j) (fun j => if j = b then v else xs j) W' := by
  refine ⟨by simpa only [if_true, if_neg hab] using hd, fun j hj hL => ?_⟩
  by_cases e : j = b
  · subst e; simpa using hv
  · simp only [if_neg e] at hL ⊢; exact h.2 j hj hL
/-- What is left of own bytes from place j on. -/
def OwT (oa : Option Addr) (l : List UInt8) (W : World) (j : Nat) : Prop := l.length = 0 ∨ ∃ go cur, oa = some ⟨go, 0, none⟩ ∧ W.heap[go]? = some (.cells cur 5 (0, 0)) ∧ ∀ i, j ≤ i → i < l.length → cur[i]? = some (.int .u8 (by8 l i))
theorem OwnB.owt {W : World} {B n c : Nat} {oa : Option Addr} {l : List UInt8} (h : OwnB W B 5 (.slice oa n c) l) : OwT oa l W 0 ∧ n = l.length ∧ ∀ k, oa = some ⟨k, 0, none⟩ → B ≤ k ∧ k < W.heap.size := by
  rcases h.2 with ⟨e, hz⟩ | ⟨g, cap, cur, e, hB, hg, hnc, hcm, hcs, htake⟩
  · injection e with e1 e2 e3
    exact ⟨.inl hz, by omega, fun k hk => by rw [e1] at hk; cases hk⟩
  · injection e with e1 e2 e3
    refine ⟨.inr ⟨g, cur, e1, hg, fun i _ hi => ?_⟩, e2, fun k hk => ?_⟩
    · have h3 : (cur.toList.take (l.length * 1))[i]? = (u8v l)[i]? := by rw [htake]
      rw [List.getElem?_take, if_pos (by omega), u8v_get l i hi] at h3
      simpa using h3
    · rw [e1] at hk
      injection hk with hk
      injection hk with hk
      subst hk
      exact ⟨hB, (Array.getElem?_eq_some_iff.1 hg).1⟩
theorem OwnB.spot0 {W : World} {B n c : Nat} {oa : Option Addr} {l : List UInt8} (h : OwnB W B 5 (.slice oa n c) l) {b off : Nat} (e : oa = some ⟨b, off, none⟩) : oa = some ⟨b, 0, none⟩ := by
  rcases h.2 with ⟨e9, -⟩ | ⟨g, cap, cur, e9, -⟩
  · injection e9 with e1
    rw [e1] at e
    cases e
  · injection e9 with e1
    rw [e1] at e
    injection e with e
    injection e with e4 e5
    subst e4
    exact e1
theorem Bys.blk_lt {w : World} {x : Option Addr} {n c : Nat} {l : List UInt8} (h : Bys w x n c l) (h0 : 0 < n) {b off : Nat} (e : x = some ⟨b, off, none⟩) : b < w.heap.size := by
  rcases h.adr with h9 | ⟨b9, off9, e9, h9⟩
  · have := h.le; omega
  · rw [e] at e9
    injection e9 with e9
    injection e9 with e9 e10
    subst e9
    have := World.block_lt_of_cell? w _ (h9 0 h0)
    simpa using this
theorem OwT.keep {oa : Option Addr} {l : List UInt8} {W W' : World} {j : Nat} (h : OwT oa l W j) (hk : ∀ k, oa = some ⟨k, 0, none⟩ → W'.heap[k]? = W.heap[k]?) : OwT oa l W' j := by
  rcases h with h | ⟨go, cur, e, hg, hc⟩
  · exact .inl h
  · exact .inr ⟨go, cur, e, (hk go e).trans hg, hc⟩
theorem OwT.step {go j : Nat} {l : List UInt8} {W : World} (h : OwT (some ⟨go, 0, none⟩) l W j) (v : Value) : OwT (some ⟨go, 0, none⟩) l (W.setCell ⟨go, j, none⟩ v) (j + 1) := by
  rcases h with h | ⟨g, cur, e, hg, hc⟩
  · exact .inl h
  · injection e with e
    injection e with e
    subst e
    refine .inr ⟨go, cur.setIfInBounds j v, rfl, ?_, fun i h1 h2 => ?_⟩
    · rw [heap_setCell_same W go j _ 5 v hg]
    · rw [Array.getElem?_setIfInBounds_ne (by omega)]
      exact hc i (by omega) h2
theorem OwT.cell {oa : Option Addr} {l : List UInt8} {W : World} {j : Nat} (h : OwT oa l W j) (hj : j < l.length) : ∃ go, oa = some ⟨go, 0, none⟩ ∧ W.cell? ⟨go, j, none⟩ = some (.int .u8 (by8 l j)) ∧ W.frozen? ⟨go, j, none⟩ = false := by
  rcases h with h | ⟨go, cur, e, hg, hc⟩
  · omega
  · exact ⟨go, e, by rw [cell_of_row W go j cur 5 (0, 0) hg]; exact hc j (Nat.le_refl _) hj, frozen_of_row W go j cur 5 hg⟩
set_option maxRecDepth 100000 in
set_option maxHeartbeats 12800000 in
theorem ndo_c {w : World} {q r nn : Nat} {st : Nt} {F G : Nat → Prop} (hd : Nk w 56 q st F) (hr : Nk w 60 r st G) (hdj : ∀ k, F k → ¬ G k) (ho : st.Ok nn) (hnn : nn ≤ 100000) (ac : Na) {x : Option Addr} {cx : Nat} (hb : Bys w x ac.l.length cx ac.l) (hbn : 0 < ac.l.length → ∀ b off, x = some ⟨b, off, none⟩ → ¬ F b ∧ ¬ G b)
    (hz0 : 0 ≤ ac.z) (hz1 : ac.z ≤ 255) (hl : ac.l.length ≤ 20000) : Calls Try.prog 12 #[.pointer (some ⟨q, 0, none⟩), .pointer (some ⟨r, 0, none⟩), .agg #[.int .i64 ac.kd, .int .i64 ac.frm, .slice x ac.l.length cx, .int .i64 ac.i, .int .i64 ac.at9, .int .u8 ac.z]] w
    (fun e w' => e = .returned (.bool true) ∧ Nu w F G q r (st.act ac) (st.act ac) w') := by
  obtain ⟨i0, hi0, hq0, hq1, hq2⟩ := info_parts infoN5
  obtain ⟨kd, frm, v9, l, i, at9, z⟩ := ac
  simp only at hb hbn hz0 hz1 hl ⊢
  obtain ⟨xl, hxl⟩ : ∃ z, l.length = z := ⟨_, rfl⟩
  have HXL := Lib.hid hxl
  rw [hxl] at hb hbn hl ⊢
  have HD := Lib.hid hd
  have HR := Lib.hid hr
  have HDJ := Lib.hid hdj
  have HOK := Lib.hid (And.intro ho hnn)
  have HB := Lib.hid hb
  have HBN := Lib.hid hbn
  have HZ := Lib.hid (And.intro hz0 hz1)
  have HL := Lib.hid hl
  have hba := alloc_below w (.cells #[.int .i64 kd, .int .i64 frm, .slice x xl cx, .int .i64 i, .int .i64 at9, .int .u8 z] 31)
  have hxa := heap_alloc_new w (.cells #[.int .i64 kd, .int .i64 frm, .slice x xl cx, .int .i64 i, .int .i64 at9, .int .u8 z] 31)
  clear hd hr hdj hb hbn hz0 hz1 hxl ho hnn
  obtain ⟨s', hsA⟩ : ∃ y, st.act ⟨kd, frm, v9, l, i, at9, z⟩ = y := ⟨_, rfl⟩
  rw [hsA]
  go_enter Try.func12, Try.ntmps12
  go_upto_region 1 with (fail)
  obtain ⟨gx, hgx⟩ : ∃ z, w.heap.size = z := ⟨_, rfl⟩
  rw [hgx] at hxa ⊢
  have HGX := Lib.hid hgx
  have HB2 := Lib.hid hba
  have HX2 := Lib.hid hxa
  clear hba hgx
  generalize w.alloc (.cells #[.int .i64 kd, .int .i64 frm, .slice x xl cx, .int .i64 i, .int .i64 at9, .int .u8 z] 31) = w2 at *
  have HDU := Lib.hid (Nu.start (HD.out.below HB2.out) (HR.out.below HB2.out) HDJ.out)
  have HGN := Lib.hid (show ¬ F gx ∧ ¬ G gx ∧ gx < w2.heap.size from ⟨fun h => by have := HD.out.lt h; have := HGX.out; omega, fun h => by have := HR.out.lt h; have := HGX.out; omega, (Array.getElem?_eq_some_iff.1 HX2.out).1⟩)
  have HAC := Lib.hid (fun (s1 s2 : Nt) (W : World) (h : Nu w2 F G q r s1 s2 W) => show W.cell? ⟨gx, 0, none⟩ = some (.int .i64 kd) ∧ W.cell? ⟨gx, 1, none⟩ = some (.int .i64 frm) ∧ W.cell? ⟨gx, 2, none⟩ = some (.slice x xl cx) ∧ W.cell? ⟨gx, 3, none⟩ = some (.int .i64 i) ∧ W.cell? ⟨gx, 4, none⟩ = some (.int .i64 at9) ∧ W.cell? ⟨gx, 5, none⟩ = some (.int .u8 z) from by
    have hx := h.heap HX2.out HGN.out.1 HGN.out.2.1
    refine ⟨?_, ?_, ?_, ?_, ?_, ?_⟩ <;> (rw [cell_of_row W gx _ _ _ (0, 0) hx]; rfl))
  obtain ⟨a0, a1, a2, a3, a4, a5⟩ := HAC.out _ _ _ HDU.out
  clear hxa
  by_cases hk0 : kd = 0
  · subst hk0
    have hst : st.act ⟨0, frm, v9, l, i, at9, z⟩ = (st.send frm l).2 := by unfold Nt.act; simp
    have c2 : (w2.alloc (.cells #[] 5)).cell? ⟨gx, 2, none⟩ = some (.slice x xl cx) := by rw [cell_of_row _ gx 2 _ _ (0, 0) (((alloc_below w2 (.cells #[] 5)).block _ HGN.out.2.2).trans HX2.out)]; rfl
    go_upto_region 4 with (first
      | (refine wpList_append_e0 rfl _ _ 29 rfl (base := w2.heap.size) (e := 5) (l := l) (i := i0) Try.underlying29 hi0 hq0 hq1 hq2 rfl (OwnB.empty w2 w2.heap.size 5 (Nat.le_refl _)) rfl (HB.out.below (HB2.out.trans ((alloc_below w2 (.cells #[] 5)).mono HB2.out.size))) (by have := HL.out; omega) (alloc_below w2 (.cells #[] 5)).size ?_; intro ov w5 ho5 hb5; have HO5 := Lib.hid ho5; have HB25 := Lib.hid ((alloc_below w2 (.cells #[] 5)).trans (hb5.mono (alloc_below w2 (.cells #[] 5)).size)); clear ho5 hb5))
    obtain ⟨oa, oc, hov, hob⟩ := HO5.out.bys
    rw [HXL.out] at hov hob
    subst hov
    have HB5 := Lib.hid (HB2.out.trans (HB25.out.mono HB2.out.size))
    have HDU5 := Lib.hid (Nu.start (HD.out.below HB5.out) (HR.out.below HB5.out) HDJ.out)
    have HOT := Lib.hid HO5.out.owt
    have HON := Lib.hid (show ∀ k, oa = some ⟨k, 0, none⟩ → k < w5.heap.size ∧ ¬ F k ∧ ¬ G k ∧ w.heap.size ≤ k from fun k hk => by
      obtain ⟨a1, a2⟩ := HOT.out.2.2 k hk
      have hs2 := HB2.out.size
      exact ⟨a2, fun h => by have := HD.out.lt h; omega, fun h => by have := HR.out.lt h; omega, by omega⟩)
    have HX5 := Lib.hid ((HB25.out.block _ HGN.out.2.2).trans HX2.out)
    obtain ⟨E, hE⟩ : ∃ z, (st.send frm l).1 = z := ⟨_, rfl⟩
    have hs' : (st.send frm l).2 = s' := hst.symm.trans hsA
    have HP := Lib.hid (nu_send HDU5.out HOK.out.1 HOK.out.2 frm hob)
    have HES := Lib.hid (And.intro hE hs')
    rw [hE, hs'] at HP
    clear hst hE hs' hsA a0 a1 a2 a3 a4 a5 hob c2
    have x1 : w5.cell? ⟨gx, 1, none⟩ = some (.int .i64 frm) := by rw [cell_of_row w5 gx 1 _ _ (0, 0) HX5.out]; rfl
    go_upto_region 5 with (go_at_call 16; (with_reducible refine HP.out.mono ?_); rintro e6 w6 ⟨rfl, hd6⟩; have HDU6 := Lib.hid hd6; clear hd6)
    clear x1
    have HX6 := Lib.hid (HDU6.out.heap HX5.out HGN.out.1 HGN.out.2.1)
    go_wp2
    go_loopw [33] (fun i wr => ∃ j : Nat, j ≤ xl ∧ i = .int .i64 (j : Int) ∧ OwT oa l wr j ∧ TrN (fun k => oa = some ⟨k, 0, none⟩) w6 wr) (fun i _ => xl - (RowKit.intOf i).toNat)
    case atStart => exact ⟨0, by omega, rfl, HOT.out.1.keep (fun k hk => by obtain ⟨b1, b2, b3, -⟩ := HON.out k hk; exact HDU6.out.tr.block k b1 (fun h => h.elim b2 b3)), TrN.refl⟩
    case round =>
      obtain ⟨j, hj, rfl, hot, htr⟩ := hrel
      have HOT2 := Lib.hid hot
      have HTR := Lib.hid htr
      clear hot htr
      by_cases hlt : j < xl
      · have hji : (j : Int) < (xl : Int) := by omega
        obtain ⟨go, rfl, o1, o2⟩ := HOT2.out.cell (by rw [HXL.out]; exact hlt)
        have hoc : (j : Int) < (oc : Int) := by
          rcases HO5.out.2 with ⟨e, -⟩ | ⟨g, cap, cur, e, -, -, hnc, -⟩
          · injection e with e; cases e
          · injection e with e1 e2 e3; rw [e3]; have := HXL.out; omega
        have HLT := Lib.hid hlt
        obtain ⟨z8, hz8⟩ : ∃ z, by8 l j = z := ⟨_, rfl⟩
        rw [hz8] at o1
        clear hlt hz8
        go_wp2
        go_roundw
        case rel => exact ⟨j + 1, HLT.out, by go_num, HOT2.out.step _, HTR.out.set (.inl rfl)⟩
        case measure => simp [RowKit.intOf]; have := HLT.out; omega
      · obtain rfl : j = xl := by omega
        have HDU7 := Lib.hid (show Nu w2 F G q r s' st wr from HDU6.out.aside (w := w2) HTR.out (fun k hk => by obtain ⟨b1, b2, b3, b4⟩ := HON.out k hk; exact ⟨b1, b2, b3, (HOT.out.2.2 k hk).1⟩) HB25.out)
        have HBYR := Lib.hid (show Bys wr x j cx l from by
          have h1 := (HB.out.below HB5.out).trN (F := fun k => F k ∨ G k) (fun h0 b off e h => by obtain ⟨a1, a2⟩ := HBN.out h0 b off e; exact h.elim a1 a2) HDU6.out.tr
          exact h1.trN (F := fun k => oa = some ⟨k, 0, none⟩) (fun h0 b off e h => by
            have h3 := HB.out.blk_lt h0 e
            have h4 := (HON.out b h).2.2.2
            omega) HTR.out)
        have HQ2 := Lib.hid (nu_rsend HDU7.out HOK.out.1 HOK.out.2 frm HBYR.out)
        rw [HES.out.1, HES.out.2] at HQ2
        have hx7 := HDU7.out.heap HX2.out HGN.out.1 HGN.out.2.1
        have y1 : wr.cell? ⟨gx, 1, none⟩ = some (.int .i64 frm) := by rw [cell_of_row wr gx 1 _ _ (0, 0) hx7]; rfl
        have y2 : wr.cell? ⟨gx, 2, none⟩ = some (.slice x j cx) := by rw [cell_of_row wr gx 2 _ _ (0, 0) hx7]; rfl
        have hEE : (E == E) = true := by simp
        clear hx7
        go_wp2_with (go_at_call 23; (with_reducible refine HQ2.out.mono ?_); rintro e8 w8 ⟨rfl, hd8⟩; have HDU8 := Lib.hid hd8; clear hd8)
        go_ret
        exact ⟨rfl, HDU8.out.aside (T := fun _ => False) TrN.refl (fun k hk => hk.elim) HB2.out⟩
  · have hb0 : (kd == 0) = false := by simpa using hk0
    by_cases hk1 : kd = 1
    · subst hk1
      have hst : st.act ⟨1, frm, v9, l, i, at9, z⟩ = st.took i := by unfold Nt.act; simp
      obtain ⟨p9, hp9⟩ : ∃ z, (st.look i).1 = z := ⟨_, rfl⟩
      obtain ⟨E, hE⟩ : ∃ z, (st.look i).2 = z := ⟨_, rfl⟩
      have hs' : st.took i = s' := hst.symm.trans hsA
      have HP := Lib.hid (nu_take HDU.out HOK.out.1 HOK.out.2 i)
      have HQ := Lib.hid (fun (W : World) (F4 G4 : Nat → Prop) (h : Nu W F4 G4 q r s' st W) => nu_rtake h HOK.out.1 HOK.out.2 i)
      rw [hp9, hE, hs'] at HP HQ
      have hEE : (E == E) = true := by simp
      obtain ⟨pf, hpf⟩ : ∃ z, p9.frm = z := ⟨_, rfl⟩
      obtain ⟨tp, htp⟩ : ∃ z, text p9.s = z := ⟨_, rfl⟩
      have HPA := Lib.hid (show p9.arr = #[.int .i64 pf, .string tp] from by simp only [Pk.arr, hpf, htp])
      have HTX := Lib.hid (show (Value.int .i64 p9.frm = .int .i64 pf) ∧ (Value.string (text p9.s) = .string tp) from by rw [← hpf, ← htp]; exact ⟨rfl, rfl⟩)
      simp only [HPA.out] at HP HQ
      clear hst hE hs' hsA hp9 hpf htp a1 a2 a4 a5
      go_upto_region 13 with (go_at_call 17; (with_reducible refine HP.out.mono ?_); rintro e3 w3 ⟨rfl, hd3⟩; have HDU3 := Lib.hid hd3; clear hd3)
      clear a0 a3
      have HDU4 := Lib.hid (HDU3.out.below (alloc_below w3 (.cells #[.int .i64 pf, .string tp] 43)))
      have hp1 : PkB (w3.alloc (.cells #[.int .i64 pf, .string tp] 43)) w3.heap.size p9 := by unfold PkB; rw [HPA.out]; exact heap_alloc_new w3 _
      obtain ⟨F3, G3, hd3, hr3, hj3, hF3, hG3⟩ := HDU3.out.ex
      have hal := alloc_below w3 (.cells #[.int .i64 pf, .string tp] 43)
      have HS4 := Lib.hid (show Nu (w3.alloc (.cells #[.int .i64 pf, .string tp] 43)) F3 G3 q r s' st (w3.alloc (.cells #[.int .i64 pf, .string tp] 43)) ∧ ¬ F3 w3.heap.size ∧ ¬ G3 w3.heap.size from ⟨Nu.start (hd3.below hal) (hr3.below hal) hj3, fun h => by have := hd3.lt h; omega, fun h => by have := hr3.lt h; omega⟩)
      have HFG := Lib.hid (And.intro hF3 hG3)
      obtain ⟨B1, hB1⟩ : ∃ z, w3.heap.size = z := ⟨_, rfl⟩
      rw [hB1] at hp1 HS4 ⊢
      have HP1 := Lib.hid hp1
      clear hp1 hB1 hd3 hr3 hj3 hF3 hG3 hal
      generalize w3.alloc (.cells #[.int .i64 pf, .string tp] 43) = w4 at *
      have a3 := (HAC.out _ _ _ HDU4.out).2.2.2.1
      go_upto_region 14 with (go_at_call 24; (with_reducible refine (HQ.out w4 F3 G3 HS4.out.1).mono ?_); rintro e5 w5 ⟨rfl, hd5⟩; have HDU5 := Lib.hid hd5; clear hd5)
      clear a3
      have HP15 := Lib.hid (show PkB w5 B1 p9 from HDU5.out.heap HP1.out HS4.out.2.1 HS4.out.2.2)
      have hal := alloc_below w5 (.cells #[.int .i64 pf, .string tp] 43)
      have hp1 := HP15.out.kept hal
      have hp2 : PkB (w5.alloc (.cells #[.int .i64 pf, .string tp] 43)) w5.heap.size p9 := by unfold PkB; rw [HPA.out]; exact heap_alloc_new w5 _
      have HDU6 := Lib.hid (HDU5.out.below hal)
      obtain ⟨B2, hB2⟩ : ∃ z, w5.heap.size = z := ⟨_, rfl⟩
      rw [hB2] at hp2 ⊢
      have l0 := hp1.c0
      have l1 := hp1.c1
      have m0 := hp2.c0
      have m1 := hp2.c1
      rw [HTX.out.1] at l0 m0
      rw [HTX.out.2] at l1 m1
      clear hp1 hp2 hB2 hal
      generalize w5.alloc (.cells #[.int .i64 pf, .string tp] 43) = w6 at *
      have heq : (pf == pf && tp.toList == tp.toList) = true := by simp
      go_wp2
      go_ret
      refine ⟨rfl, ?_⟩
      obtain ⟨⟨F6, G6, h1, h2, h3, h4, h5⟩, ht6⟩ := HDU6.out
      have hs4 := HDU4.out.tr
      exact ⟨⟨F6, G6, h1, h2, h3, fun k hk => (h4 k hk).elim (fun h => (HFG.out.1 k h).imp id (fun h9 => Nat.le_trans HB2.out.size h9)) (fun h => .inr (Nat.le_trans HB2.out.size (Nat.le_trans hs4.size h))), fun k hk => (h5 k hk).elim (fun h => (HFG.out.2 k h).imp id (fun h9 => Nat.le_trans HB2.out.size h9)) (fun h => .inr (Nat.le_trans HB2.out.size (Nat.le_trans hs4.size h)))⟩,
        ((TrN.of HB2.out).then hs4).trans ht6 (fun k hk => hk.elim (fun h => (HFG.out.1 k h).imp .inl (fun h9 => Nat.le_trans HB2.out.size h9)) (fun h => (HFG.out.2 k h).imp .inr (fun h9 => Nat.le_trans HB2.out.size h9)))⟩
    · have hb1 : (kd == 1) = false := by simpa using hk1
      by_cases hk2 : kd = 2
      · subst hk2
        have hst : st.act ⟨2, frm, v9, l, i, at9, z⟩ = st.drop i := by unfold Nt.act; simp
        obtain ⟨E, hE⟩ : ∃ y9, (st.look i).2 = y9 := ⟨_, rfl⟩
        have hs' : st.drop i = s' := hst.symm.trans hsA
        have HP := Lib.hid (fun (s2 : Nt) (W : World) (h : Nu w2 F G q r st s2 W) => nu_drop h HOK.out.1 HOK.out.2 i)
        have HQ := Lib.hid (fun (s1 : Nt) (W : World) (h : Nu w2 F G q r s1 st W) => nu_rdrop h HOK.out.1 HOK.out.2 i)
        rw [hE, hs'] at HP HQ
        have hEE : (E == E) = true := by simp
        clear hst hE hs' hsA a1 a2 a3 a4 a5
        go_upto_region 16 with (fail)
        refine wp_region_inv [none, none, none, none, none, none, some 9, none, none, none, none, none, none, none, none, none, none, none, none, none, none, none, none, none, none, none, none, none, none, none, none, none, none, none, none, none, none, none, none, none, none, none, none, none, none, none, none, none, none, none, none, none, none, none, none, none, none, none, none, none, none, none, none, none, none, none, none, none, none, none, none, none, none, none, none, none, none, some 0, some 1, some 2, some 3, some 4, some 5, some 6, some 7, some 8, none, none, none, none, none, none, none, none, none, none, none, none, none, none, none, none, none, none, none, none, none, none, none, none, none, none, none, none, none, none, none, none, none, none, none, none, none, none, none, none, none, none, none, none, none, none, none, none, none, none, none, none] (fun i => [undef, undef, undef, undef, undef, undef, undef, undef, undef, .bool false].getD i undef) (NuI w2 F G q r st s' 3 7 10 [some (.pointer (some ⟨q, 0, none⟩)), some (.pointer (some ⟨gx, 3, none⟩)), some (.int .i64 i), some (.int .i64 E), some (.pointer (some ⟨r, 0, none⟩)), some (.pointer (some ⟨gx, 3, none⟩)), some (.int .i64 i), some (.int .i64 E), some (.bool true), some (.bool true)]) (by kernel_rfl) (by kernel_rfl) rfl rfl (fun L hL => ⟨by rw [if_neg (by rw [hL 3 (by decide)]; simp), if_neg (by rw [hL 7 (by decide)]; simp)]; exact HDU.out.below ⟨rfl, rfl, rfl, Nat.le_refl _, fun _ _ => rfl⟩, fun i hi h => by rw [hL i hi] at h; cases h⟩) ?_ ?_
        · simp only [invOps, and_true]
          refine ⟨?_, ?_, ?_, ?_, ?_, ?_, ?_, ?_, ?_, ?_⟩
          · intro L xs W hI hL hn
            simp only [flowAct, List.zipWith_cons_cons, List.zipWith_nil_left]
            go_wp2_with (fail)
            exact ⟨rfl, _, rfl, hI.pure 0 (by decide) (by decide) (fun x hx => by injection hx with hx)⟩
          · intro L xs W hI hL hn
            simp only [flowAct, List.zipWith_cons_cons, List.zipWith_nil_left]
            go_wp2_with (fail)
            exact ⟨rfl, _, rfl, hI.pure 1 (by decide) (by decide) (fun x hx => by injection hx with hx)⟩
          · intro L xs W hI hL hn
            simp [invNeeds, Region.binds] at hn
            have e1 : xs 1 = .pointer (some ⟨gx, 3, none⟩) := hI.2 1 (by decide) (by simp only [hn]) _ rfl
            obtain ⟨a0, a1, a2, a3, a4, a5⟩ := HAC.out _ _ _ hI.1
            simp only [flowAct, List.zipWith_cons_cons, List.zipWith_nil_left]
            simp only [e1]
            go_wp2_with (fail)
            exact ⟨rfl, _, rfl, hI.pure 2 (by decide) (by decide) (fun x hx => by injection hx with hx)⟩
          · intro L xs W hI hL hn
            simp [invNeeds, Region.binds] at hn
            have e0 : xs 0 = .pointer (some ⟨q, 0, none⟩) := hI.2 0 (by decide) (by simp only [hn]) _ rfl
            have e2 : xs 2 = .int .i64 i := hI.2 2 (by decide) (by simp only [hn]) _ rfl
            have hdu : Nu w2 F G q r st (if L 7 = true then s' else st) W := by have := hI.1; rwa [if_neg (by rw [hL]; simp)] at this
            have HDW := Lib.hid hdu
            clear hdu
            simp only [flowAct, List.zipWith_cons_cons, List.zipWith_nil_left]
            simp only [e0, e2]
            go_wp2_with (go_at_call 21; (with_reducible refine (HP.out _ _ HDW.out).mono ?_); rintro e9 w9 ⟨rfl, hd9⟩)
            exact ⟨rfl, _, rfl, hI.pa (by decide) (fun x hx => by injection hx with hx) hd9⟩
          · intro L xs W hI hL hn
            simp only [flowAct, List.zipWith_cons_cons, List.zipWith_nil_left]
            go_wp2_with (fail)
            exact ⟨rfl, _, rfl, hI.pure 4 (by decide) (by decide) (fun x hx => by injection hx with hx)⟩
          · intro L xs W hI hL hn
            simp only [flowAct, List.zipWith_cons_cons, List.zipWith_nil_left]
            go_wp2_with (fail)
            exact ⟨rfl, _, rfl, hI.pure 5 (by decide) (by decide) (fun x hx => by injection hx with hx)⟩
          · intro L xs W hI hL hn
            simp [invNeeds, Region.binds] at hn
            have e5 : xs 5 = .pointer (some ⟨gx, 3, none⟩) := hI.2 5 (by decide) (by simp only [hn]) _ rfl
            obtain ⟨a0, a1, a2, a3, a4, a5⟩ := HAC.out _ _ _ hI.1
            simp only [flowAct, List.zipWith_cons_cons, List.zipWith_nil_left]
            simp only [e5]
            go_wp2_with (fail)
            exact ⟨rfl, _, rfl, hI.pure 6 (by decide) (by decide) (fun x hx => by injection hx with hx)⟩
          · intro L xs W hI hL hn
            simp [invNeeds, Region.binds] at hn
            have e4 : xs 4 = .pointer (some ⟨r, 0, none⟩) := hI.2 4 (by decide) (by simp only [hn]) _ rfl
            have e6 : xs 6 = .int .i64 i := hI.2 6 (by decide) (by simp only [hn]) _ rfl
            have hdu : Nu w2 F G q r (if L 3 = true then s' else st) st W := by have := hI.1; rwa [if_neg (c := L 7 = true) (by rw [hL]; simp)] at this
            have HDW := Lib.hid hdu
            clear hdu
            simp only [flowAct, List.zipWith_cons_cons, List.zipWith_nil_left]
            simp only [e4, e6]
            go_wp2_with (go_at_call 25; (with_reducible refine (HQ.out _ _ HDW.out).mono ?_); rintro e9 w9 ⟨rfl, hd9⟩)
            exact ⟨rfl, _, rfl, hI.pb (by decide) (fun x hx => by injection hx with hx) hd9⟩
          · intro L xs W hI hL hn
            simp [invNeeds, Region.binds] at hn
            have e3 : xs 3 = .int .i64 E := hI.2 3 (by decide) (by simp only [hn]) _ rfl
            have e7 : xs 7 = .int .i64 E := hI.2 7 (by decide) (by simp only [hn]) _ rfl
            simp only [flowAct, List.zipWith_cons_cons, List.zipWith_nil_left]
            simp only [e3, e7]
            go_wp2_with (fail)
            exact ⟨rfl, _, rfl, hI.pure 8 (by decide) (by decide) (fun x hx => by injection hx with hx)⟩
          · intro L xs W hI hL hn
            simp [invNeeds, Region.binds] at hn
            have e8 : xs 8 = .bool true := hI.2 8 (by decide) (by simp only [hn]) _ rfl
            simp only [flowAct, List.zipWith_cons_cons, List.zipWith_nil_left]
            simp only [e8]
            go_wp2_with (fail)
            exact ⟨rfl, _, rfl, hI.pure 9 (by decide) (by decide) (fun x hx => by injection hx with hx)⟩
        · intro L xs W3 hI hL
          have hdu := hI.1
          rw [if_pos (hL 3 (by decide)), if_pos (hL 7 (by decide))] at hdu
          have x9 : xs 9 = .bool true := hI.2 9 (by decide) (hL 9 (by decide)) _ rfl
          have HDU3 := Lib.hid hdu
          simp only [flowAct, List.zipWith_cons_cons, List.zipWith_nil_left]
          simp only [x9]
          clear x9 hI hL hdu HP HQ
          go_wp2
          go_ret
          exact ⟨rfl, HDU3.out.aside (T := fun _ => False) TrN.refl (fun k hk => hk.elim) HB2.out⟩
      · have hb2 : (kd == 2) = false := by simpa using hk2
        by_cases hk3 : kd = 3
        · subst hk3
          have hst : st.act ⟨3, frm, v9, l, i, at9, z⟩ = (st.twice i).2 := by unfold Nt.act; simp
          obtain ⟨E, hE⟩ : ∃ y9, (st.twice i).1 = y9 := ⟨_, rfl⟩
          have hs' : (st.twice i).2 = s' := hst.symm.trans hsA
          have HP := Lib.hid (fun (s2 : Nt) (W : World) (h : Nu w2 F G q r st s2 W) => nu_twice h HOK.out.1 HOK.out.2 i)
          have HQ := Lib.hid (fun (s1 : Nt) (W : World) (h : Nu w2 F G q r s1 st W) => nu_rtwice h HOK.out.1 HOK.out.2 i)
          rw [hE, hs'] at HP HQ
          have hEE : (E == E) = true := by simp
          clear hst hE hs' hsA a1 a2 a3 a4 a5
          go_upto_region 18 with (fail)
          refine wp_region_inv [none, none, none, none, none, none, some 9, none, none, none, none, none, none, none, none, none, none, none, none, none, none, none, none, none, none, none, none, none, none, none, none, none, none, none, none, none, none, none, none, none, none, none, none, none, none, none, none, none, none, none, none, none, none, none, none, none, none, none, none, none, none, none, none, none, none, none, none, none, none, none, none, none, none, none, none, none, none, none, none, none, none, none, none, none, none, none, none, none, some 0, some 1, some 2, some 3, some 4, some 5, some 6, some 7, some 8, none, none, none, none, none, none, none, none, none, none, none, none, none, none, none, none, none, none, none, none, none, none, none, none, none, none, none, none, none, none, none, none, none, none, none, none, none, none, none, none, none] (fun i => [undef, undef, undef, undef, undef, undef, undef, undef, undef, .bool false].getD i undef) (NuI w2 F G q r st s' 3 7 10 [some (.pointer (some ⟨q, 0, none⟩)), some (.pointer (some ⟨gx, 3, none⟩)), some (.int .i64 i), some (.int .i64 E), some (.pointer (some ⟨r, 0, none⟩)), some (.pointer (some ⟨gx, 3, none⟩)), some (.int .i64 i), some (.int .i64 E), some (.bool true), some (.bool true)]) (by kernel_rfl) (by kernel_rfl) rfl rfl (fun L hL => ⟨by rw [if_neg (by rw [hL 3 (by decide)]; simp), if_neg (by rw [hL 7 (by decide)]; simp)]; exact HDU.out.below ⟨rfl, rfl, rfl, Nat.le_refl _, fun _ _ => rfl⟩, fun i hi h => by rw [hL i hi] at h; cases h⟩) ?_ ?_
          · simp only [invOps, and_true]
            refine ⟨?_, ?_, ?_, ?_, ?_, ?_, ?_, ?_, ?_, ?_⟩
            · intro L xs W hI hL hn
              simp only [flowAct, List.zipWith_cons_cons, List.zipWith_nil_left]
              go_wp2_with (fail)
              exact ⟨rfl, _, rfl, hI.pure 0 (by decide) (by decide) (fun x hx => by injection hx with hx)⟩
            · intro L xs W hI hL hn
              simp only [flowAct, List.zipWith_cons_cons, List.zipWith_nil_left]
              go_wp2_with (fail)
              exact ⟨rfl, _, rfl, hI.pure 1 (by decide) (by decide) (fun x hx => by injection hx with hx)⟩
            · intro L xs W hI hL hn
              simp [invNeeds, Region.binds] at hn
              have e1 : xs 1 = .pointer (some ⟨gx, 3, none⟩) := hI.2 1 (by decide) (by simp only [hn]) _ rfl
              obtain ⟨a0, a1, a2, a3, a4, a5⟩ := HAC.out _ _ _ hI.1
              simp only [flowAct, List.zipWith_cons_cons, List.zipWith_nil_left]
              simp only [e1]
              go_wp2_with (fail)
              exact ⟨rfl, _, rfl, hI.pure 2 (by decide) (by decide) (fun x hx => by injection hx with hx)⟩
            · intro L xs W hI hL hn
              simp [invNeeds, Region.binds] at hn
              have e0 : xs 0 = .pointer (some ⟨q, 0, none⟩) := hI.2 0 (by decide) (by simp only [hn]) _ rfl
              have e2 : xs 2 = .int .i64 i := hI.2 2 (by decide) (by simp only [hn]) _ rfl
              have hdu : Nu w2 F G q r st (if L 7 = true then s' else st) W := by have := hI.1; rwa [if_neg (by rw [hL]; simp)] at this
              have HDW := Lib.hid hdu
              clear hdu
              simp only [flowAct, List.zipWith_cons_cons, List.zipWith_nil_left]
              simp only [e0, e2]
              go_wp2_with (go_at_call 18; (with_reducible refine (HP.out _ _ HDW.out).mono ?_); rintro e9 w9 ⟨rfl, hd9⟩)
              exact ⟨rfl, _, rfl, hI.pa (by decide) (fun x hx => by injection hx with hx) hd9⟩
            · intro L xs W hI hL hn
              simp only [flowAct, List.zipWith_cons_cons, List.zipWith_nil_left]
              go_wp2_with (fail)
              exact ⟨rfl, _, rfl, hI.pure 4 (by decide) (by decide) (fun x hx => by injection hx with hx)⟩
            · intro L xs W hI hL hn
              simp only [flowAct, List.zipWith_cons_cons, List.zipWith_nil_left]
              go_wp2_with (fail)
              exact ⟨rfl, _, rfl, hI.pure 5 (by decide) (by decide) (fun x hx => by injection hx with hx)⟩
            · intro L xs W hI hL hn
              simp [invNeeds, Region.binds] at hn
              have e5 : xs 5 = .pointer (some ⟨gx, 3, none⟩) := hI.2 5 (by decide) (by simp only [hn]) _ rfl
              obtain ⟨a0, a1, a2, a3, a4, a5⟩ := HAC.out _ _ _ hI.1
              simp only [flowAct, List.zipWith_cons_cons, List.zipWith_nil_left]
              simp only [e5]
              go_wp2_with (fail)
              exact ⟨rfl, _, rfl, hI.pure 6 (by decide) (by decide) (fun x hx => by injection hx with hx)⟩
            · intro L xs W hI hL hn
              simp [invNeeds, Region.binds] at hn
              have e4 : xs 4 = .pointer (some ⟨r, 0, none⟩) := hI.2 4 (by decide) (by simp only [hn]) _ rfl
              have e6 : xs 6 = .int .i64 i := hI.2 6 (by decide) (by simp only [hn]) _ rfl
              have hdu : Nu w2 F G q r (if L 3 = true then s' else st) st W := by have := hI.1; rwa [if_neg (c := L 7 = true) (by rw [hL]; simp)] at this
              have HDW := Lib.hid hdu
              clear hdu
              simp only [flowAct, List.zipWith_cons_cons, List.zipWith_nil_left]
              simp only [e4, e6]
              go_wp2_with (go_at_call 26; (with_reducible refine (HQ.out _ _ HDW.out).mono ?_); rintro e9 w9 ⟨rfl, hd9⟩)
              exact ⟨rfl, _, rfl, hI.pb (by decide) (fun x hx => by injection hx with hx) hd9⟩
            · intro L xs W hI hL hn
              simp [invNeeds, Region.binds] at hn
              have e3 : xs 3 = .int .i64 E := hI.2 3 (by decide) (by simp only [hn]) _ rfl
              have e7 : xs 7 = .int .i64 E := hI.2 7 (by decide) (by simp only [hn]) _ rfl
              simp only [flowAct, List.zipWith_cons_cons, List.zipWith_nil_left]
              simp only [e3, e7]
              go_wp2_with (fail)
              exact ⟨rfl, _, rfl, hI.pure 8 (by decide) (by decide) (fun x hx => by injection hx with hx)⟩
            · intro L xs W hI hL hn
              simp [invNeeds, Region.binds] at hn
              have e8 : xs 8 = .bool true := hI.2 8 (by decide) (by simp only [hn]) _ rfl
              simp only [flowAct, List.zipWith_cons_cons, List.zipWith_nil_left]
              simp only [e8]
              go_wp2_with (fail)
              exact ⟨rfl, _, rfl, hI.pure 9 (by decide) (by decide) (fun x hx => by injection hx with hx)⟩
          · intro L xs W3 hI hL
            have hdu := hI.1
            rw [if_pos (hL 3 (by decide)), if_pos (hL 7 (by decide))] at hdu
            have x9 : xs 9 = .bool true := hI.2 9 (by decide) (hL 9 (by decide)) _ rfl
            have HDU3 := Lib.hid hdu
            simp only [flowAct, List.zipWith_cons_cons, List.zipWith_nil_left]
            simp only [x9]
            clear x9 hI hL hdu HP HQ
            go_wp2
            go_ret
            exact ⟨rfl, HDU3.out.aside (T := fun _ => False) TrN.refl (fun k hk => hk.elim) HB2.out⟩
        · have hb3 : (kd == 3) = false := by simpa using hk3
          by_cases hk4 : kd = 4
          · subst hk4
            have hst : st.act ⟨4, frm, v9, l, i, at9, z⟩ = (st.turn i at9 z).2 := by unfold Nt.act; simp
            obtain ⟨E, hE⟩ : ∃ y9, (st.turn i at9 z).1 = y9 := ⟨_, rfl⟩
            have hs' : (st.turn i at9 z).2 = s' := hst.symm.trans hsA
            have HP := Lib.hid (fun (s2 : Nt) (W : World) (h : Nu w2 F G q r st s2 W) => nu_turn h HOK.out.1 HOK.out.2 i at9 z HZ.out.1 HZ.out.2)
            have HQ := Lib.hid (fun (s1 : Nt) (W : World) (h : Nu w2 F G q r s1 st W) => nu_rturn h HOK.out.1 HOK.out.2 i at9 z HZ.out.1 HZ.out.2)
            rw [hE, hs'] at HP HQ
            have hEE : (E == E) = true := by simp
            clear hst hE hs' hsA a1 a2 a3 a4 a5
            go_upto_region 20 with (fail)
            refine wp_region_inv [none, none, none, none, none, none, some 17, none, none, none, none, none, none, none, none, none, none, none, none, none, none, none, none, none, none, none, none, none, none, none, none, none, none, none, none, none, none, none, none, none, none, none, none, none, none, none, none, none, none, none, none, none, none, none, none, none, none, none, none, none, none, none, none, none, none, none, none, none, none, none, none, none, none, none, none, none, none, none, none, none, none, none, none, none, none, none, none, none, none, none, none, none, none, none, none, none, none, none, none, some 0, some 1, some 2, some 3, some 4, some 5, some 6, some 7, some 8, some 9, some 10, some 11, some 12, some 13, some 14, some 15, some 16, none, none, none, none, none, none, none, none, none, none, none, none, none, none, none, none, none, none, none, none, none, none] (fun i => [undef, undef, undef, undef, undef, undef, undef, undef, undef, undef, undef, undef, undef, undef, undef, undef, undef, .bool false].getD i undef) (NuI w2 F G q r st s' 7 15 18 [some (.pointer (some ⟨q, 0, none⟩)), some (.pointer (some ⟨gx, 3, none⟩)), some (.int .i64 i), some (.pointer (some ⟨gx, 4, none⟩)), some (.int .i64 at9), some (.pointer (some ⟨gx, 5, none⟩)), some (.int .u8 z), some (.int .i64 E), some (.pointer (some ⟨r, 0, none⟩)), some (.pointer (some ⟨gx, 3, none⟩)), some (.int .i64 i), some (.pointer (some ⟨gx, 4, none⟩)), some (.int .i64 at9), some (.pointer (some ⟨gx, 5, none⟩)), some (.int .u8 z), some (.int .i64 E), some (.bool true), some (.bool true)]) (by kernel_rfl) (by kernel_rfl) rfl rfl (fun L hL => ⟨by rw [if_neg (by rw [hL 7 (by decide)]; simp), if_neg (by rw [hL 15 (by decide)]; simp)]; exact HDU.out.below ⟨rfl, rfl, rfl, Nat.le_refl _, fun _ _ => rfl⟩, fun i hi h => by rw [hL i hi] at h; cases h⟩) ?_ ?_
            · simp only [invOps, and_true]
              refine ⟨?_, ?_, ?_, ?_, ?_, ?_, ?_, ?_, ?_, ?_, ?_, ?_, ?_, ?_, ?_, ?_, ?_, ?_⟩
              · intro L xs W hI hL hn
                simp only [flowAct, List.zipWith_cons_cons, List.zipWith_nil_left]
                go_wp2_with (fail)
                exact ⟨rfl, _, rfl, hI.pure 0 (by decide) (by decide) (fun x hx => by injection hx with hx)⟩
              · intro L xs W hI hL hn
                simp only [flowAct, List.zipWith_cons_cons, List.zipWith_nil_left]
                go_wp2_with (fail)
                exact ⟨rfl, _, rfl, hI.pure 1 (by decide) (by decide) (fun x hx => by injection hx with hx)⟩
              · intro L xs W hI hL hn
                simp [invNeeds, Region.binds] at hn
                have e1 : xs 1 = .pointer (some ⟨gx, 3, none⟩) := hI.2 1 (by decide) (by simp only [hn]) _ rfl
                obtain ⟨a0, a1, a2, a3, a4, a5⟩ := HAC.out _ _ _ hI.1
                simp only [flowAct, List.zipWith_cons_cons, List.zipWith_nil_left]
                simp only [e1]
                go_wp2_with (fail)
                exact ⟨rfl, _, rfl, hI.pure 2 (by decide) (by decide) (fun x hx => by injection hx with hx)⟩
              · intro L xs W hI hL hn
                simp only [flowAct, List.zipWith_cons_cons, List.zipWith_nil_left]
                go_wp2_with (fail)
                exact ⟨rfl, _, rfl, hI.pure 3 (by decide) (by decide) (fun x hx => by injection hx with hx)⟩
              · intro L xs W hI hL hn
                simp [invNeeds, Region.binds] at hn
                have e3 : xs 3 = .pointer (some ⟨gx, 4, none⟩) := hI.2 3 (by decide) (by simp only [hn]) _ rfl
                obtain ⟨a0, a1, a2, a3, a4, a5⟩ := HAC.out _ _ _ hI.1
                simp only [flowAct, List.zipWith_cons_cons, List.zipWith_nil_left]
                simp only [e3]
                go_wp2_with (fail)
                exact ⟨rfl, _, rfl, hI.pure 4 (by decide) (by decide) (fun x hx => by injection hx with hx)⟩
              · intro L xs W hI hL hn
                simp only [flowAct, List.zipWith_cons_cons, List.zipWith_nil_left]
                go_wp2_with (fail)
                exact ⟨rfl, _, rfl, hI.pure 5 (by decide) (by decide) (fun x hx => by injection hx with hx)⟩
              · intro L xs W hI hL hn
                simp [invNeeds, Region.binds] at hn
                have e5 : xs 5 = .pointer (some ⟨gx, 5, none⟩) := hI.2 5 (by decide) (by simp only [hn]) _ rfl
                obtain ⟨a0, a1, a2, a3, a4, a5⟩ := HAC.out _ _ _ hI.1
                simp only [flowAct, List.zipWith_cons_cons, List.zipWith_nil_left]
                simp only [e5]
                go_wp2_with (fail)
                exact ⟨rfl, _, rfl, hI.pure 6 (by decide) (by decide) (fun x hx => by injection hx with hx)⟩
              · intro L xs W hI hL hn
                simp [invNeeds, Region.binds] at hn
                have e0 : xs 0 = .pointer (some ⟨q, 0, none⟩) := hI.2 0 (by decide) (by simp only [hn]) _ rfl
                have e2 : xs 2 = .int .i64 i := hI.2 2 (by decide) (by simp only [hn]) _ rfl
                have e4 : xs 4 = .int .i64 at9 := hI.2 4 (by decide) (by simp only [hn]) _ rfl
                have e6 : xs 6 = .int .u8 z := hI.2 6 (by decide) (by simp only [hn]) _ rfl
                have hdu : Nu w2 F G q r st (if L 15 = true then s' else st) W := by have := hI.1; rwa [if_neg (by rw [hL]; simp)] at this
                have HDW := Lib.hid hdu
                clear hdu
                simp only [flowAct, List.zipWith_cons_cons, List.zipWith_nil_left]
                simp only [e0, e2, e4, e6]
                go_wp2_with (go_at_call 19; (with_reducible refine (HP.out _ _ HDW.out).mono ?_); rintro e9 w9 ⟨rfl, hd9⟩)
                exact ⟨rfl, _, rfl, hI.pa (by decide) (fun x hx => by injection hx with hx) hd9⟩
              · intro L xs W hI hL hn
                simp only [flowAct, List.zipWith_cons_cons, List.zipWith_nil_left]
                go_wp2_with (fail)
                exact ⟨rfl, _, rfl, hI.pure 8 (by decide) (by decide) (fun x hx => by injection hx with hx)⟩
              · intro L xs W hI hL hn
                simp only [flowAct, List.zipWith_cons_cons, List.zipWith_nil_left]
                go_wp2_with (fail)
                exact ⟨rfl, _, rfl, hI.pure 9 (by decide) (by decide) (fun x hx => by injection hx with hx)⟩
              · intro L xs W hI hL hn
                simp [invNeeds, Region.binds] at hn
                have e9 : xs 9 = .pointer (some ⟨gx, 3, none⟩) := hI.2 9 (by decide) (by simp only [hn]) _ rfl
                obtain ⟨a0, a1, a2, a3, a4, a5⟩ := HAC.out _ _ _ hI.1
                simp only [flowAct, List.zipWith_cons_cons, List.zipWith_nil_left]
                simp only [e9]
                go_wp2_with (fail)
                exact ⟨rfl, _, rfl, hI.pure 10 (by decide) (by decide) (fun x hx => by injection hx with hx)⟩
              · intro L xs W hI hL hn
                simp only [flowAct, List.zipWith_cons_cons, List.zipWith_nil_left]
                go_wp2_with (fail)
                exact ⟨rfl, _, rfl, hI.pure 11 (by decide) (by decide) (fun x hx => by injection hx with hx)⟩
              · intro L xs W hI hL hn
                simp [invNeeds, Region.binds] at hn
                have e11 : xs 11 = .pointer (some ⟨gx, 4, none⟩) := hI.2 11 (by decide) (by simp only [hn]) _ rfl
                obtain ⟨a0, a1, a2, a3, a4, a5⟩ := HAC.out _ _ _ hI.1
                simp only [flowAct, List.zipWith_cons_cons, List.zipWith_nil_left]
                simp only [e11]
                go_wp2_with (fail)
                exact ⟨rfl, _, rfl, hI.pure 12 (by decide) (by decide) (fun x hx => by injection hx with hx)⟩
              · intro L xs W hI hL hn
                simp only [flowAct, List.zipWith_cons_cons, List.zipWith_nil_left]
                go_wp2_with (fail)
                exact ⟨rfl, _, rfl, hI.pure 13 (by decide) (by decide) (fun x hx => by injection hx with hx)⟩
              · intro L xs W hI hL hn
                simp [invNeeds, Region.binds] at hn
                have e13 : xs 13 = .pointer (some ⟨gx, 5, none⟩) := hI.2 13 (by decide) (by simp only [hn]) _ rfl
                obtain ⟨a0, a1, a2, a3, a4, a5⟩ := HAC.out _ _ _ hI.1
                simp only [flowAct, List.zipWith_cons_cons, List.zipWith_nil_left]
                simp only [e13]
                go_wp2_with (fail)
                exact ⟨rfl, _, rfl, hI.pure 14 (by decide) (by decide) (fun x hx => by injection hx with hx)⟩
              · intro L xs W hI hL hn
                simp [invNeeds, Region.binds] at hn
                have e8 : xs 8 = .pointer (some ⟨r, 0, none⟩) := hI.2 8 (by decide) (by simp only [hn]) _ rfl
                have e10 : xs 10 = .int .i64 i := hI.2 10 (by decide) (by simp only [hn]) _ rfl
                have e12 : xs 12 = .int .i64 at9 := hI.2 12 (by decide) (by simp only [hn]) _ rfl
                have e14 : xs 14 = .int .u8 z := hI.2 14 (by decide) (by simp only [hn]) _ rfl
                have hdu : Nu w2 F G q r (if L 7 = true then s' else st) st W := by have := hI.1; rwa [if_neg (c := L 15 = true) (by rw [hL]; simp)] at this
                have HDW := Lib.hid hdu
                clear hdu
                simp only [flowAct, List.zipWith_cons_cons, List.zipWith_nil_left]
                simp only [e8, e10, e12, e14]
                go_wp2_with (go_at_call 27; (with_reducible refine (HQ.out _ _ HDW.out).mono ?_); rintro e9 w9 ⟨rfl, hd9⟩)
                exact ⟨rfl, _, rfl, hI.pb (by decide) (fun x hx => by injection hx with hx) hd9⟩
              · intro L xs W hI hL hn
                simp [invNeeds, Region.binds] at hn
                have e7 : xs 7 = .int .i64 E := hI.2 7 (by decide) (by simp only [hn]) _ rfl
                have e15 : xs 15 = .int .i64 E := hI.2 15 (by decide) (by simp only [hn]) _ rfl
                simp only [flowAct, List.zipWith_cons_cons, List.zipWith_nil_left]
                simp only [e7, e15]
                go_wp2_with (fail)
                exact ⟨rfl, _, rfl, hI.pure 16 (by decide) (by decide) (fun x hx => by injection hx with hx)⟩
              · intro L xs W hI hL hn
                simp [invNeeds, Region.binds] at hn
                have e16 : xs 16 = .bool true := hI.2 16 (by decide) (by simp only [hn]) _ rfl
                simp only [flowAct, List.zipWith_cons_cons, List.zipWith_nil_left]
                simp only [e16]
                go_wp2_with (fail)
                exact ⟨rfl, _, rfl, hI.pure 17 (by decide) (by decide) (fun x hx => by injection hx with hx)⟩
            · intro L xs W3 hI hL
              have hdu := hI.1
              rw [if_pos (hL 7 (by decide)), if_pos (hL 15 (by decide))] at hdu
              have x9 : xs 17 = .bool true := hI.2 17 (by decide) (hL 17 (by decide)) _ rfl
              have HDU3 := Lib.hid hdu
              simp only [flowAct, List.zipWith_cons_cons, List.zipWith_nil_left]
              simp only [x9]
              clear x9 hI hL hdu HP HQ
              go_wp2
              go_ret
              exact ⟨rfl, HDU3.out.aside (T := fun _ => False) TrN.refl (fun k hk => hk.elim) HB2.out⟩
          · have hb4 : (kd == 4) = false := by simpa using hk4
            have hst : st.act ⟨kd, frm, v9, l, i, at9, z⟩ = st := by unfold Nt.act; simp [hk0, hk1, hk2, hk3, hk4]
            obtain ⟨p9, hp9⟩ : ∃ z, (st.look i).1 = z := ⟨_, rfl⟩
            obtain ⟨E, hE⟩ : ∃ z, (st.look i).2 = z := ⟨_, rfl⟩
            have hs' : st = s' := hst.symm.trans hsA
            subst hs'
            have HP := Lib.hid (nu_look HDU.out HOK.out.1 i)
            have HQ := Lib.hid (fun (W : World) (F4 G4 : Nat → Prop) (h : Nu W F4 G4 q r st st W) => nu_rlook h i)
            rw [hp9, hE] at HP HQ
            have hEE : (E == E) = true := by simp
            obtain ⟨pf, hpf⟩ : ∃ z, p9.frm = z := ⟨_, rfl⟩
            obtain ⟨tp, htp⟩ : ∃ z, text p9.s = z := ⟨_, rfl⟩
            have HPA := Lib.hid (show p9.arr = #[.int .i64 pf, .string tp] from by simp only [Pk.arr, hpf, htp])
            have HTX := Lib.hid (show (Value.int .i64 p9.frm = .int .i64 pf) ∧ (Value.string (text p9.s) = .string tp) from by rw [← hpf, ← htp]; exact ⟨rfl, rfl⟩)
            simp only [HPA.out] at HP HQ
            clear hst hE hsA hp9 hpf htp a1 a2 a4 a5
            go_upto_region 22 with (go_at_call 20; (with_reducible refine HP.out.mono ?_); rintro e3 w3 ⟨rfl, hd3⟩; have HDU3 := Lib.hid hd3; clear hd3)
            clear a0 a3
            have HDU4 := Lib.hid (HDU3.out.below (alloc_below w3 (.cells #[.int .i64 pf, .string tp] 43)))
            have hp1 : PkB (w3.alloc (.cells #[.int .i64 pf, .string tp] 43)) w3.heap.size p9 := by unfold PkB; rw [HPA.out]; exact heap_alloc_new w3 _
            obtain ⟨F3, G3, hd3, hr3, hj3, hF3, hG3⟩ := HDU3.out.ex
            have hal := alloc_below w3 (.cells #[.int .i64 pf, .string tp] 43)
            have HS4 := Lib.hid (show Nu (w3.alloc (.cells #[.int .i64 pf, .string tp] 43)) F3 G3 q r st st (w3.alloc (.cells #[.int .i64 pf, .string tp] 43)) ∧ ¬ F3 w3.heap.size ∧ ¬ G3 w3.heap.size from ⟨Nu.start (hd3.below hal) (hr3.below hal) hj3, fun h => by have := hd3.lt h; omega, fun h => by have := hr3.lt h; omega⟩)
            have HFG := Lib.hid (And.intro hF3 hG3)
            obtain ⟨B1, hB1⟩ : ∃ z, w3.heap.size = z := ⟨_, rfl⟩
            rw [hB1] at hp1 HS4 ⊢
            have HP1 := Lib.hid hp1
            clear hp1 hB1 hd3 hr3 hj3 hF3 hG3 hal
            generalize w3.alloc (.cells #[.int .i64 pf, .string tp] 43) = w4 at *
            have a3 := (HAC.out _ _ _ HDU4.out).2.2.2.1
            go_upto_region 23 with (go_at_call 28; (with_reducible refine (HQ.out w4 F3 G3 HS4.out.1).mono ?_); rintro e5 w5 ⟨rfl, hd5⟩; have HDU5 := Lib.hid hd5; clear hd5)
            clear a3
            have HP15 := Lib.hid (show PkB w5 B1 p9 from HDU5.out.heap HP1.out HS4.out.2.1 HS4.out.2.2)
            have hal := alloc_below w5 (.cells #[.int .i64 pf, .string tp] 43)
            have hp1 := HP15.out.kept hal
            have hp2 : PkB (w5.alloc (.cells #[.int .i64 pf, .string tp] 43)) w5.heap.size p9 := by unfold PkB; rw [HPA.out]; exact heap_alloc_new w5 _
            have HDU6 := Lib.hid (HDU5.out.below hal)
            obtain ⟨B2, hB2⟩ : ∃ z, w5.heap.size = z := ⟨_, rfl⟩
            rw [hB2] at hp2 ⊢
            have l0 := hp1.c0
            have l1 := hp1.c1
            have m0 := hp2.c0
            have m1 := hp2.c1
            rw [HTX.out.1] at l0 m0
            rw [HTX.out.2] at l1 m1
            clear hp1 hp2 hB2 hal
            generalize w5.alloc (.cells #[.int .i64 pf, .string tp] 43) = w6 at *
            have heq : (pf == pf && tp.toList == tp.toList) = true := by simp
            go_wp2
            go_ret
            refine ⟨rfl, ?_⟩
            obtain ⟨⟨F6, G6, h1, h2, h3, h4, h5⟩, ht6⟩ := HDU6.out
            have hs4 := HDU4.out.tr
            exact ⟨⟨F6, G6, h1, h2, h3, fun k hk => (h4 k hk).elim (fun h => (HFG.out.1 k h).imp id (fun h9 => Nat.le_trans HB2.out.size h9)) (fun h => .inr (Nat.le_trans HB2.out.size (Nat.le_trans hs4.size h))), fun k hk => (h5 k hk).elim (fun h => (HFG.out.2 k h).imp id (fun h9 => Nat.le_trans HB2.out.size h9)) (fun h => .inr (Nat.le_trans HB2.out.size (Nat.le_trans hs4.size h)))⟩,
              ((TrN.of HB2.out).then hs4).trans ht6 (fun k hk => hk.elim (fun h => (HFG.out.1 k h).imp .inl (fun h9 => Nat.le_trans HB2.out.size h9)) (fun h => (HFG.out.2 k h).imp .inr (fun h9 => Nat.le_trans HB2.out.size h9)))⟩
end Go.Proofs.Ytngfohedddcboaa
