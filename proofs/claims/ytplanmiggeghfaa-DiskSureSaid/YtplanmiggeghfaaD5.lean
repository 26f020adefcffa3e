/-
  Disk: the program's closures; operate.
-/
import Derived.Test.YtplanmiggeghfaaD4
import Derived.Test.YtplanmiggeghfaaDU
import Derived.Deep.RegionWith
namespace Go.Proofs.Ytplanmiggeghfaa
open Go.RowKit Go Go.Sort Go.Maps Go.WideMaps
set_option linter.unusedVariables false
set_option maxRecDepth 20000

def insL (x : Fl) : List Fl → List Fl
  | [] => [x]
  | y :: r => if Op.bytesLess x.f.nm y.f.nm then x :: y :: r else y :: insL x r
theorem insL_map (x : Fl) : ∀ FS : List Fl, (insL x FS).map Fl.f = insF x.f (FS.map Fl.f)
  | [] => rfl
  | y :: r => by
    unfold insL
    simp only [List.map_cons]
    unfold insF
    split
    · rfl
    · simp [insL_map x r]
theorem insL_mem {x y : Fl} : ∀ {FS : List Fl}, y ∈ insL x FS ↔ y = x ∨ y ∈ FS
  | [] => by simp [insL]
  | z :: r => by
    unfold insL
    split
    · simp
    · rw [List.mem_cons, insL_mem (FS := r), List.mem_cons]; exact ⟨fun h => by rcases h with h | h | h <;> simp [h], fun h => by rcases h with h | h | h <;> simp [h]⟩
theorem insL_len (x : Fl) : ∀ FS : List Fl, (insL x FS).length = FS.length + 1
  | [] => rfl
  | y :: r => by
    unfold insL
    split
    · rfl
    · simp [insL_len x r]
theorem insL_pair {R : Fl → Fl → Prop} {x : Fl} (hs : ∀ a b, R a b → R b a) : ∀ {FS : List Fl}, FS.Pairwise R → (∀ y ∈ FS, R x y) → (insL x FS).Pairwise R
  | [], _, _ => by simp [insL]
  | y :: r, h, hx => by
    unfold insL
    split
    · exact List.pairwise_cons.2 ⟨hx, h⟩
    · rw [List.pairwise_cons] at h ⊢
      refine ⟨fun z hz => ?_, insL_pair hs h.2 fun z hz => hx z (by simp [hz])⟩
      rcases insL_mem.1 hz with rfl | hz
      · exact hs _ _ (hx y (by simp))
      · exact h.1 z hz
theorem insF_asc {f : Fi} : ∀ {F : List Fi}, F.Pairwise (fun a b => Op.bytesLess a.nm b.nm = true) → (∀ y ∈ F, y.nm ≠ f.nm) → (insF f F).Pairwise (fun a b => Op.bytesLess a.nm b.nm = true)
  | [], _, _ => by simp [insF]
  | y :: r, h, hx => by
    have h9 := List.pairwise_cons.1 h
    unfold insF
    split
    · rename_i hl
      refine List.pairwise_cons.2 ⟨fun z hz => ?_, h⟩
      rcases List.mem_cons.1 hz with rfl | hz
      · exact hl
      · exact less_trans hl (h9.1 z hz)
    · rename_i hl
      have hm : ∀ z, z ∈ insF f r → z = f ∨ z ∈ r := fun z hz => by
        have : ∀ F : List Fi, z ∈ insF f F → z = f ∨ z ∈ F := fun F => by
          induction F with
          | nil => intro h; simpa [insF] using h
          | cons a b ih =>
            intro h
            unfold insF at h
            split at h
            · simpa using h
            · rcases List.mem_cons.1 h with h | h
              · exact .inr (by simp [h])
              · rcases ih h with h | h
                · exact .inl h
                · exact .inr (by simp [h])
        exact this r hz
      refine List.pairwise_cons.2 ⟨fun z hz => ?_, insF_asc h9.2 fun z hz => hx z (by simp [hz])⟩
      rcases hm z hz with rfl | hz
      · rcases less_tri z.nm y.nm with h1 | h1 | h1
        · exact absurd h1 hl
        · exact absurd h1.symm (hx y (by simp))
        · exact h1
      · exact h9.1 z hz
theorem mapL_ins (x : Fl) : ∀ FS : List Fl, DataW.insert (.string x.f.nm, .lit (.int .i64 (x.g : Int))) (mapL FS) = mapL (insL x FS)
  | [] => rfl
  | y :: r => by
    unfold insL mapL
    simp only [List.map_cons]
    unfold DataW.insert
    simp only [Lit.before, before_less]
    split
    · rfl
    · have := mapL_ins x r
      unfold mapL at this
      rw [this]; rfl
theorem mapD_put {x : Fl} {FS : List Fl} (h : ∀ y ∈ FS, y.f.nm ≠ x.f.nm) : (mapD FS).put (.string x.f.nm) (.lit (.int .i64 (x.g : Int))) = mapD (insL x FS) := by
  have e : (mapL FS).filter (fun p => !p.1.sameKey (.string x.f.nm)) = mapL FS := by
    rw [List.filter_eq_self]
    intro p hp
    obtain ⟨y, hy, rfl⟩ := List.mem_map.1 hp
    have := h y hy
    simp [Lit.sameKey, this]
  unfold mapD DataW.put
  simp only [e, mapL_ins]
theorem mapD_del (nm : List UInt8) (FS : List Fl) : (mapD FS).del (.string nm) = mapD (FS.filter (fun x => !(x.f.nm == nm))) := by
  unfold mapD DataW.del mapL
  simp only [List.filter_map]
  rfl
theorem owns_tight {W : World} {m n : Nat} {D : DataW Unit} (h : W.ownsMap Try.prog 9 ptrElem m n D) : W.ownsMap Try.prog 9 ptrElem m (Maps.size D) D := by
  obtain ⟨es, clock, hb, F, hs, rfl⟩ := h
  exact ⟨es, clock, hb, F, by rw [Maps.size_eq, length_sorted]; simp, rfl⟩
theorem var_c {W : World} {b : Nat} {v : Value} {ty : TypeId} (h : W.heap[b]? = some (.cells #[v] ty (0, 0))) : W.cell? ⟨b, 0, none⟩ = some v := by rw [cell_of_row W b 0 _ ty (0, 0) h]; rfl
theorem heapB {W W' : World} {q : Nat} {o : Obj} (h : W.heap[q]? = some o) (hb : Below W.heap.size W W') : W'.heap[q]? = some o := (hb.block _ (Array.getElem?_eq_some_iff.1 h).1).trans h
theorem lookF_none {F : List Fi} {nm : List UInt8} (h : lookF F nm = none) : ∀ y ∈ F, y.nm ≠ nm := fun y hy e => by
  unfold lookF at h
  rw [List.find?_eq_none] at h
  exact h y hy (by simp [e])
theorem dmake_done {w W w3 : World} {q m g : Nat} {pv : Value} {FS : List Fl} {st : Ds} {nm : List UInt8} (h : DiskIn w q m pv FS st) (hW : Below w.heap.size w W) (hg : w.heap.size ≤ g) (hbx : W.heap[g]? = some (.cells #[.slice none 0 0, .int .i64 0] 98 (0, 0)))
    (hown : w3.ownsMap Try.prog 9 ptrElem m (FS.length + 1) ((mapD FS).put (.string nm) (.lit (.int .i64 (g : Int))))) (hgr : W.grownBy w3 (some m)) (hab : ∀ x ∈ FS, x.f.nm ≠ nm) (hgn : goodNm nm = true) (hln : FS.length < 64) :
    FPost q m pv FS st (insF ⟨nm, [], 0⟩) w (.returned (.tuple #[])) w3 := by
  obtain ⟨k1, k2, k3, k4, k5, k6⟩ := h.kinds
  have hml := h.lt (k := m) (.inr (.inl rfl))
  have hk : ∀ k, k < w.heap.size → k ≠ m → w3.heap[k]? = w.heap[k]? := fun k hk hne => (hgr.block k (Nat.lt_of_lt_of_le hk hW.size) (by simpa using hne)).trans (hW.block k hk)
  have hgl := (Array.getElem?_eq_some_iff.1 hbx).1
  have hbx3 : w3.heap[g]? = some (.cells #[.slice none 0 0, .int .i64 0] 98 (0, 0)) := (hgr.block g hgl (by simp; omega)).trans hbx
  have hd := mapD_put (x := ⟨g, .slice none 0 0, ⟨nm, [], 0⟩⟩) (FS := FS) hab
  rw [hd] at hown
  have hmem : ∀ y, y ∈ insL ⟨g, .slice none 0 0, ⟨nm, [], 0⟩⟩ FS → y = ⟨g, .slice none 0 0, ⟨nm, [], 0⟩⟩ ∨ y ∈ FS := fun y => insL_mem.1
  have hln2 : 1 ≤ nm.length ∧ nm.length ≤ 24 := by
    unfold goodNm at hgn
    simp only [Bool.and_eq_true, decide_eq_true_eq] at hgn
    exact hgn.1
  refine ⟨rfl, insL ⟨g, .slice none 0 0, ⟨nm, [], 0⟩⟩ FS, ⟨(hk q (h.lt (.inl rfl)) k1).trans h.head, ?_, ?_, ⟨fun y hy => ?_, fun y hy => ?_, ?_⟩, ?_, ?_⟩, ⟨hgr.os.trans hW.os, hgr.tape.trans hW.tape, hgr.output.trans hW.output, Nat.le_trans hW.size hgr.size, fun k hk9 hn => hk k hk9 (fun e => hn (.inr (.inl e)))⟩, fun k hk9 => ?_⟩
  · rcases h.plan with h1 | ⟨h1, gp, h2, h3⟩
    · exact .inl h1
    · exact .inr ⟨h1, gp, h2, (hk gp (h.lt (.inr (.inr (.inl h2)))) (fun e => k3 (by rw [h2, e]))).trans h3⟩
  · rw [insL_len]; exact hown
  · rcases hmem y hy with rfl | hy
    · exact hbx3
    · exact (hk _ (h.fb.lt hy).1 (k4 y hy).2.1).trans (h.fb.box y hy)
  · rcases hmem y hy with rfl | hy
    · exact World.ownsRow_nil _ _ _ _
    · exact (h.fb.own y hy).of_blk fun k hk9 => hk k ((h.fb.lt hy).2 k hk9) (fun e => (k4 y hy).2.2.2.2 (e ▸ hk9))
  · exact insL_pair (R := fun a b => a.g ≠ b.g ∧ ∀ k, a.v.ownBlock = some k → b.v.ownBlock ≠ some k) (fun a b hab => ⟨Ne.symm hab.1, fun k h1 h2 => hab.2 k h2 h1⟩) h.fb.apart (fun y hy => ⟨by have := (h.fb.lt hy).1; show g ≠ y.g; omega, fun k h1 => (by cases h1)⟩)
  · rw [insL_map, h.pr]
  · have ok := h.ok
    have hab2 : ∀ y ∈ st.F, y.nm ≠ nm := fun y hy => by
      rw [← h.pr] at hy
      obtain ⟨x, hx, rfl⟩ := List.mem_map.1 hy
      exact hab x hx
    have e1 : insF ⟨nm, [], 0⟩ st.F = (insL ⟨g, .slice none 0 0, ⟨nm, [], 0⟩⟩ FS).map Fl.f := by rw [insL_map, h.pr]
    refine ⟨?_, fun f hf => ?_, insF_asc ok.asc hab2, ok.pn, ok.room⟩
    · show (insF _ _).length ≤ 64
      rw [e1, List.length_map, insL_len]; omega
    · change f ∈ insF _ _ at hf
      rw [e1] at hf
      obtain ⟨x, hx, rfl⟩ := List.mem_map.1 hf
      rcases hmem x hx with rfl | hx
      · exact ⟨by simp, by simp, hln2.2⟩
      · exact ok.each x.f (by rw [← h.pr]; exact List.mem_map.2 ⟨x, hx, rfl⟩)
  · rcases hk9 with h1 | h1 | h1 | ⟨y, hy, h1⟩
    · exact .inl (.inl h1)
    · exact .inl (.inr (.inl h1))
    · exact .inl (.inr (.inr (.inl h1)))
    · rcases hmem y hy with rfl | hy
      · rcases h1 with h1 | h1
        · exact .inr (by rw [h1]; exact hg)
        · cases h1
      · exact .inl (.inr (.inr (.inr ⟨y, hy, h1⟩)))
set_option maxRecDepth 100000 in
set_option maxHeartbeats 3200000 in
theorem dmake1_c {w : World} {q m b0 b1 : Nat} {pv : Value} {FS : List Fl} {st : Ds} {nm : List UInt8} (h : DiskIn w q m pv FS st) (h0 : w.heap[b0]? = some (.cells #[.pointer (some ⟨q, 0, none⟩)] 23 (0, 0))) (h1 : w.heap[b1]? = some (.cells #[.string (text nm)] 9 (0, 0)))
    (hab : ∀ x ∈ FS, x.f.nm ≠ nm) (hgn : goodNm nm = true) (hln : FS.length < 64) : Calls Try.prog 68 #[.pointer (some ⟨b0, 0, none⟩), .pointer (some ⟨b1, 0, none⟩)] w (FPost q m pv FS st (insF ⟨nm, [], 0⟩) w) := by
  have hkey := key_textD nm (by unfold goodNm at hgn; simp only [Bool.and_eq_true, decide_eq_true_eq] at hgn; omega)
  obtain ⟨s, hs⟩ : ∃ s, text nm = s := ⟨_, rfl⟩
  rw [hs] at hkey h1
  have HKEY := Lib.hid hkey
  have HD := Lib.hid h
  have HV := Lib.hid (fun W (hW : Below w.heap.size w W) => And.intro (var_c (heapB h0 hW)) (var_c (heapB h1 hW)))
  have HAB := Lib.hid hab
  have HGN := Lib.hid hgn
  have HLN := Lib.hid hln
  clear hkey h h0 h1 hab hgn hln hs
  go_enter Try.func68, Try.ntmps68
  go_wp2
  refine wp_region_flow_tail 7 [none, none, some 0, some 1, some 2, some 3, some 4, some 5, some 6] (fun i => [undef, undef, undef, undef, undef, undef, undef].getD i undef) [(fun v _ => v = .pointer (some ⟨q, 0, none⟩)), (fun v _ => v = .pointer (some ⟨q, 0, none⟩)), (fun v _ => v = .pointer (some ⟨q, 0, none⟩)), (fun v _ => v = .map (some m)), (fun v _ => v = .string s), (fun v _ => v = .agg #[.slice none 0 0, .int .i64 0]), (fun v W => ∃ g, v = .pointer (some ⟨g, 0, none⟩) ∧ w.heap.size ≤ g ∧ W.heap[g]? = some (.cells #[.slice none 0 0, .int .i64 0] 98 (0, 0)))] (fun _ => False) (by kernel_rfl) (by kernel_rfl) (by kernel_rfl) rfl rfl rfl ?_ ?_ ?_
  · intro g hg v X Y hX hY hv
    simp only [List.mem_cons, List.not_mem_nil, or_false] at hg
    rcases hg with rfl | rfl | rfl | rfl | rfl | rfl | rfl
    all_goals first
      | exact hv
      | (obtain ⟨g, h1, h2, h3⟩ := hv; exact ⟨g, h1, h2, heapB h3 hY⟩)
  · simp only [flowOpsF, List.take_succ_cons, List.take_zero, and_true]
    refine ⟨?_, ?_, ?_, ?_, ?_, ?_, ?_⟩
    · intro xs W hW hn9
      obtain ⟨v0, v1⟩ := HV.out W hW
      simp only [flowAct, List.zipWith_cons_cons, List.zipWith_nil_left]
      go_wp2_with (fail)
      exact ⟨rfl, _, rfl, Below.refl _ _, rfl, fun h => h.elim⟩
    · intro xs W hW hn9
      simp [flowNeeds, Region.binds] at hn9
      simp only [flowAct, List.zipWith_cons_cons, List.zipWith_nil_left]
      try simp only [hn9]
      go_wp2_with (fail)
      exact ⟨rfl, _, rfl, Below.refl _ _, rfl, fun h => h.elim⟩
    · intro xs W hW hn9
      simp [flowNeeds, Region.binds] at hn9
      simp only [flowAct, List.zipWith_cons_cons, List.zipWith_nil_left]
      try simp only [hn9]
      go_wp2_with (fail)
      exact ⟨rfl, _, rfl, Below.refl _ _, rfl, fun h => h.elim⟩
    · intro xs W hW hn9
      have c0 := (HD.out.below hW).cs.1
      simp [flowNeeds, Region.binds] at hn9
      simp only [flowAct, List.zipWith_cons_cons, List.zipWith_nil_left]
      try simp only [hn9]
      go_wp2_with (fail)
      exact ⟨rfl, _, rfl, Below.refl _ _, rfl, fun h => h.elim⟩
    · intro xs W hW hn9
      obtain ⟨v0, v1⟩ := HV.out W hW
      simp only [flowAct, List.zipWith_cons_cons, List.zipWith_nil_left]
      go_wp2_with (fail)
      exact ⟨rfl, _, rfl, Below.refl _ _, rfl, fun h => h.elim⟩
    · intro xs W hW hn9
      simp only [flowAct, List.zipWith_cons_cons, List.zipWith_nil_left]
      go_wp2_with (fail)
      exact ⟨rfl, _, rfl, Below.refl _ _, rfl, fun h => h.elim⟩
    · intro xs W hW hn9
      simp [flowNeeds, Region.binds] at hn9
      simp only [flowAct, List.zipWith_cons_cons, List.zipWith_nil_left]
      try simp only [hn9]
      go_wp2_with (fail)
      exact ⟨rfl, _, rfl, alloc_below _ _, ⟨_, rfl, hW.size, heap_alloc_new _ _⟩, fun h => h.elim⟩
  · intro xs W hW hall hfr
    clear hfr
    simp only [flowAll, and_true, Nat.zero_add, Nat.reduceAdd] at hall
    obtain ⟨-, -, -, a3, a4, -, ⟨g, a6, hg1, hg2⟩⟩ := hall
    simp only [flowAct, List.zipWith_cons_cons, List.zipWith_nil_left, List.drop_succ_cons, List.drop_zero]
    simp only [a3, a4, a6]
    clear a3 a4 a6
    have HW := Lib.hid hW
    have HX := Lib.hid (And.intro hg1 hg2)
    have HM := Lib.hid (HD.out.below hW).map
    clear hW hg1 hg2
    go_wp2_with (at_mapUpdate; refine wpList_mapUpdate_own _ rfl _ _ _ 82 rfl 9 94 klawD Try.underlying82 ptrElem m FS.length (mapD FS) rfl HM.out (by have := HLN.out; unfold maxLen; omega) _ _ (.string nm) rfl rfl HKEY.out (.lit (.int .i64 (g : Int))) [] rfl ?_; intro w3 hown3 hgrow3)
    refine bodyPost_end (results_none rfl _ _ _) rfl ?_
    exact dmake_done HD.out HW.out HX.out.1 HX.out.2 hown3 hgrow3 HAB.out HGN.out HLN.out
theorem ddrop_done {w W w3 : World} {q m : Nat} {pv : Value} {FS : List Fl} {st : Ds} {nm : List UInt8} (h : DiskIn w q m pv FS st) (hW : Below w.heap.size w W)
    (hown : w3.ownsMap Try.prog 9 ptrElem m FS.length ((mapD FS).del (.string nm))) (hgr : W.grownBy w3 (some m)) : FPost q m pv FS st (delF nm) w (.returned (.tuple #[])) w3 := by
  obtain ⟨k1, k2, k3, k4, k5, k6⟩ := h.kinds
  have hk : ∀ k, k < w.heap.size → k ≠ m → w3.heap[k]? = w.heap[k]? := fun k hk hne => (hgr.block k (Nat.lt_of_lt_of_le hk hW.size) (by simpa using hne)).trans (hW.block k hk)
  rw [mapD_del] at hown
  have hown2 := owns_tight hown
  have hsz : Maps.size (mapD (FS.filter (fun x => !(x.f.nm == nm)))) = (FS.filter (fun x => !(x.f.nm == nm))).length := by unfold mapD Maps.size mapL; simp
  rw [hsz] at hown2
  have hmem : ∀ y, y ∈ FS.filter (fun x => !(x.f.nm == nm)) → y ∈ FS := fun y hy => (List.mem_filter.1 hy).1
  have e1 : delF nm st.F = (FS.filter (fun x => !(x.f.nm == nm))).map Fl.f := by
    unfold delF
    rw [← h.pr, List.filter_map]
    rfl
  refine ⟨rfl, FS.filter (fun x => !(x.f.nm == nm)), ⟨(hk q (h.lt (.inl rfl)) k1).trans h.head, ?_, hown2, ⟨fun y hy => ?_, fun y hy => ?_, h.fb.apart.filter _⟩, e1.symm, ?_⟩, ⟨hgr.os.trans hW.os, hgr.tape.trans hW.tape, hgr.output.trans hW.output, Nat.le_trans hW.size hgr.size, fun k hk9 hn => hk k hk9 (fun e => hn (.inr (.inl e)))⟩, fun k hk9 => ?_⟩
  · rcases h.plan with h1 | ⟨h1, gp, h2, h3⟩
    · exact .inl h1
    · exact .inr ⟨h1, gp, h2, (hk gp (h.lt (.inr (.inr (.inl h2)))) (fun e => k3 (by rw [h2, e]))).trans h3⟩
  · have hy := hmem y hy
    exact (hk _ (h.fb.lt hy).1 (k4 y hy).2.1).trans (h.fb.box y hy)
  · have hy := hmem y hy
    exact (h.fb.own y hy).of_blk fun k hk9 => hk k ((h.fb.lt hy).2 k hk9) (fun e => (k4 y hy).2.2.2.2 (e ▸ hk9))
  · have ok := h.ok
    refine ⟨Nat.le_trans (List.length_filter_le _ _) ok.len, fun f hf => ok.each f (List.mem_filter.1 hf).1, ok.asc.filter _, ok.pn, ok.room⟩
  · rcases hk9 with h1 | h1 | h1 | ⟨y, hy, h1⟩
    · exact .inl (.inl h1)
    · exact .inl (.inr (.inl h1))
    · exact .inl (.inr (.inr (.inl h1)))
    · exact .inl (.inr (.inr (.inr ⟨y, hmem y hy, h1⟩)))
set_option maxRecDepth 100000 in
set_option maxHeartbeats 3200000 in
theorem ddrop1_c {w : World} {q m b0 b1 : Nat} {pv : Value} {FS : List Fl} {st : Ds} {nm : List UInt8} (h : DiskIn w q m pv FS st) (h0 : w.heap[b0]? = some (.cells #[.pointer (some ⟨q, 0, none⟩)] 23 (0, 0))) (h1 : w.heap[b1]? = some (.cells #[.string (text nm)] 9 (0, 0)))
    (hn : nm.length ≤ 9223372036854775807) : Calls Try.prog 66 #[.pointer (some ⟨b0, 0, none⟩), .pointer (some ⟨b1, 0, none⟩)] w (FPost q m pv FS st (delF nm) w) := by
  have hkey := key_textD nm hn
  obtain ⟨s, hs⟩ : ∃ s, text nm = s := ⟨_, rfl⟩
  rw [hs] at hkey h1
  have HKEY := Lib.hid hkey
  have HD := Lib.hid h
  have HV := Lib.hid (fun W (hW : Below w.heap.size w W) => And.intro (var_c (heapB h0 hW)) (var_c (heapB h1 hW)))
  clear hkey h h0 h1 hs hn
  go_enter Try.func66, Try.ntmps66
  go_wp2
  refine wp_region_flow_tail 5 [none, none, some 0, some 1, some 2, some 3, some 4] (fun i => [undef, undef, undef, undef, undef].getD i undef) [(fun v _ => v = .pointer (some ⟨q, 0, none⟩)), (fun v _ => v = .pointer (some ⟨q, 0, none⟩)), (fun v _ => v = .pointer (some ⟨q, 0, none⟩)), (fun v _ => v = .map (some m)), (fun v _ => v = .string s)] (fun _ => False) (by kernel_rfl) (by kernel_rfl) (by kernel_rfl) rfl rfl rfl ?_ ?_ ?_
  · intro g hg v X Y hX hY hv
    simp only [List.mem_cons, List.not_mem_nil, or_false] at hg
    rcases hg with rfl | rfl | rfl | rfl | rfl
    all_goals first
      | exact hv
      | exact hv.kept hY
  · simp only [flowOpsF, List.take_succ_cons, List.take_zero, and_true]
    refine ⟨?_, ?_, ?_, ?_, ?_⟩
    · intro xs W hW hn9
      obtain ⟨v0, v1⟩ := HV.out W hW
      simp only [flowAct, List.zipWith_cons_cons, List.zipWith_nil_left]
      go_wp2_with (fail)
      exact ⟨rfl, _, rfl, Below.refl _ _, rfl, fun h => h.elim⟩
    · intro xs W hW hn9
      simp [flowNeeds, Region.binds] at hn9
      simp only [flowAct, List.zipWith_cons_cons, List.zipWith_nil_left]
      try simp only [hn9]
      go_wp2_with (fail)
      exact ⟨rfl, _, rfl, Below.refl _ _, rfl, fun h => h.elim⟩
    · intro xs W hW hn9
      simp [flowNeeds, Region.binds] at hn9
      simp only [flowAct, List.zipWith_cons_cons, List.zipWith_nil_left]
      try simp only [hn9]
      go_wp2_with (fail)
      exact ⟨rfl, _, rfl, Below.refl _ _, rfl, fun h => h.elim⟩
    · intro xs W hW hn9
      have c0 := (HD.out.below hW).cs.1
      simp [flowNeeds, Region.binds] at hn9
      simp only [flowAct, List.zipWith_cons_cons, List.zipWith_nil_left]
      try simp only [hn9]
      go_wp2_with (fail)
      exact ⟨rfl, _, rfl, Below.refl _ _, rfl, fun h => h.elim⟩
    · intro xs W hW hn9
      obtain ⟨v0, v1⟩ := HV.out W hW
      simp only [flowAct, List.zipWith_cons_cons, List.zipWith_nil_left]
      go_wp2_with (fail)
      exact ⟨rfl, _, rfl, Below.refl _ _, rfl, fun h => h.elim⟩
  · intro xs W hW hall hfr
    clear hfr
    simp only [flowAll, and_true, Nat.zero_add, Nat.reduceAdd] at hall
    obtain ⟨-, -, -, a3, a4⟩ := hall
    simp only [flowAct, List.zipWith_cons_cons, List.zipWith_nil_left, List.drop_succ_cons, List.drop_zero]
    simp only [a3, a4]
    clear a3 a4
    have HW := Lib.hid hW
    have HM := Lib.hid (HD.out.below hW).map
    clear hW
    go_wp2_with (refine wpList_delete_own _ rfl _ _ 82 9 rfl 94 klawD Try.underlying82 ptrElem m FS.length (mapD FS) rfl HM.out _ (.string nm) rfl HKEY.out ?_; intro w3 hown3 hturn3)
    refine bodyPost_end (results_none rfl _ _ _) rfl ?_
    exact ddrop_done HD.out HW.out hown3 hturn3.grown
theorem dnothing_c {w : World} {q m : Nat} {pv : Value} {FS : List Fl} {st : Ds} (h : DiskIn w q m pv FS st) : Calls Try.prog 67 #[] w (FPost q m pv FS st id w) := by
  have HD := Lib.hid h
  clear h
  go_enter Try.func67, Try.ntmps67
  go_wp2
  refine bodyPost_end (results_none rfl _ _ _) rfl ?_
  exact ⟨rfl, FS, HD.out, Trn.refl, fun k hk => .inl hk⟩
end Go.Proofs.Ytplanmiggeghfaa
