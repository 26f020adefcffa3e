/-
  Disk: the program's closures that turn one file; operate.
-/
import Derived.Test.YtplanmiggeghfaaD5
import Derived.Maps.AppendAt
namespace Go.Proofs.Ytplanmiggeghfaa
open Go.RowKit Go Go.Sort Go.Maps Go.WideMaps
set_option linter.unusedVariables false
set_option maxRecDepth 20000

theorem Try.info5D : (Try.prog.info? 5).map (fun i => (i.zero, i.size, i.bytes)) = some (some (.int .u8 0), 1, 1) := by kernel_rfl
theorem run_append_bysA {P : Program} {w : World} {base : Nat} {t ty e : TypeId} {i : TypeInfo} {z : Value} {bytes : Nat} (ht : P.underlying t = some (.slice e)) (hi : P.info? e = some i) (hz : i.zero = some z)
    (hsize : i.size = 1) (hby : i.bytes = 1) (hzs : z.cells.size = 1) {v : Value} {k : List UInt8} (hown : OwnB w base e v k)
    {a : Option Addr} {m c : Nat} {l : List UInt8} (hb : Bys w a m c l) (h63 : k.length + m ≤ 140737488355328) (hbase : base ≤ w.heap.size) :
    ∃ v' w', (Builtin.append_ #[t, t] ty #[v, .slice a m c]).run P w = .ok v' w' ∧ OwnB w' base e v' (k ++ l) ∧ w.grownBy w' v.ownBlock ∧ (v'.ownBlock = v.ownBlock ∨ v'.ownBlock = some w.heap.size) := by
  have hlen := hb.len
  by_cases hm : a = none ∧ m = 0
  · obtain ⟨rfl, rfl⟩ := hm
    have hl : l = [] := List.eq_nil_of_length_eq_zero hb.len
    subst hl
    rw [List.append_nil]
    refine ⟨v, w, ?_, hown, World.grownBy.refl _ _, .inl rfl⟩
    have hown' := hown
    rcases hown'.2 with ⟨rfl, hn⟩ | ⟨g, cap, cur, rfl, _, _, hnc, _⟩
    · simp [Builtin.append_, run_underlying ht, sizeOf, typeInfo, hi, Builtin.lenOf, Builtin.firstCells]
    · simp [Builtin.append_, run_underlying ht, sizeOf, typeInfo, hi, Builtin.lenOf, Builtin.firstCells, hnc, storeCells]
  · obtain ⟨ad, rfl, hc⟩ : ∃ ad, a = some ad ∧ ∀ j v, (u8v l)[j]? = some v → w.cell? (ad.add j) = some v := by
      by_cases hm0 : 0 < m
      · exact hb.cells hm0
      · cases a with
        | none => exact absurd ⟨rfl, by omega⟩ hm
        | some ad =>
          have hl : l = [] := List.eq_nil_of_length_eq_zero (by omega)
          subst hl
          exact ⟨ad, rfl, fun j v hv => by simp [u8v] at hv⟩
    obtain ⟨v', w', h1, h2, h3, _, h5⟩ := run_append_own_at (P := P) w base t ty e i z 1 1 ht hi hz hsize hby hzs (by decide) v k.length (u8v k) hown ad m c (u8v l) (by rw [u8v_length]; omega) hc (u8v_one l)
      (by unfold maxLen; omega) (by omega) hbase
    refine ⟨v', w', h1, ?_, h3, h5⟩
    unfold OwnB
    rw [List.length_append, u8v_append, hlen]
    exact h2
theorem wpList_append_bysA {P : Program} {w : World} {ops : Array Oper} {rest : List Oper} {o : Oper} {a : Act} {Q : Exit → Act → World → Prop} (hgd : o.guard = none) (s x : Operand) (t : TypeId)
    (ho : o.op = .call { callee := .builtin .append, args := #[s, x], argTypes := #[t, t] })
    {base : Nat} {e : TypeId} {i : TypeInfo} {z : Value} (ht : P.underlying t = some (.slice e)) (hi : P.info? e = some i) (hz : i.zero = some z)
    (hsize : i.size = 1) (hby : i.bytes = 1) (hzs : z.cells.size = 1) {v : Value} {k : List UInt8} (hs : a.eval s = v) (hown : OwnB w base e v k)
    {ad : Option Addr} {m c : Nat} {l : List UInt8} (hx : a.eval x = .slice ad m c) (hb : Bys w ad m c l) (h63 : k.length + m ≤ 140737488355328) (hbase : base ≤ w.heap.size)
    (h : ∀ v' w', OwnB w' base e v' (k ++ l) → w.grownBy w' v.ownBlock → (v'.ownBlock = v.ownBlock ∨ v'.ownBlock = some w.heap.size) → wpList P ops Q rest (a.put o.dst v') w') : wpList P ops Q (o :: rest) a w := by
  refine wpList_plain hgd fun K hK => ?_
  obtain ⟨v', w', hr, h2, h3, h4⟩ := run_append_bysA (P := P) (ty := o.type) (bytes := 1) ht hi hz hsize hby hzs hown hb h63 hbase
  unfold Oper.wp execOp
  simp only [ho, resolve, invoke, builtin, Sem.run_bind, Sem.run_pure, Result.andThen_ok, List.map_toArray, List.map_cons, List.map_nil, hs, hx, hr]
  exact hK _ _ (h v' w' h2 h3 h4)
/-- One file turned, its name kept: what the whole disk is then. -/
theorem fpost_one {w w3 : World} {q m : Nat} {pv : Value} {FS : List Fl} {st : Ds} {x x' : Fl} {nm : List UInt8} {gf : Fi → Fi} (h : DiskIn w q m pv FS st) (hf : FS.find? (fun y => y.f.nm == nm) = some x) (hg : x'.g = x.g) (hfe : x'.f = gf x.f) (hn : (gf x.f).nm = x.f.nm)
    (hl : (gf x.f).b.length ≤ 1048576 ∧ (gf x.f).su ≤ (gf x.f).b.length) (hbox : w3.heap[x.g]? = some (.cells #[x'.v, .int .i64 (x'.f.su : Int)] 98 (0, 0))) (hown : OwnB w3 0 5 x'.v x'.f.b)
    (hv : ∀ k, x'.v.ownBlock = some k → x.v.ownBlock = some k ∨ w.heap.size ≤ k) (hos : w3.os = w.os) (htp : w3.tape = w.tape) (hou : w3.output = w.output) (hsz : w.heap.size ≤ w3.heap.size)
    (hk : ∀ k, k < w.heap.size → k ≠ x.g → x.v.ownBlock ≠ some k → w3.heap[k]? = w.heap[k]?) : FPost q m pv FS st (setF nm gf) w (.returned (.tuple #[])) w3 := by
  obtain ⟨hnm, A, C, rfl⟩ := find_split hf
  have hd := h.upd (x' := x') hg (by rw [hfe]; exact hn) (by rw [hfe]; exact hl) hbox hown hv hk
  have e : setF nm gf st.F = A.map Fl.f ++ x'.f :: C.map Fl.f := by
    have ha := h.ok.asc
    rw [← h.pr, List.map_append, List.map_cons] at ha ⊢
    rw [← hnm, setF_split gf ha, hfe]
  refine ⟨rfl, A ++ x' :: C, by rw [e]; exact hd, ⟨hos, htp, hou, hsz, fun k hk9 hn9 => hk k hk9 (fun e9 => hn9 (.inr (.inr (.inr ⟨x, by simp, .inl e9⟩)))) (fun e9 => hn9 (.inr (.inr (.inr ⟨x, by simp, .inr e9⟩))))⟩, fun k hk9 => foot_upd hg hv hk9⟩
theorem DiskIn.file {W : World} {q m : Nat} {pv : Value} {FS : List Fl} {st : Ds} (h : DiskIn W q m pv FS st) {nm : List UInt8} {x : Fl} (hf : FS.find? (fun y => y.f.nm == nm) = some x) :
    x ∈ FS ∧ x.f.nm = nm ∧ x.f.b.length ≤ 1048576 ∧ x.f.su ≤ x.f.b.length ∧ ∃ a c, x.v = .slice a x.f.b.length c ∧ Bys W a x.f.b.length c x.f.b ∧ W.heap[x.g]? = some (.cells #[.slice a x.f.b.length c, .int .i64 (x.f.su : Int)] 98 (0, 0)) := by
  have hm := List.mem_of_find?_eq_some hf
  have hn := (find_split hf).1
  have he := h.ok.each x.f (by rw [← h.pr]; exact List.mem_map.2 ⟨x, hm, rfl⟩)
  obtain ⟨a, c, hva, hby⟩ := (h.fb.own x hm).bys
  have hb := h.fb.box x hm
  rw [hva] at hb
  exact ⟨hm, hn, he.1, he.2.1, a, c, hva, hby, hb⟩
set_option maxRecDepth 100000 in
set_option maxHeartbeats 3200000 in
theorem dsync1_c {w : World} {q m b0 : Nat} {pv : Value} {FS : List Fl} {st : Ds} {nm : List UInt8} {x : Fl} (h : DiskIn w q m pv FS st) (hf : FS.find? (fun y => y.f.nm == nm) = some x) (h0 : w.heap[b0]? = some (.cells #[.pointer (some ⟨x.g, 0, none⟩)] 94 (0, 0))) :
    Calls Try.prog 70 #[.pointer (some ⟨b0, 0, none⟩)] w (FPost q m pv FS st (setF nm fun f => ⟨f.nm, f.b, f.b.length⟩) w) := by
  obtain ⟨hxm, hnm, hl1, hl2, a, c, hva, hby, hbx⟩ := h.file hf
  have HE := Lib.hid (fun (w3 : World) (hb3 : w3.heap[x.g]? = some (.cells #[.slice a x.f.b.length c, .int .i64 (x.f.b.length : Int)] 98 (0, 0))) (hk : ∀ k, k < w.heap.size → k ≠ x.g → w3.heap[k]? = w.heap[k]?) (h1 : w3.os = w.os) (h2 : w3.tape = w.tape) (h3 : w3.output = w.output) (h4 : w.heap.size ≤ w3.heap.size) =>
    fpost_one (x' := ⟨x.g, x.v, ⟨x.f.nm, x.f.b, x.f.b.length⟩⟩) (gf := fun f => ⟨f.nm, f.b, f.b.length⟩) h hf rfl rfl rfl ⟨hl1, Nat.le_refl _⟩ (by rw [hva]; exact hb3) ((h.fb.own x hxm).of_blk fun k hk9 => hk k ((h.fb.lt hxm).2 k hk9) (fun e => h.fb.kinds hxm hxm (e ▸ hk9))) (fun k hk9 => .inl hk9) h1 h2 h3 h4 (fun k hk9 hne _ => hk k hk9 hne))
  obtain ⟨xl, hxl⟩ : ∃ n, x.f.b.length = n := ⟨_, rfl⟩
  obtain ⟨xg, hxg⟩ : ∃ n, x.g = n := ⟨_, rfl⟩
  rw [hxl, hxg] at HE hbx
  rw [hxg] at h0
  have HBX := Lib.hid hbx
  have HV := Lib.hid (fun W (hW : Below w.heap.size w W) => var_c (heapB h0 hW))
  have HB := Lib.hid (fun W (hW : Below w.heap.size w W) => box_cs (heapB hbx hW))
  clear h hf h0 hxm hnm hl1 hl2 hva hby hbx hxl hxg
  go_enter Try.func70, Try.ntmps70
  go_wp2
  refine wp_region_flow_tail 8 [none, some 0, some 1, some 2, some 3, some 4, some 5, some 6, some 7] (fun i => [undef, undef, undef, undef, undef, undef, undef, undef].getD i undef) [(fun v _ => v = .pointer (some ⟨xg, 0, none⟩)), (fun v _ => v = .pointer (some ⟨xg, 0, none⟩)), (fun v _ => v = .pointer (some ⟨xg, 0, none⟩)), (fun v _ => v = .pointer (some ⟨xg, 0, none⟩)), (fun v _ => v = .slice a xl c), (fun v _ => v = .int .i64 (xl : Int)), (fun v _ => v = .pointer (some ⟨xg, 0, none⟩)), (fun v _ => v = .pointer (some ⟨xg, 1, none⟩))] (fun _ => False) (by kernel_rfl) (by kernel_rfl) (by kernel_rfl) rfl rfl rfl ?_ ?_ ?_
  · intro g hg v X Y hX hY hv
    simp only [List.mem_cons, List.not_mem_nil, or_false] at hg
    rcases hg with rfl | rfl | rfl | rfl | rfl | rfl | rfl | rfl
    all_goals first
      | exact hv
      | exact hv.kept hY
  · simp only [flowOpsF, List.take_succ_cons, List.take_zero, and_true]
    refine ⟨?_, ?_, ?_, ?_, ?_, ?_, ?_, ?_⟩
    · intro xs W hW hn9
      have v0 := HV.out W hW
      simp only [flowAct, List.zipWith_cons_cons, List.zipWith_nil_left]
      go_wp2_with (fail)
      exact ⟨rfl, _, rfl, Below.refl _ _, rfl, fun h => h.elim⟩
    · intro xs W hW hn9
      have v0 := HV.out W hW
      simp only [flowAct, List.zipWith_cons_cons, List.zipWith_nil_left]
      go_wp2_with (fail)
      exact ⟨rfl, _, rfl, Below.refl _ _, rfl, fun h => h.elim⟩
    · intro xs W hW hn9
      simp [flowNeeds, Region.binds] at hn9
      simp only [flowAct, List.zipWith_cons_cons, List.zipWith_nil_left]
      try simp only [hn9]
      go_wp2_with (fail)
      exact ⟨rfl, _, rfl, Below.refl _ _, rfl, fun h => h.elim⟩
    · intro xs W hW hn9
      simp [flowNeeds, Region.binds] at hn9
      simp only [flowAct, List.zipWith_cons_cons, List.zipWith_nil_left]
      try simp only [hn9]
      go_wp2_with (fail)
      exact ⟨rfl, _, rfl, Below.refl _ _, rfl, fun h => h.elim⟩
    · intro xs W hW hn9
      obtain ⟨d0, d1⟩ := HB.out W hW
      simp [flowNeeds, Region.binds] at hn9
      simp only [flowAct, List.zipWith_cons_cons, List.zipWith_nil_left]
      try simp only [hn9]
      go_wp2_with (fail)
      exact ⟨rfl, _, rfl, Below.refl _ _, rfl, fun h => h.elim⟩
    · intro xs W hW hn9
      simp [flowNeeds, Region.binds] at hn9
      simp only [flowAct, List.zipWith_cons_cons, List.zipWith_nil_left]
      try simp only [hn9]
      go_wp2_with (fail)
      exact ⟨rfl, _, rfl, Below.refl _ _, rfl, fun h => h.elim⟩
    · intro xs W hW hn9
      simp [flowNeeds, Region.binds] at hn9
      simp only [flowAct, List.zipWith_cons_cons, List.zipWith_nil_left]
      try simp only [hn9]
      go_wp2_with (fail)
      exact ⟨rfl, _, rfl, Below.refl _ _, rfl, fun h => h.elim⟩
    · intro xs W hW hn9
      simp [flowNeeds, Region.binds] at hn9
      simp only [flowAct, List.zipWith_cons_cons, List.zipWith_nil_left]
      try simp only [hn9]
      go_wp2_with (fail)
      exact ⟨rfl, _, rfl, Below.refl _ _, rfl, fun h => h.elim⟩
  · intro xs W hW hall hfr
    clear hfr
    simp only [flowAll, and_true, Nat.zero_add, Nat.reduceAdd] at hall
    obtain ⟨-, -, -, -, -, a5, -, a7⟩ := hall
    simp only [flowAct, List.zipWith_cons_cons, List.zipWith_nil_left, List.drop_succ_cons, List.drop_zero]
    simp only [a5, a7]
    clear a5 a7
    have HW := Lib.hid hW
    have hb3 := heapB HBX.out hW
    obtain ⟨d0, d1⟩ := box_cs hb3
    have f1 := box_fz hb3 1
    have HB3 := Lib.hid hb3
    clear hb3 hW
    go_wp2
    refine bodyPost_end (results_none rfl _ _ _) rfl ?_
    exact HE.out _ (box_set1 HB3.out _) (fun k hk hne => (heap_setCell_other _ _ _ _ hne).trans (HW.out.block k hk)) HW.out.os HW.out.tape HW.out.output (by rw [World.size_setCell]; exact HW.out.size)
set_option maxRecDepth 100000 in
set_option maxHeartbeats 3200000 in
theorem dcut1_c {w : World} {q m b0 b1 n : Nat} {pv : Value} {FS : List Fl} {st : Ds} {nm : List UInt8} {x : Fl} (h : DiskIn w q m pv FS st) (hf : FS.find? (fun y => y.f.nm == nm) = some x) (h0 : w.heap[b0]? = some (.cells #[.pointer (some ⟨x.g, 0, none⟩)] 94 (0, 0))) (h1 : w.heap[b1]? = some (.cells #[.int .i64 (n : Int)] 3 (0, 0))) (hn : n ≤ x.f.b.length) :
    Calls Try.prog 76 #[.pointer (some ⟨b0, 0, none⟩), .pointer (some ⟨b1, 0, none⟩)] w (FPost q m pv FS st (setF nm fun f => ⟨f.nm, f.b.take n, min f.su n⟩) w) := by
  obtain ⟨hxm, hnm, hl1, hl2, a, c, hva, hby, hbx⟩ := h.file hf
  have hlt : (x.f.b.take n).length = n := by rw [List.length_take]; omega
  have HE := Lib.hid (fun (w3 : World) (hb3 : w3.heap[x.g]? = some (.cells #[.slice a n c, .int .i64 ((min x.f.su n : Nat) : Int)] 98 (0, 0))) (hg : w.grownBy w3 (some x.g)) =>
    fpost_one (x' := ⟨x.g, .slice a n c, ⟨x.f.nm, x.f.b.take n, min x.f.su n⟩⟩) (gf := fun f => ⟨f.nm, f.b.take n, min f.su n⟩) h hf rfl rfl rfl ⟨by show (x.f.b.take n).length ≤ _; omega, by show min x.f.su n ≤ (x.f.b.take n).length; omega⟩ hb3
      (by
        have ho : OwnB w3 0 5 x.v x.f.b := (h.fb.own x hxm).of_blk fun k hk9 => hg.block k ((h.fb.lt hxm).2 k hk9) (fun e => h.fb.kinds hxm hxm (by injection e with e; exact e ▸ hk9))
        rw [hva] at ho
        exact ho.take hn) (fun k hk9 => .inl (by rw [hva]; rw [← hk9]; cases a <;> rfl)) hg.os hg.tape hg.output hg.size (fun k hk9 hne _ => hg.block k hk9 (by simpa using hne)))
  have HC := Lib.hid (fcut_c hbx hby.le hn)
  have v0 := var_c h0
  have v1 := var_c h1
  clear h hf h0 h1 hxm hnm hl1 hl2 hva hby hbx hlt hn
  go_enter Try.func76, Try.ntmps76
  go_wp2_with (go_at_call 77; (with_reducible refine HC.out.mono ?_); rintro e9 w9 ⟨rfl, hb9, hg9⟩)
  refine bodyPost_end (results_none rfl _ _ _) rfl ?_
  exact HE.out _ hb9 hg9
/-- The world while bytes are put at a file's end: before, behind the append, behind the store. -/
def ApR (w : World) (xg : Nat) (xv : Value) (xb l : List UInt8) (su : Nat) : Nat → World → Prop
  | 0, W => Below w.heap.size w W
  | 1, W => w.os = W.os ∧ w.tape = W.tape ∧ w.output = W.output ∧ w.heap.size ≤ W.heap.size ∧ ∀ k, k < w.heap.size → xv.ownBlock ≠ some k → W.heap[k]? = w.heap[k]?
  | _, W => (∃ v', W.heap[xg]? = some (.cells #[v', .int .i64 (su : Int)] 98 (0, 0)) ∧ OwnB W 0 5 v' (xb ++ l) ∧ ∀ k, v'.ownBlock = some k → xv.ownBlock = some k ∨ w.heap.size ≤ k) ∧ w.os = W.os ∧ w.tape = W.tape ∧ w.output = W.output ∧ w.heap.size ≤ W.heap.size ∧ ∀ k, k < w.heap.size → k ≠ xg → xv.ownBlock ≠ some k → W.heap[k]? = w.heap[k]?
def ApV (w : World) (xg : Nat) (xv : Value) (xb l : List UInt8) (ab : Option Addr) (bl cb : Nat) (i : Nat) (v : Value) (W : World) : Prop :=
  ([(fun v _ => v = .pointer (some ⟨xg, 0, none⟩)), (fun v _ => v = .pointer (some ⟨xg, 0, none⟩)), (fun v _ => v = .pointer (some ⟨xg, 0, none⟩)), (fun v _ => v = .pointer (some ⟨xg, 0, none⟩)), (fun v _ => v = xv), (fun v _ => v = .slice ab bl cb), (fun v W => OwnB W 0 5 v (xb ++ l) ∧ ∀ k, v.ownBlock = some k → xv.ownBlock = some k ∨ w.heap.size ≤ k), (fun v _ => v = .pointer (some ⟨xg, 0, none⟩)), (fun v _ => v = .pointer (some ⟨xg, 0, none⟩)), (fun _ _ => True)].getD i fun _ _ => True) v W
theorem ApV.keep {w W W' : World} {xg : Nat} {xv : Value} {xb l : List UInt8} {ab : Option Addr} {bl cb i : Nat} {v : Value} (h : ApV w xg xv xb l ab bl cb i v W) (hk : i = 6 → OwnB W 0 5 v (xb ++ l) → OwnB W' 0 5 v (xb ++ l)) : ApV w xg xv xb l ab bl cb i v W' := by
  unfold ApV at h ⊢
  rcases (by omega : i < 10 ∨ 10 ≤ i) with hi | hi
  · rcases (by omega : i = 0 ∨ i = 1 ∨ i = 2 ∨ i = 3 ∨ i = 4 ∨ i = 5 ∨ i = 6 ∨ i = 7 ∨ i = 8 ∨ i = 9) with rfl | rfl | rfl | rfl | rfl | rfl | rfl | rfl | rfl | rfl
    all_goals first
      | exact h
      | exact ⟨hk rfl h.1, h.2⟩
  · rw [List.getD_eq_getElem?_getD, List.getElem?_eq_none (by simpa using hi)] at h ⊢
    exact h
theorem ApR.vars {w W : World} {xg su b0 b1 : Nat} {xv u0 u1 : Value} {xb l : List UInt8} {t0 t1 : TypeId} (h0 : w.heap[b0]? = some (.cells #[u0] t0 (0, 0))) (h1 : w.heap[b1]? = some (.cells #[u1] t1 (0, 0))) (hbx : w.heap[xg]? = some (.cells #[xv, .int .i64 (su : Int)] 98 (0, 0))) (hox : OwnB w 0 5 xv xb) (n0 : t0 ≠ 5) (n1 : t1 ≠ 5) (m0 : t0 ≠ 98) (m1 : t1 ≠ 98) :
    ∀ {k : Nat}, ApR w xg xv xb l su k W → W.cell? ⟨b0, 0, none⟩ = some u0 ∧ W.cell? ⟨b1, 0, none⟩ = some u1 := by
  have a0 : xv.ownBlock ≠ some b0 := fun e => by obtain ⟨c, hc⟩ := hox.blkD e; exact n0 (tneD h0 hc)
  have a1 : xv.ownBlock ≠ some b1 := fun e => by obtain ⟨c, hc⟩ := hox.blkD e; exact n1 (tneD h1 hc)
  have a2 : b0 ≠ xg := fun e => m0 (by rw [e] at h0; exact tneD h0 hbx)
  have a3 : b1 ≠ xg := fun e => m1 (by rw [e] at h1; exact tneD h1 hbx)
  have l0 := (Array.getElem?_eq_some_iff.1 h0).1
  have l1 := (Array.getElem?_eq_some_iff.1 h1).1
  intro k h
  match k, h with
  | 0, h => exact ⟨var_c ((h.block b0 l0).trans h0), var_c ((h.block b1 l1).trans h1)⟩
  | 1, h => exact ⟨var_c ((h.2.2.2.2 b0 l0 a0).trans h0), var_c ((h.2.2.2.2 b1 l1 a1).trans h1)⟩
  | _ + 2, h => exact ⟨var_c ((h.2.2.2.2.2 b0 l0 a2 a0).trans h0), var_c ((h.2.2.2.2.2 b1 l1 a3 a1).trans h1)⟩
def DepP (L : Nat → Bool) : Prop := L 6 = true → L 4 = true
theorem DepP.put {L : Nat → Bool} (h : DepP L) (i : Nat) (hi : i = 6 → L 4 = true) : DepP (fun j => if j = i then true else L j) := fun h6 => by
  by_cases e : i = 6
  · subst e; simp [hi rfl]
  · have h6' : L 6 = true := by simpa [Ne.symm e] using h6
    simp [h h6']
theorem ApR.box4 {w W : World} {xg su : Nat} {xv : Value} {xb l : List UInt8} {V : Nat → Value → World → Prop} {L : Nat → Bool} {xs : Nat → Value} (hbx : w.heap[xg]? = some (.cells #[xv, .int .i64 (su : Int)] 98 (0, 0))) (hkx : xv.ownBlock ≠ some xg) (hI : InvU [6, 9] 10 V (ApR w xg xv xb l su) L xs W) (h9 : L 6 = false) : W.heap[xg]? = some (.cells #[xv, .int .i64 (su : Int)] 98 (0, 0)) := by
  have l0 := (Array.getElem?_eq_some_iff.1 hbx).1
  obtain ⟨k, hk, hs, hr⟩ := hI.stage
  have h1 : ¬ 0 < k := fun h => by rw [(hs 0 6 rfl).2 h] at h9; cases h9
  match k, hr, h1 with
  | 0, h, _ => exact (h.block xg l0).trans hbx
  | n + 1, _, h => omega
set_option maxRecDepth 100000 in
set_option maxHeartbeats 3200000 in
theorem dappend1_c {w : World} {q m b0 b1 : Nat} {pv : Value} {FS : List Fl} {st : Ds} {nm l : List UInt8} {x : Fl} {ab : Option Addr} {bl cb : Nat} (h : DiskIn w q m pv FS st) (hf : FS.find? (fun y => y.f.nm == nm) = some x) (h0 : w.heap[b0]? = some (.cells #[.pointer (some ⟨x.g, 0, none⟩)] 94 (0, 0))) (h1 : w.heap[b1]? = some (.cells #[.slice ab bl cb] 30 (0, 0)))
    (hbl : Bys w ab bl cb l) (hlen : x.f.b.length + l.length ≤ 1048576) :
    Calls Try.prog 69 #[.pointer (some ⟨b0, 0, none⟩), .pointer (some ⟨b1, 0, none⟩)] w (FPost q m pv FS st (setF nm fun f => ⟨f.nm, f.b ++ l, f.su⟩) w) := by
  obtain ⟨hxm, hnm, hl1, hl2, a, c, hva, hby, hbx⟩ := h.file hf
  have hkx := h.fb.kinds hxm hxm
  have HE := Lib.hid (fun (w3 : World) (hr : ApR w x.g x.v x.f.b l x.f.su 2 w3) => (by
    obtain ⟨⟨v', hb3, ho3, hv3⟩, h1, h2, h3, h4, hk⟩ := hr
    exact fpost_one (x' := ⟨x.g, v', ⟨x.f.nm, x.f.b ++ l, x.f.su⟩⟩) (gf := fun f => ⟨f.nm, f.b ++ l, f.su⟩) h hf rfl rfl rfl ⟨by show (x.f.b ++ l).length ≤ _; rw [List.length_append]; exact hlen, by show x.f.su ≤ (x.f.b ++ l).length; rw [List.length_append]; omega⟩ hb3 ho3 hv3 h1.symm h2.symm h3.symm h4 hk : FPost q m pv FS st (setF nm fun f => ⟨f.nm, f.b ++ l, f.su⟩) w (.returned (.tuple #[])) w3))
  have hox := h.fb.own x hxm
  obtain ⟨xv, hxv⟩ : ∃ n, x.v = n := ⟨_, rfl⟩
  obtain ⟨xb, hxb⟩ : ∃ n, x.f.b = n := ⟨_, rfl⟩
  obtain ⟨xg, hxg⟩ : ∃ n, x.g = n := ⟨_, rfl⟩
  obtain ⟨su, hsu⟩ : ∃ n, x.f.su = n := ⟨_, rfl⟩
  have hbx : w.heap[x.g]? = some (.cells #[x.v, .int .i64 (x.f.su : Int)] 98 (0, 0)) := h.fb.box x hxm
  rw [hxv, hxb, hxg, hsu] at HE
  rw [hxg, hxv, hsu] at hbx
  rw [hxg] at h0
  rw [hxv, hxb] at hox
  rw [hxb] at hlen
  rw [hxv, hxg] at hkx
  have HBX := Lib.hid hbx
  have HV := Lib.hid (fun W (hW : Below w.heap.size w W) => And.intro (var_c (heapB h0 hW)) (var_c (heapB h1 hW)))
  have HV2 := Lib.hid (And.intro (var_c h0) (var_c h1))
  have HOX := Lib.hid hox
  have HBL := Lib.hid hbl
  have HLEN := Lib.hid hlen
  have HKX := Lib.hid hkx
  have HB0 := Lib.hid (And.intro h0 h1)
  obtain ⟨i0, hi, hz0, hz1, hz2⟩ := info_parts Try.info5D
  clear h hf h0 h1 hxm hnm hl1 hl2 hva hby hbx hxg hxv hxb hsu hox hbl hlen hkx
  go_enter Try.func69, Try.ntmps69
  go_wp2
  refine wp_region_inv [none, none, some 0, some 1, some 2, some 3, some 4, some 5, some 6, some 7, some 8] (fun i => [undef, undef, undef, undef, undef, undef, undef, undef, undef, undef].getD i undef) (fun L xs W => InvU [6, 9] 10 (ApV w xg xv xb l ab bl cb) (ApR w xg xv xb l su) L xs W ∧ DepP L) (by kernel_rfl) (by kernel_rfl) rfl rfl (fun L hL => ⟨InvU.start hL (by decide) (by decide) ⟨rfl, rfl, rfl, Nat.le_refl _, fun _ _ => rfl⟩, fun h => by have h6 := hL 6 (by decide); rw [h6] at h; cases h⟩) ?_ ?_
  · simp only [invOps, and_true]
    refine ⟨?_, ?_, ?_, ?_, ?_, ?_, ?_, ?_, ?_, ?_⟩
    · intro L xs W ⟨hI, hDp⟩ hL hn
      obtain ⟨k9, -, hr9⟩ := hI.any
      have hv9 := ApR.vars HB0.out.1 HB0.out.2 HBX.out HOX.out (by decide) (by decide) (by decide) (by decide) hr9
      obtain ⟨v0, v1⟩ := hv9
      clear hr9
      simp only [flowAct, List.zipWith_cons_cons, List.zipWith_nil_left]
      go_wp2_with (fail)
      exact ⟨rfl, _, rfl, hI.pure 0 (by decide) (fun _ h => h) (fun _ _ _ _ h => h) rfl, hDp.put 0 (fun e => absurd e (by decide))⟩
    · intro L xs W ⟨hI, hDp⟩ hL hn
      obtain ⟨k9, -, hr9⟩ := hI.any
      have hv9 := ApR.vars HB0.out.1 HB0.out.2 HBX.out HOX.out (by decide) (by decide) (by decide) (by decide) hr9
      obtain ⟨v0, v1⟩ := hv9
      clear hr9
      simp only [flowAct, List.zipWith_cons_cons, List.zipWith_nil_left]
      go_wp2_with (fail)
      exact ⟨rfl, _, rfl, hI.pure 1 (by decide) (fun _ h => h) (fun _ _ _ _ h => h) rfl, hDp.put 1 (fun e => absurd e (by decide))⟩
    · intro L xs W ⟨hI, hDp⟩ hL hn
      simp [invNeeds, Region.binds] at hn
      have e1 : xs 1 = .pointer (some ⟨xg, 0, none⟩) := hI.val 1 (by decide) (by simp only [hn])
      simp only [flowAct, List.zipWith_cons_cons, List.zipWith_nil_left]
      simp only [e1]
      go_wp2_with (fail)
      exact ⟨rfl, _, rfl, hI.pure 2 (by decide) (fun _ h => h) (fun _ _ _ _ h => h) rfl, hDp.put 2 (fun e => absurd e (by decide))⟩
    · intro L xs W ⟨hI, hDp⟩ hL hn
      simp [invNeeds, Region.binds] at hn
      have e2 : xs 2 = .pointer (some ⟨xg, 0, none⟩) := hI.val 2 (by decide) (by simp only [hn])
      simp only [flowAct, List.zipWith_cons_cons, List.zipWith_nil_left]
      simp only [e2]
      go_wp2_with (fail)
      exact ⟨rfl, _, rfl, hI.pure 3 (by decide) (fun _ h => h) (fun _ _ _ _ h => h) rfl, hDp.put 3 (fun e => absurd e (by decide))⟩
    · intro L xs W ⟨hI, hDp⟩ hL hn
      simp [invNeeds, Region.binds] at hn
      have e3 : xs 3 = .pointer (some ⟨xg, 0, none⟩) := hI.val 3 (by decide) (by simp only [hn])
      obtain ⟨k9, hk9, hr9⟩ := hI.any
      have L6 : L 6 = false := by
        cases h : L 6 with
        | false => rfl
        | true => have := hDp h; rw [hL] at this; cases this
      have hv9 := ApR.box4 HBX.out HKX.out hI L6
      obtain ⟨d0, d1⟩ := box_cs hv9
      clear hv9 hr9
      simp only [flowAct, List.zipWith_cons_cons, List.zipWith_nil_left]
      simp only [e3]
      go_wp2_with (fail)
      exact ⟨rfl, _, rfl, hI.pure 4 (by decide) (fun _ h => h) (fun _ _ _ _ h => h) rfl, hDp.put 4 (fun e => absurd e (by decide))⟩
    · intro L xs W ⟨hI, hDp⟩ hL hn
      obtain ⟨k9, -, hr9⟩ := hI.any
      have hv9 := ApR.vars HB0.out.1 HB0.out.2 HBX.out HOX.out (by decide) (by decide) (by decide) (by decide) hr9
      obtain ⟨v0, v1⟩ := hv9
      clear hr9
      simp only [flowAct, List.zipWith_cons_cons, List.zipWith_nil_left]
      go_wp2_with (fail)
      exact ⟨rfl, _, rfl, hI.pure 5 (by decide) (fun _ h => h) (fun _ _ _ _ h => h) rfl, hDp.put 5 (fun e => absurd e (by decide))⟩
    · intro L xs W ⟨hI, hDp⟩ hL hn
      simp [invNeeds, Region.binds] at hn
      have e4 : xs 4 = xv := hI.val 4 (by decide) (by simp only [hn])
      have e5 : xs 5 = .slice ab bl cb := hI.val 5 (by decide) (by simp only [hn])
      have hr := hI.at 0 rfl hL (fun p hp => absurd hp.1 (by omega))
      have hr : Below w.heap.size w W := hr
      have HR := Lib.hid hr
      have h4 : L 4 = true := by simp only [hn]
      clear hr
      simp only [flowAct, List.zipWith_cons_cons, List.zipWith_nil_left]
      simp only [e4, e5]
      go_wp2_with (refine wpList_append_bysA rfl _ _ 30 rfl (base := 0) (e := 5) (v := xv) (k := xb) (l := l) (i := i0) (z := .int .u8 0) Try.underlying30 hi hz0 hz1 hz2 rfl rfl (HOX.out.kept HR.out) rfl (HBL.out.below HR.out) (by have := HLEN.out; have := HBL.out.len; omega) (Nat.zero_le _) ?_; intro v9 w9 ho9 hg9 ha9)
      refine ⟨rfl, _, rfl, hI.step 0 rfl hL (fun p hp => absurd hp.1 (by omega)) (by decide) ?_ (fun j u hj hLj hu => hu.keep fun e => absurd e hj) ⟨ho9, fun k hk => ?_⟩, hDp.put 6 (fun _ => h4)⟩
      · exact ⟨(hg9.os.trans HR.out.os).symm, (hg9.tape.trans HR.out.tape).symm, (hg9.output.trans HR.out.output).symm, Nat.le_trans HR.out.size hg9.size, fun k hk hne => (hg9.block k (Nat.lt_of_lt_of_le hk HR.out.size) (fun e => hne e.symm)).trans (HR.out.block k hk)⟩
      · rcases ha9 with h9 | h9
        · exact .inl (by rw [← h9]; exact hk)
        · rw [h9] at hk; injection hk with hk; exact .inr (by have := HR.out.size; omega)
    · intro L xs W ⟨hI, hDp⟩ hL hn
      simp [invNeeds, Region.binds] at hn
      have e0 : xs 0 = .pointer (some ⟨xg, 0, none⟩) := hI.val 0 (by decide) (by simp only [hn])
      simp only [flowAct, List.zipWith_cons_cons, List.zipWith_nil_left]
      simp only [e0]
      go_wp2_with (fail)
      exact ⟨rfl, _, rfl, hI.pure 7 (by decide) (fun _ h => h) (fun _ _ _ _ h => h) rfl, hDp.put 7 (fun e => absurd e (by decide))⟩
    · intro L xs W ⟨hI, hDp⟩ hL hn
      simp [invNeeds, Region.binds] at hn
      have e7 : xs 7 = .pointer (some ⟨xg, 0, none⟩) := hI.val 7 (by decide) (by simp only [hn])
      simp only [flowAct, List.zipWith_cons_cons, List.zipWith_nil_left]
      simp only [e7]
      go_wp2_with (fail)
      exact ⟨rfl, _, rfl, hI.pure 8 (by decide) (fun _ h => h) (fun _ _ _ _ h => h) rfl, hDp.put 8 (fun e => absurd e (by decide))⟩
    · intro L xs W ⟨hI, hDp⟩ hL hn
      simp [invNeeds, Region.binds] at hn
      have e8 : xs 8 = .pointer (some ⟨xg, 0, none⟩) := hI.val 8 (by decide) (by simp only [hn])
      have e6 : OwnB W 0 5 (xs 6) (xb ++ l) ∧ ∀ k, (xs 6).ownBlock = some k → xv.ownBlock = some k ∨ w.heap.size ≤ k := hI.val 6 (by decide) (by simp only [hn])
      have h6 : L 6 = true := by simp only [hn]
      have hr := hI.at 1 rfl hL (fun p hp => by obtain ⟨-, h⟩ := hp; injection h with h; subst h; exact h6)
      have hbx := (hr.2.2.2.2 xg (Array.getElem?_eq_some_iff.1 HBX.out).1 HKX.out).trans HBX.out
      obtain ⟨d0, d1⟩ := box_cs hbx
      have f0 := box_fz hbx 0
      have HR := Lib.hid hr
      have HBX9 := Lib.hid hbx
      have HE6 := Lib.hid e6
      clear hr hbx e6
      simp only [flowAct, List.zipWith_cons_cons, List.zipWith_nil_left]
      simp only [e8]
      obtain ⟨a6, c6, hv6, -⟩ := HE6.out.1.bys
      obtain ⟨n6, hn6⟩ : ∃ n, (xb ++ l).length = n := ⟨_, rfl⟩
      rw [hn6] at hv6
      rw [hv6] at HE6 ⊢
      clear hn6
      go_wp2_with (fail)
      refine ⟨rfl, undef, rfl, hI.step 1 rfl hL (fun p hp => by obtain ⟨-, h⟩ := hp; injection h with h; subst h; exact h6) (by decide) ?_ (fun j u hj hLj hu => hu.keep fun e ho => ho.of_blk fun k hk => heap_setCell_other _ _ _ _ (fun e9 => ?_)) trivial, hDp.put 9 (fun e => absurd e (by decide))⟩
      · obtain ⟨r1, r2, r3, r4, r5⟩ := HR.out
        refine ⟨⟨.slice a6 n6 c6, box_set0 HBX9.out _, HE6.out.1.of_blk fun k hk => heap_setCell_other _ _ _ _ (fun e9 => ?_), HE6.out.2⟩, r1, r2, r3, by rw [World.size_setCell]; exact r4, fun k hk hne hnv => (heap_setCell_other _ _ _ _ hne).trans (r5 k hk hnv)⟩
        obtain ⟨c9, hc9⟩ := HE6.out.1.blkD hk
        rw [e9] at hc9
        exact absurd (tneD hc9 HBX9.out) (by decide)
      · obtain ⟨c9, hc9⟩ := ho.blkD hk
        rw [e9] at hc9
        exact absurd (tneD hc9 HBX9.out) (by decide)
  · intro L xs W ⟨hI, _⟩ hL
    obtain ⟨hr, -⟩ := hI.done hL (by decide) (by decide)
    refine bodyPost_end (results_none rfl _ _ _) rfl ?_
    exact HE.out _ hr
end Go.Proofs.Ytplanmiggeghfaa
