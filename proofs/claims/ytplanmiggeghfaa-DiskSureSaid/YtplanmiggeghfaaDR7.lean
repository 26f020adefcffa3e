/-
  Disk: the reference: lose, Fail.
-/
import Derived.Test.YtplanmiggeghfaaDR6
import Derived.Shelf.Abstract
namespace Go.Proofs.Ytplanmiggeghfaa
open Go.RowKit Go Go.Sort Go.Maps Go.WideMaps
set_option linter.unusedVariables false
set_option maxRecDepth 20000

theorem getD_setFr {l : List Fr} {i : Nat} (hi : i < l.length) (c : Fr) : (l.set i c).getD i Fr.zero = c := by
  simp [List.getD_eq_getElem?_getD, hi]
theorem frs_store1 {w : World} {B g n cap : Nat} {l : List Fr} (h : OwnL 3 100 Fr.arr w B (.slice (some ⟨g, 0, none⟩) n cap) l) {i : Nat} (hi : i < l.length) {j : Nat} (hj : j < 3) (x : Value) (c' : Fr) (harr : (Fr.arr c').toList = (Fr.arr (l.getD i Fr.zero)).toList.set j x) :
    OwnL 3 100 Fr.arr (w.setCell ⟨g, i * 3 + j, none⟩ x) B (.slice (some ⟨g, 0, none⟩) n cap) (l.set i c') := OwnL.store fr_size h hi hj x c' harr
theorem frs_store3 {w : World} {B g n cap : Nat} {l : List Fr} (h : OwnL 3 100 Fr.arr w B (.slice (some ⟨g, 0, none⟩) n cap) l) {i : Nat} (hi : i < l.length) (c' : Fr) (hnm : c'.f.nm = (l.getD i Fr.zero).f.nm) :
    OwnL 3 100 Fr.arr (((w.setCell ⟨g, i * 3, none⟩ (.string (text c'.f.nm))).setCell ⟨g, i * 3 + 1, none⟩ c'.v).setCell ⟨g, i * 3 + 2, none⟩ (.int .i64 (c'.f.su : Int))) B (.slice (some ⟨g, 0, none⟩) n cap) (l.set i c') := by
  have h1 := frs_store1 h hi (j := 0) (by omega) (.string (text c'.f.nm)) (l.getD i Fr.zero) (by unfold Fr.arr; rw [hnm]; rfl)
  have h2 := frs_store1 h1 (by simpa using hi) (j := 1) (by omega) c'.v ⟨c'.v, (l.getD i Fr.zero).f⟩ (by rw [getD_setFr hi]; rfl)
  have h3 := frs_store1 h2 (by simpa using hi) (j := 2) (by omega) (.int .i64 (c'.f.su : Int)) c' (by rw [getD_setFr (by simpa using hi)]; unfold Fr.arr; rw [hnm]; rfl)
  rw [List.set_set, List.set_set] at h3
  exact h3
/-- An empty literal. -/
def EmptyV (B : Nat) (v : Value) (W : World) : Prop := ∃ g7, v = .slice (some ⟨g7, 0, none⟩) 0 0 ∧ OwnB W B 5 (.slice (some ⟨g7, 0, none⟩) 0 0) []
theorem EmptyV.kept {B : Nat} {v : Value} {W W' : World} (h : EmptyV B v W) (hb : Below W.heap.size W W') : EmptyV B v W' := by
  obtain ⟨g7, e, ho⟩ := h; exact ⟨g7, e, ho.kept hb⟩
/-- A file's struct with bytes of the call's own. -/
def BuiltV (nm : ByteArray) (m : Nat) (l : List UInt8) (B : Nat) (v : Value) (W : World) : Prop := ∃ ua uc, v = .agg #[.string nm, .slice ua m uc, .int .i64 (m : Int)] ∧ OwnB W B 5 (.slice ua m uc) l
theorem BuiltV.kept {nm : ByteArray} {m : Nat} {l : List UInt8} {B : Nat} {v : Value} {W W' : World} (h : BuiltV nm m l B v W) (hb : Below W.heap.size W W') : BuiltV nm m l B v W' := by
  obtain ⟨ua, uc, e, ho⟩ := h; exact ⟨ua, uc, e, ho.kept hb⟩
def mixF (keep : Int) (F : List Fi) (i : Nat) : List Fi := (F.take i).map (Fi.lose keep) ++ F.drop i
theorem mixF_zero (keep : Int) (F : List Fi) : mixF keep F 0 = F := by simp [mixF]
theorem mixF_all (keep : Int) (F : List Fi) : mixF keep F F.length = F.map (Fi.lose keep) := by simp [mixF]
theorem mixF_len (keep : Int) (F : List Fi) (i : Nat) : (mixF keep F i).length = F.length := by simp [mixF]; omega
theorem mixF_get (keep : Int) (F : List Fi) (i : Nat) (hi : i < F.length) : (mixF keep F i)[i]? = some F[i] := by
  unfold mixF
  rw [List.getElem?_append_right (by simp; omega), List.getElem?_drop]
  simp
  rw [show i + (i - min i F.length) = i by omega]
  exact List.getElem?_eq_getElem hi
theorem mixF_step (keep : Int) (F : List Fi) (i : Nat) (hi : i < F.length) : (mixF keep F i).set i (Fi.lose keep F[i]) = mixF keep F (i + 1) := by
  unfold mixF
  rw [List.set_append_right _ _ (by simp; omega)]
  have e1 : F.drop i = F[i] :: F.drop (i + 1) := (List.getElem_cons_drop hi).symm
  rw [e1]
  have e2 : i - ((F.take i).map (Fi.lose keep)).length = 0 := by simp; omega
  have e3 : F.take (i + 1) = F.take i ++ [F[i]] := by rw [List.take_add_one, List.getElem?_eq_getElem hi]; rfl
  rw [e2, List.set_cons_zero, e3, List.map_append, List.append_assoc]
  rfl
theorem loseN_le {keep : Int} {l s : Nat} (h : s ≤ l) : loseN keep l s ≤ l ∧ s ≤ loseN keep l s := by unfold loseN; omega
theorem Ds.Ok.mix {st : Ds} (h : st.Ok) (keep : Int) : ∀ {i : Nat}, i ≤ st.F.length → Ds.Ok { st with F := mixF keep st.F i } := by
  intro i
  induction i with
  | zero => intro _; rw [mixF_zero]; exact h
  | succ i ih =>
    intro hi
    have h1 := ih (by omega)
    rw [← mixF_step keep st.F i (by omega)]
    have hg := mixF_get keep st.F i (by omega)
    have hl : i < (mixF keep st.F i).length := by rw [mixF_len]; omega
    rw [List.getElem?_eq_getElem hl] at hg
    injection hg with hg
    obtain ⟨b1, b2, b3⟩ := h.each st.F[i] (List.getElem_mem _)
    have b4 := loseN_le (keep := keep) b2
    exact h1.set (f' := Fi.lose keep st.F[i]) hl (by rw [hg]; rfl) ⟨by simp [Fi.lose]; omega, by simp [Fi.lose]; omega⟩
theorem lose_step {W : World} {q g n cap i m B : Nat} {FR : List Fr} {st : Ds} {keep : Int} (hr : RefIn W q (.slice (some ⟨g, 0, none⟩) n cap) FR { st with F := mixF keep st.F i }) (hfl : i < FR.length) (hli : i < st.F.length) {ua : Option Addr} {uc : Nat} {l nm : List UInt8} (ho : OwnB W B 5 (.slice ua m uc) l)
    (hfe : Fi.lose keep (st.F[i]) = ⟨nm, l, m⟩) (hget : (FR.getD i Fr.zero).f = st.F[i]) (hsz : l.length ≤ 1048576 ∧ m ≤ l.length) :
    RefIn (((W.setCell ⟨g, i * 3, none⟩ (.string (text nm))).setCell ⟨g, i * 3 + 1, none⟩ (.slice ua m uc)).setCell ⟨g, i * 3 + 2, none⟩ (.int .i64 (m : Int))) q (.slice (some ⟨g, 0, none⟩) n cap) (FR.set i ⟨.slice ua m uc, ⟨nm, l, m⟩⟩) { st with F := mixF keep st.F (i + 1) } := by
  obtain ⟨curg, hcurg, -⟩ := hr.lb
  have hnm : nm = (FR.getD i Fr.zero).f.nm := by
    have : (Fi.lose keep (st.F[i])).nm = nm := by rw [hfe]
    rw [hget, ← this]; rfl
  have hst := frs_store3 hr.list hfl ⟨.slice ua m uc, ⟨nm, l, m⟩⟩ hnm
  simp only at hst
  obtain ⟨W3, hW3⟩ : ∃ X, (((W.setCell ⟨g, i * 3, none⟩ (.string (text nm))).setCell ⟨g, i * 3 + 1, none⟩ (.slice ua m uc)).setCell ⟨g, i * 3 + 2, none⟩ (.int .i64 (m : Int))) = X := ⟨_, rfl⟩
  have hblk : ∀ k, k ≠ g → W3.heap[k]? = W.heap[k]? := fun k hk => by
    rw [← hW3]
    exact (heap_setCell_other _ _ _ _ hk).trans ((heap_setCell_other _ _ _ _ hk).trans (heap_setCell_other _ _ _ _ hk))
  rw [hW3] at hst ⊢
  have how : OwnB W3 B 5 (.slice ua m uc) l := ho.of_blk fun k hk => hblk k (fun e => by
    subst e
    obtain ⟨c9, hc9⟩ := ho.blkD hk
    exact absurd (tneD hc9 hcurg) (by decide))
  have hput := hr.put hfl ⟨.slice ua m uc, ⟨nm, l, m⟩⟩ hst (fun k _ hk => hblk k hk) (how.mono (Nat.zero_le _)) hnm hsz
  have e1 : (mixF keep st.F i).set i ⟨nm, l, m⟩ = mixF keep st.F (i + 1) := by rw [← mixF_step keep st.F i hli, hfe]
  simp only [e1] at hput
  exact hput
set_option maxRecDepth 100000 in
set_option maxHeartbeats 6400000 in
theorem rlose_c {w : World} {q : Nat} {fv : Value} {FS : List Fr} {st : Ds} (h : RefIn w q fv FS st) (keep : Int) : Calls Try.prog 63 #[.pointer (some ⟨q, 0, none⟩), .int .i64 keep] w
    (fun e w' => e = .returned (.tuple #[]) ∧ ∃ FS', RefIn w' q fv FS' (st.lost keep st.F) ∧ Trn (fun k => k = q ∨ fv.ownBlock = some k) w w' ∧ ∀ x ∈ FS', ∀ k, x.v.ownBlock = some k → w.heap.size ≤ k) := by
  obtain ⟨i0, hi0, hz0, hz1, hz2⟩ := info_parts infoD5
  obtain ⟨a, cap, rfl, hle, hmax, -⟩ := h.at
  obtain ⟨n, hn⟩ : ∃ n, FS.length = n := ⟨_, rfl⟩
  rw [hn] at h hle ⊢
  have HLN := Lib.hid (show st.F.length = n by rw [← h.pr]; simpa using hn)
  have HOK := Lib.hid h.ok
  have HST := Lib.hid (show RefIn w q (.slice a n cap) FS { st with F := mixF keep st.F 0 } by rw [mixF_zero]; exact h)
  have HQ := Lib.hid (h.lt (.inl rfl))
  have HNN := Lib.hid hn
  clear h hn
  go_enter Try.func63, Try.ntmps63
  go_wp2
  go_loopw [4] (fun j wr => ∃ (i : Nat) (FR : List Fr), i ≤ n ∧ j = .int .i64 (i : Int) ∧ FR.length = n ∧ RefIn wr q (.slice a n cap) FR { st with F := mixF keep st.F i } ∧ Trn (fun k => (Value.slice a n cap).ownBlock = some k) w wr ∧ ∀ j, j < i → ∀ k, (FR.getD j Fr.zero).v.ownBlock = some k → w.heap.size ≤ k) (fun j _ => n - (intOf j).toNat)
  case atStart => exact ⟨0, FS, by omega, rfl, HNN.out, HST.out, Trn.refl, fun j hj => by omega⟩
  case round =>
    clear HST
    obtain ⟨i, FR, hi, rfl, hfl, hr, ht, hfr⟩ := hrel
    have HR := Lib.hid hr
    have HT := Lib.hid ht
    have HFR := Lib.hid hfr
    have HFL := Lib.hid hfl
    obtain ⟨q0, q1, q2, q3, q4, q5, q6, q7⟩ := hr.cs
    clear hr ht hfr hfl q0 q2 q4 q6 q7
    by_cases hlt : i < n
    · have hii : (i : Int) < (n : Int) := by omega
      have hic : (i : Int) < (cap : Int) := by omega
      obtain ⟨g, rfl⟩ : ∃ g, a = some ⟨g, 0, none⟩ := by
        rcases HR.out.list.2 with ⟨e, -⟩ | ⟨g, cap', cur, e, -⟩
        · injection e with e1 e2 e3; omega
        · injection e with e1 e2 e3; exact ⟨g, e1⟩
      obtain ⟨a', cap', e9, -, -, hat⟩ := HR.out.at
      rw [HFL.out] at e9 hat
      injection e9 with e91 e92 e93
      subst e91 e93
      obtain ⟨b, off, e8, hat⟩ := hat i hlt
      injection e8 with e8
      injection e8 with e81 e82
      subst e81 e82
      obtain ⟨-, hl1, hl2, xa, xc, hxv, hxb⟩ := HR.out.mem (i := i) (by rw [HFL.out]; exact hlt)
      have hget : (FR.getD i Fr.zero).f = st.F[i]'(by rw [HLN.out]; exact hlt) := by
        have h1 := HR.out.pr
        have h2 := mixF_get keep st.F i (by rw [HLN.out]; exact hlt)
        have h3 : (FR.map Fr.f)[i]? = (mixF keep st.F i)[i]? := by rw [h1]
        rw [h2, List.getElem?_map, List.getElem?_eq_getElem (by rw [HFL.out]; exact hlt)] at h3
        injection h3 with h3
        rw [← h3, List.getD_eq_getElem?_getD, List.getElem?_eq_getElem (by rw [HFL.out]; exact hlt)]
        rfl
      have HGET := Lib.hid hget
      have HAT := Lib.hid (show ∀ W, Below wr.heap.size wr W → W.cell? ⟨g, i * 3, none⟩ = some (.string (text (FR.getD i Fr.zero).f.nm)) ∧ W.cell? ⟨g, i * 3 + 1, none⟩ = some (.slice xa (FR.getD i Fr.zero).f.b.length xc) ∧ W.cell? ⟨g, i * 3 + 2, none⟩ = some (.int .i64 ((FR.getD i Fr.zero).f.su : Int)) from fun W hb => by
        obtain ⟨k1, k2, k3⟩ := hat W hb
        rw [Nat.zero_add] at k1 k2 k3
        rw [hxv] at k2
        exact ⟨k1, k2, k3⟩)
      have HXB := Lib.hid hxb
      have HLL := Lib.hid (And.intro hl1 hl2)
      have HXV := Lib.hid hxv
      obtain ⟨k1, k2, k3⟩ := HAT.out wr (Below.refl _ _)
      obtain ⟨nm, hnm⟩ : ∃ z, text (FR.getD i Fr.zero).f.nm = z := ⟨_, rfl⟩
      obtain ⟨xl, hxl⟩ : ∃ z, (FR.getD i Fr.zero).f.b.length = z := ⟨_, rfl⟩
      obtain ⟨su, hsu⟩ : ∃ z, (FR.getD i Fr.zero).f.su = z := ⟨_, rfl⟩
      obtain ⟨xb, hxbb⟩ : ∃ z, (FR.getD i Fr.zero).f.b = z := ⟨_, rfl⟩
      have HNM := Lib.hid hnm
      have HSU := Lib.hid (And.intro hsu hxbb)
      rw [hnm, hxl, hsu] at HAT
      rw [hnm] at k1
      rw [hxl] at k2 HXB HLL hl1 HXV
      rw [hsu] at k3 HLL hl2
      rw [hxl] at hl2
      rw [hxbb] at HXB
      clear hat hxv hxb hget hnm hsu hxbb hxl
      obtain ⟨m, hm⟩ : ∃ m, m = loseN keep xl su := ⟨_, rfl⟩
      have hmi : (su : Int) + max 0 (min keep ((xl : Int) - (su : Int))) = (m : Int) := by rw [hm]; unfold loseN; omega
      have hml : m ≤ xl := by rw [hm]; exact (loseN_le hl2).1
      have hw1 : IntKind.i64.wrap ((xl : Int) - (su : Int)) = (xl : Int) - (su : Int) := by rw [IntKind.wrap_i64]; omega
      have hw2 : IntKind.i64.wrap ((su : Int) + max 0 (min keep ((xl : Int) - (su : Int)))) = (m : Int) := by rw [hmi, IntKind.wrap_i64]; omega
      have HM := Lib.hid (show m = loseN keep xl su ∧ m ≤ xl from ⟨hm, hml⟩)
      have HLM := Lib.hid (show (xb.take m).length = m by rw [List.length_take]; have := HXB.out.len; omega)
      clear hm hmi hl1 hl2 hml q5 q3
      have hal := alloc_below wr (.cells #[.string nm, .slice xa xl xc, .int .i64 (su : Int)] 100)
      have hbx := heap_alloc_new wr (.cells #[.string nm, .slice xa xl xc, .int .i64 (su : Int)] 100)
      go_upto_region 4 with (fail)
      clear k1 k2 k3 q1
      obtain ⟨W1, hW1⟩ : ∃ X, wr.alloc (.cells #[.string nm, .slice xa xl xc, .int .i64 (su : Int)] 100) = X := ⟨_, rfl⟩
      rw [hW1] at hal hbx ⊢
      obtain ⟨bx, hbx9⟩ : ∃ z, wr.heap.size = z := ⟨_, rfl⟩
      rw [hbx9] at hbx ⊢
      have HAL := Lib.hid hal
      have HBX := Lib.hid hbx
      have HBN := Lib.hid hbx9
      clear hal hW1 hbx9
      have b0 : W1.cell? ⟨bx, 0, none⟩ = some (.string nm) := by rw [cell_of_row _ bx 0 _ _ (0, 0) hbx]; rfl
      have b1 : W1.cell? ⟨bx, 1, none⟩ = some (.slice xa xl xc) := by rw [cell_of_row _ bx 1 _ _ (0, 0) hbx]; rfl
      have b2 : W1.cell? ⟨bx, 2, none⟩ = some (.int .i64 (su : Int)) := by rw [cell_of_row _ bx 2 _ _ (0, 0) hbx]; rfl
      clear hbx
      go_upto_region 5 with (fail)
      clear b0 b1 b2 hw1 hw2
      have HR1 := Lib.hid (HR.out.below HAL.out)
      have HF := Lib.hid (fun W (hW : Below W1.heap.size W1 W) => show (W.cell? ⟨q, 1, none⟩ = some (.slice (some ⟨g, 0, none⟩) n cap) ∧ W.cell? ⟨bx, 0, none⟩ = some (.string nm) ∧ W.cell? ⟨bx, 1, none⟩ = some (.slice xa xl xc)) from
        ⟨(HR1.out.below hW).cs.2.1, by rw [cell_of_row _ bx 0 _ _ (0, 0) ((hW.block _ (Array.getElem?_eq_some_iff.1 HBX.out).1).trans HBX.out)]; rfl, by rw [cell_of_row _ bx 1 _ _ (0, 0) ((hW.block _ (Array.getElem?_eq_some_iff.1 HBX.out).1).trans HBX.out)]; rfl⟩)
      refine wp_region_flow_tail 16 [none, none, none, none, none, none, none, none, none, none, none, none, none, none, none, none, none, none, none, none, none, none, none, none, none, none, none, none, none, none, none, none, none, none, none, some 0, some 1, some 2, some 3, some 4, some 5, some 6, some 7, some 8, some 9, some 10, some 11, some 12, some 13, some 14, some 15, none, none, none, none, none, none, none, none, none, none, none, none, none, none] (fun i => [u35, u36, u37, u38, u39, u40, u41, u42, u43, u44, u45, u46, u47, u48, u49, u50].getD i undef) [(fun v _ => v = .pointer (some ⟨q, 0, none⟩)), (fun v _ => v = .pointer (some ⟨q, 0, none⟩)), (fun v _ => v = .pointer (some ⟨q, 1, none⟩)), (fun v _ => v = .slice (some ⟨g, 0, none⟩) n cap), (fun v _ => v = .int .i64 (i : Int)), (fun v _ => v = .pointer (some ⟨bx, 0, none⟩)), (fun v _ => v = .string nm), (EmptyV W1.heap.size), (fun v _ => v = .pointer (some ⟨bx, 1, none⟩)), (fun v _ => v = .slice xa xl xc), (fun v _ => v = .int .i64 (m : Int)), (fun v _ => v = .slice xa m xc), (fun v W => OwnB W W1.heap.size 5 v (xb.take m)), (fun v _ => v = .int .i64 (m : Int)), (BuiltV nm m (xb.take m) W1.heap.size), (fun v _ => v = .pointer (some ⟨g, i * 3, none⟩))] (fun _ => False) (by kernel_rfl) (by kernel_rfl) (by kernel_rfl) rfl rfl rfl ?_ ?_ ?_
      · intro g hg v X Y hX hY hv
        simp only [List.mem_cons, List.not_mem_nil, or_false] at hg
        rcases hg with rfl | rfl | rfl | rfl | rfl | rfl | rfl | rfl | rfl | rfl | rfl | rfl | rfl | rfl | rfl | rfl
        all_goals first
          | exact hv
          | exact hv.kept hY
      · simp only [flowOpsF, List.take_succ_cons, List.take_zero, and_true]
        refine ⟨?_, ?_, ?_, ?_, ?_, ?_, ?_, ?_, ?_, ?_, ?_, ?_, ?_, ?_, ?_, ?_⟩
        · intro xs W hW hn
          simp only [flowAct, List.zipWith_cons_cons, List.zipWith_nil_left]
          go_wp2_with (fail)
          exact ⟨rfl, _, rfl, Below.refl _ _, rfl, fun h => h.elim⟩
        · intro xs W hW hn
          simp [flowNeeds, Region.binds] at hn
          simp only [flowAct, List.zipWith_cons_cons, List.zipWith_nil_left]
          try simp only [hn]
          go_wp2_with (fail)
          exact ⟨rfl, _, rfl, Below.refl _ _, rfl, fun h => h.elim⟩
        · intro xs W hW hn
          simp [flowNeeds, Region.binds] at hn
          simp only [flowAct, List.zipWith_cons_cons, List.zipWith_nil_left]
          try simp only [hn]
          go_wp2_with (fail)
          exact ⟨rfl, _, rfl, Below.refl _ _, rfl, fun h => h.elim⟩
        · intro xs W hW hn
          obtain ⟨z1, z2, z3⟩ := HF.out W hW
          simp [flowNeeds, Region.binds] at hn
          simp only [flowAct, List.zipWith_cons_cons, List.zipWith_nil_left]
          try simp only [hn]
          go_wp2_with (fail)
          exact ⟨rfl, _, rfl, Below.refl _ _, rfl, fun h => h.elim⟩
        · intro xs W hW hn
          simp only [flowAct, List.zipWith_cons_cons, List.zipWith_nil_left]
          go_wp2_with (fail)
          exact ⟨rfl, _, rfl, Below.refl _ _, rfl, fun h => h.elim⟩
        · intro xs W hW hn
          simp only [flowAct, List.zipWith_cons_cons, List.zipWith_nil_left]
          go_wp2_with (fail)
          exact ⟨rfl, _, rfl, Below.refl _ _, rfl, fun h => h.elim⟩
        · intro xs W hW hn
          obtain ⟨z1, z2, z3⟩ := HF.out W hW
          simp [flowNeeds, Region.binds] at hn
          simp only [flowAct, List.zipWith_cons_cons, List.zipWith_nil_left]
          try simp only [hn]
          go_wp2_with (fail)
          exact ⟨rfl, _, rfl, Below.refl _ _, rfl, fun h => h.elim⟩
        · intro xs W hW hn
          simp only [flowAct, List.zipWith_cons_cons, List.zipWith_nil_left]
          go_wp2_with (fail)
          exact ⟨rfl, _, rfl, alloc_below _ _, ⟨_, rfl, OwnB.empty W W1.heap.size 5 hW.size⟩, fun h => h.elim⟩
        · intro xs W hW hn
          simp only [flowAct, List.zipWith_cons_cons, List.zipWith_nil_left]
          go_wp2_with (fail)
          exact ⟨rfl, _, rfl, Below.refl _ _, rfl, fun h => h.elim⟩
        · intro xs W hW hn
          obtain ⟨z1, z2, z3⟩ := HF.out W hW
          simp [flowNeeds, Region.binds] at hn
          simp only [flowAct, List.zipWith_cons_cons, List.zipWith_nil_left]
          try simp only [hn]
          go_wp2_with (fail)
          exact ⟨rfl, _, rfl, Below.refl _ _, rfl, fun h => h.elim⟩
        · intro xs W hW hn
          simp only [flowAct, List.zipWith_cons_cons, List.zipWith_nil_left]
          go_wp2_with (fail)
          exact ⟨rfl, _, rfl, Below.refl _ _, rfl, fun h => h.elim⟩
        · intro xs W hW hn
          simp [flowNeeds, Region.binds] at hn
          have hml := HM.out.2
          have hmx : (m : Int) ≤ (xc : Int) := by have := HXB.out.le; omega
          have hm0 : (0 : Int) ≤ (m : Int) := by omega
          simp only [flowAct, List.zipWith_cons_cons, List.zipWith_nil_left]
          try simp only [hn]
          go_wp2_with (fail)
          exact ⟨rfl, _, rfl, Below.refl _ _, rfl, fun h => h.elim⟩
        · intro xs W hW hn
          simp [flowNeeds, Region.binds] at hn
          obtain ⟨⟨g7, e7, o7⟩, e11⟩ := hn
          simp only [flowAct, List.zipWith_cons_cons, List.zipWith_nil_left]
          simp only [e7, e11]
          go_wp2_with (refine wpList_append_e0 rfl _ _ 30 rfl (base := W1.heap.size) (e := 5) (g := g7) (l := xb.take m) (i := i0) Try.underlying30 hi0 hz0 hz1 hz2 rfl o7 rfl ((HXB.out.below (HAL.out.trans (hW.mono HAL.out.size))).take HM.out.2) (by have := HM.out.2; have := HLL.out.1; omega) hW.size ?_; intro v9 w9 ho9 hb9)
          exact ⟨rfl, _, rfl, hb9, ho9, fun h => h.elim⟩
        · intro xs W hW hn
          simp only [flowAct, List.zipWith_cons_cons, List.zipWith_nil_left]
          go_wp2_with (fail)
          exact ⟨rfl, _, rfl, Below.refl _ _, rfl, fun h => h.elim⟩
        · intro xs W hW hn
          simp [flowNeeds, Region.binds] at hn
          obtain ⟨e6, o12, e13⟩ := hn
          obtain ⟨ua, uc, e12, -⟩ := o12.bys
          rw [HLM.out] at e12
          rw [e12] at o12
          have HO12 := Lib.hid o12
          clear o12
          simp only [flowAct, List.zipWith_cons_cons, List.zipWith_nil_left]
          simp only [e6, e12, e13]
          go_wp2_with (fail)
          exact ⟨rfl, _, rfl, Below.refl _ _, ⟨_, _, rfl, HO12.out⟩, fun h => h.elim⟩
        · intro xs W hW hn
          simp [flowNeeds, Region.binds] at hn
          simp only [flowAct, List.zipWith_cons_cons, List.zipWith_nil_left]
          try simp only [hn]
          go_wp2_with (fail)
          exact ⟨rfl, _, rfl, Below.refl _ _, rfl, fun h => h.elim⟩
      · intro xs W hW hall hfr
        clear hfr
        simp only [flowAll, and_true, Nat.zero_add, Nat.reduceAdd] at hall
        obtain ⟨a0, a1, a2, a3, a4, a5, a6, a7, a8, a9, a10, a11, a12, a13, ⟨ua, uc, a14, ou⟩, a15⟩ := hall
        simp only [flowAct, List.zipWith_cons_cons, List.zipWith_nil_left, List.drop_succ_cons, List.drop_zero]
        simp only [a14, a15]
        clear a0 a1 a2 a3 a4 a5 a6 a7 a8 a9 a10 a11 a12 a13 a14 a15
        have HOU := Lib.hid ou
        have HR2 := Lib.hid (HR1.out.below hW)
        have HW := Lib.hid (hW)
        obtain ⟨k1, k2, k3⟩ := HAT.out W (HAL.out.trans (hW.mono HAL.out.size))
        obtain ⟨cur, hcur, -⟩ := HR2.out.lb
        have f1 := frozen_of_row W g (i * 3) _ 100 hcur
        have f2 := frozen_of_row W g (i * 3 + 1) _ 100 hcur
        have f3 := frozen_of_row W g (i * 3 + 2) _ 100 hcur
        clear ou hW hcur
        go_wp2
        go_roundw
        case rel =>
          have hln : i < FR.length := by rw [HFL.out]; exact hlt
          have hli : i < st.F.length := by rw [HLN.out]; exact hlt
          have hfe : Fi.lose keep (st.F[i]) = ⟨(FR.getD i Fr.zero).f.nm, xb.take m, m⟩ := by
            have h1 := HM.out.1
            have h2 := HXB.out.len
            obtain ⟨e1, e2⟩ := HSU.out
            rw [← HGET.out]
            unfold Fi.lose
            rw [e1, e2, h2, ← h1]
          have hs := lose_step HR2.out hln hli HOU.out hfe HGET.out ⟨by rw [HLM.out]; have := HM.out.2; have := HLL.out.1; omega, by rw [HLM.out]; exact Nat.le_refl _⟩
          rw [HNM.out] at hs
          have HS := Lib.hid hs
          have HTT := Lib.hid (((((HT.out.then (Trn.of HAL.out)).then (Trn.of (HW.out))).set (p := ⟨g, i * 3, none⟩) (v := .string nm) (.inl rfl)).set (p := ⟨g, i * 3 + 1, none⟩) (v := .slice ua m uc) (.inl rfl)).set (p := ⟨g, i * 3 + 2, none⟩) (v := .int .i64 (m : Int)) (.inl rfl))
          have HJJ := Lib.hid (show ∀ j, j < i + 1 → ∀ k, ((FR.set i ⟨.slice ua m uc, ⟨(FR.getD i Fr.zero).f.nm, xb.take m, m⟩⟩).getD j Fr.zero).v.ownBlock = some k → w.heap.size ≤ k from fun j hj k hk => by
            by_cases hji : j = i
            · subst hji
              rw [getD_setFr hln] at hk
              have h1 := (HOU.out.lt k hk).1
              have h2 := HAL.out.size
              have h3 := HT.out.size
              omega
            · rw [List.getD_eq_getElem?_getD, List.getElem?_set_ne (Ne.symm hji), ← List.getD_eq_getElem?_getD] at hk
              exact HFR.out j (by omega) k hk)
          clear hs hfe
          exact ⟨i + 1, _, hlt, by go_num, by rw [List.length_set]; exact HFL.out, HS.out, HTT.out, HJJ.out⟩
        case measure => simp [intOf]; omega
    · obtain rfl : i = n := by omega
      have f2 := HR.out.fz 2
      have f3 := HR.out.fz 3
      have f5 := HR.out.fz 5
      obtain ⟨fl, hfl9⟩ : ∃ z, st.fails = z := ⟨_, rfl⟩
      simp only at q3
      rw [hfl9] at q3
      have HFLS := Lib.hid hfl9
      have hw3 : wrap64 (fl + 1) = wr64 (fl + 1) := by unfold wr64; rw [IntKind.wrap_i64]; unfold wrap64; omega
      have HW := Lib.hid (show IntKind.i64.wrap (fl + 1) = wr64 (fl + 1) from rfl)
      obtain ⟨r0, r1, r2, r3, r4, r5, r6, r7⟩ := HR.out.cs
      clear r0 r1 r3 r4 r6 r7 hfl9
      go_wp2
      refine bodyPost_end (results_none rfl _ _ _) rfl ?_
      have hd := HR.out
      have hmx : mixF keep st.F i = st.F.map (Fi.lose keep) := by rw [← HLN.out]; exact mixF_all keep st.F
      rw [hmx] at hd
      refine ⟨rfl, FR, hd.turn (st' := st.lost keep st.F) (fun k hk _ => (heap_setCell_other _ _ _ _ hk).trans ((heap_setCell_other _ _ _ _ hk).trans (heap_setCell_other _ _ _ _ hk))) ?_ rfl ⟨hd.ok.len, hd.ok.each, hd.ok.asc, hd.ok.pn, hd.ok.room⟩, (((HT.out.mono (fun k hk => .inr hk)).set (.inl (.inl rfl))).set (.inl (.inl rfl))).set (.inl (.inl rfl)), fun x hx k hk => ?_⟩
      · rw [heap_setCell_same _ q 5 _ 48 _ (by rw [heap_setCell_same _ q 3 _ 48 _ (by rw [heap_setCell_same _ q 2 _ 48 _ hd.head])])]
        simp only [Ds.lost, HFLS.out]
        rfl
      · obtain ⟨j, hj, e⟩ := List.getElem_of_mem hx
        exact HFR.out j (by rw [← HFL.out]; exact hj) k (by rw [List.getD_eq_getElem?_getD, List.getElem?_eq_getElem hj, e]; exact hk)
end Go.Proofs.Ytplanmiggeghfaa
