/-
  Disk: the reference: Drop, Make.
-/
import Derived.Test.YtplanmiggeghfaaDRA
import Derived.Shelf.Abstract
namespace Go.Proofs.Ytplanmiggeghfaa
open Go.RowKit Go Go.Sort Go.Maps Go.WideMaps
set_option linter.unusedVariables false
set_option maxRecDepth 20000

theorem Try.infoFr : (Try.prog.info? 100).map (fun i => (i.zero, i.size, i.bytes)) = some (some (.agg #[.string ⟨#[]⟩, .slice none 0 0, .int .i64 0]), 3, 48) := by kernel_rfl
theorem wpList_append_fr {w : World} {ops : Array Oper} {rest : List Oper} {o : Oper} {ac : Act} {Q : Exit → Act → World → Prop} (hgd : o.guard = none) (os ox : Operand)
    (ho : o.op = .call { callee := .builtin .append, args := #[os, ox], argTypes := #[46, 46] })
    {base : Nat} {v : Value} {l : List Fr} (hs : ac.eval os = v) (hown : OwnL 3 100 Fr.arr w base v l) (x : Fr) {nm : ByteArray} (hnm : text x.f.nm = nm) {xa : Option Addr} {xl xc : Nat} (hxv : x.v = .slice xa xl xc) {su : Int} (hsu : (x.f.su : Int) = su) {e9 : TypeId}
    (hx : ac.eval ox = .slice (some ⟨w.heap.size, 0, none⟩) 1 1) (h63 : l.length ≤ 1000) (hbase : base ≤ w.heap.size)
    (h : ∀ v' w', OwnL 3 100 Fr.arr w' base v' (l ++ [x]) → (w.alloc (.cells #[.string nm, .slice xa xl xc, .int .i64 su] e9)).grownBy w' v.ownBlock → wpList Try.prog ops Q rest (ac.put o.dst v') w') :
    wpList Try.prog ops Q (o :: rest) ac (w.alloc (.cells #[.string nm, .slice xa xl xc, .int .i64 su] e9)) := by
  obtain ⟨i0, hi, hz0, hz1, hz2⟩ := info_parts Try.infoFr
  refine wpList_append_el hgd os ox 46 100 i0 _ 48 ho Try.underlying46 hi hz0 hz1 hz2 rfl (by decide) hs hown x (by unfold Fr.arr; rw [hnm, hxv, hsu]) rfl ?_ hx (by unfold maxLen; omega) (by omega) hbase h
  intro u hu
  simp only [List.mem_cons, List.not_mem_nil, or_false] at hu
  rcases hu with rfl | rfl | rfl <;> rfl
/-- The list is another. -/
theorem RefIn.newlist {W : World} {q B : Nat} {fv v : Value} {FS FS' : List Fr} {st : Ds} (h : RefIn W q fv FS st) (hl : OwnL 3 100 Fr.arr W B v FS') (ho : ∀ x ∈ FS', OwnB W 0 5 x.v x.f.b) (hok : Ds.Ok { st with F := FS'.map Fr.f }) :
    RefIn (W.setCell ⟨q, 1, none⟩ v) q v FS' { st with F := FS'.map Fr.f } := by
  refine ⟨?_, ?_, fun x hx => (ho x hx).of_blk fun k hk => heap_setCell_other _ _ _ _ (fun e => ?_), rfl, hok⟩
  · rw [heap_setCell_same W q 1 _ 48 v h.head]
    rfl
  · refine OwnL.of_block (hl.mono (Nat.zero_le _)) fun k hk => heap_setCell_other _ _ _ _ (fun e => ?_)
    have e : k = q := e
    subst e
    rcases hl.2 with ⟨e1, -⟩ | ⟨g, cap, cur, e1, -, hg, -⟩
    · rw [e1] at hk; cases hk
    · rw [e1] at hk
      injection hk with hk
      subst hk
      exact absurd (tneD hg h.head) (by decide)
  · have e : k = q := e
    subst e
    obtain ⟨c9, hc9⟩ := (ho x hx).blkD hk
    exact absurd (tneD hc9 h.head) (by decide)
def keepR (nm : List UInt8) (x : Fr) : Bool := !(x.f.nm == nm)
theorem keepR_map (nm : List UInt8) : ∀ l : List Fr, (l.filter (keepR nm)).map Fr.f = delF nm (l.map Fr.f)
  | [] => rfl
  | x :: r => by
    have ih := keepR_map nm r
    unfold delF at ih ⊢
    rw [List.map_cons, List.filter_cons, List.filter_cons]
    show (if keepR nm x = true then x :: r.filter (keepR nm) else r.filter (keepR nm)).map Fr.f = if keepR nm x = true then x.f :: _ else _
    split <;> simp [ih]
theorem keepR_step {nm : List UInt8} {l : List Fr} {i : Nat} (hi : i < l.length) : (l.take (i + 1)).filter (keepR nm) = (l.take i).filter (keepR nm) ++ (if (l.getD i Fr.zero).f.nm = nm then [] else [l.getD i Fr.zero]) := by
  rw [takeFr_snoc hi, List.filter_append, List.filter_cons]
  unfold keepR
  by_cases h : (l.getD i Fr.zero).f.nm = nm
  · rw [if_pos h, h]
    simp
  · rw [if_neg h]
    have : ((l.getD i Fr.zero).f.nm == nm) = false := by simpa using h
    rw [this]
    rfl
theorem Ds.Ok.del {st : Ds} (h : st.Ok) (nm : List UInt8) : Ds.Ok { st with F := delF nm st.F } := by
  unfold delF
  exact ⟨Nat.le_trans (List.length_filter_le _ _) h.len, fun f hf => h.each f (List.mem_filter.1 hf).1, h.asc.filter _, h.pn, h.room⟩
set_option maxRecDepth 100000 in
set_option maxHeartbeats 6400000 in
theorem rdrop_c {w : World} {q : Nat} {st : Ds} {F : Nat → Prop} (hk : Rk w q st F) (nm : List UInt8) : Calls Try.prog 53 #[.pointer (some ⟨q, 0, none⟩), .string (text nm)] w (RPost q F (.int .i64 (st.drop nm).1) (st.drop nm).2 w) := by
  have HKK := Lib.hid hk
  obtain ⟨fv, FS, h, rfl⟩ := hk
  obtain ⟨c0, c1, c2, c3, c4, c5, c6, c7⟩ := h.cs
  cases hon : st.on with
  | false =>
    have e : st.drop nm = (150, st) := by unfold Ds.drop; rw [if_pos hon]
    rw [e]
    rw [hon] at c2
    clear h hon e
    go_enter Try.func53, Try.ntmps53
    go_wp2
    go_ret
    exact rk_same HKK.out _
  | true =>
    rw [hon] at c2
    rcases h.look nm with ⟨hl, hno⟩ | ⟨i, hi, hnm, hl⟩
    · have e : st.drop nm = (152, st) := by unfold Ds.drop; rw [if_neg (by simp [hon]), hl]
      rw [e]
      have HFN := Lib.hid (rfind_none h nm hno)
      obtain ⟨tx, htx⟩ : ∃ s, text nm = s := ⟨_, rfl⟩
      rw [htx] at HFN ⊢
      clear htx h hl hno hon e c0 c1 c3 c4 c5 c6 c7
      go_enter Try.func53, Try.ntmps53
      go_wp2_with (go_at_call 60; (with_reducible refine HFN.out.mono ?_); rintro e9 w9 ⟨rfl, hb9⟩; have HB9 := Lib.hid hb9; clear hb9)
      go_ret
      exact rk_below HKK.out HB9.out _
    · have HFN := Lib.hid (rfind_some h nm hi hnm)
      have HH := Lib.hid h
      have HI := Lib.hid (And.intro hi hnm)
      have HLK := Lib.hid (And.intro hon hl)
      obtain ⟨tx, htx⟩ : ∃ s, text nm = s := ⟨_, rfl⟩
      rw [htx] at HFN ⊢
      clear htx
      have hi0n : ¬ (i : Int) < 0 := by omega
      obtain ⟨a, cap, rfl, hle, -⟩ := HH.out.at
      by_cases hp : st.plan = true ∧ st.pn = 0
      · have e : st.drop nm = (150, st.lost st.keep st.F) := by
          unfold Ds.drop
          rw [if_neg (by simp [hon]), hl]
          exact opd_no hp
        rw [e]
        have HP := Lib.hid hp
        clear h hl hon hi hnm e hp c0 c1 c3 c4 c5 c6 c7 hle
        go_enter Try.func53, Try.ntmps53
        go_wp2_with (first | (go_at_call 60; (with_reducible refine HFN.out.mono ?_); rintro e9 w9 ⟨rfl, hb9⟩; have HB9 := Lib.hid hb9; have HR9 := Lib.hid (HH.out.below hb9); clear hb9) | (go_at_call 75; (with_reducible refine (rcounted_no HR9.out HP.out.1 HP.out.2).mono ?_); rintro e8 w8 ⟨rfl, rfl⟩; have q7 := HR9.out.cs.2.2.2.2.2.2.2) | (go_at_call 63; (with_reducible refine (rlose_p HR9.out st.keep).mono ?_); rintro e7 w7 ⟨rfl, F7, hr7, ht7, hf7⟩))
        go_ret
        exact ⟨rfl, F7, hr7, (Trn.of HB9.out).then ht7, fun k hk => (hf7 k hk).imp_right (fun h9 => Nat.le_trans HB9.out.size h9)⟩
      · have e : st.drop nm = (0, { st.tick with F := delF nm st.F }) := by
          unfold Ds.drop
          rw [if_neg (by simp [hon]), hl]
          simp only
          rw [opd_yes hp]
        rw [e]
        have HP := Lib.hid hp
        have HOKT := Lib.hid hle
        have hlen64 : FS.length ≤ 64 := by have := h.ok.len; rw [← h.pr] at this; simpa using this
        have HPR := Lib.hid h.pr
        clear h hl hon hi hnm e hp c0 c1 c3 c4 c5 c6 c7 hle
        go_enter Try.func53, Try.ntmps53
        go_upto_region 9 with (first | (go_at_call 60; (with_reducible refine HFN.out.mono ?_); rintro e9 w9 ⟨rfl, hb9⟩; have HB9 := Lib.hid hb9; have HR9 := Lib.hid (HH.out.below hb9); clear hb9) | (go_at_call 75; (with_reducible refine (rcounted_c HR9.out HP.out).mono ?_); rintro e8 w8 ⟨rfl, hr8, ht8⟩; have HR8 := Lib.hid hr8; have HT8 := Lib.hid (show Trn (rfoot q (.slice a FS.length cap) FS) w w8 from (Trn.of HB9.out).then (rtrn_q ht8)); clear hr8 ht8))
        clear c2 hi0n
        obtain ⟨n, hn⟩ : ∃ n, FS.length = n := ⟨_, rfl⟩
        have HNN := Lib.hid hn
        rw [hn] at HR8 HT8 HKK HH HR9 hlen64 ⊢
        clear hn
        go_wp2
        go_loopw [6, 7] (fun v j wr => ∃ j' : Nat, j' ≤ n ∧ j = .int .i64 (j' : Int) ∧ OwnL 3 100 Fr.arr wr w8.heap.size v ((FS.take j').filter (keepR nm)) ∧ Below w8.heap.size w8 wr) (fun _ j _ => n - (intOf j).toNat)
        case atStart => exact ⟨0, by omega, rfl, OwnL.nil _ _ _, Below.refl _ _⟩
        case round =>
          obtain ⟨j, hj, rfl, ho, hb⟩ := hrel
          have HO := Lib.hid ho
          have HB := Lib.hid hb
          have q1 := (HR8.out.below hb).cs.2.1
          clear ho hb
          by_cases hlt : j < n
          · have hji : (j : Int) < (n : Int) := by omega
            by_cases hjk : j = i
            · subst hjk
              have hkk : ((j : Int) != (j : Int)) = false := by simp
              have HST := Lib.hid (show (FS.take (j + 1)).filter (keepR nm) = (FS.take j).filter (keepR nm) by rw [keepR_step (by rw [HNN.out]; exact hlt), if_pos HI.out.2, List.append_nil])
              have HLT := Lib.hid hlt
              clear hlt
              go_wp2
              go_roundw
              case rel => exact ⟨j + 1, HLT.out, by go_num, by rw [HST.out]; exact HO.out, HB.out⟩
              case measure => simp [intOf]; have := HLT.out; omega
            · have hkk : ((j : Int) != (i : Int)) = true := by simp; omega
              have hjl : j < FS.length := by rw [HNN.out]; exact hlt
              obtain ⟨-, hcp, g, xa, xc, rfl, hxv, -, hat⟩ := HR8.out.spot hjl
              obtain ⟨z1, z2, z3, z4, -⟩ := hat wr HB.out
              have hne : (FS.getD j Fr.zero).f.nm ≠ nm := fun h9 => hjk (by have h8 := HI.out.1; exact (HH.out.one hjl (by omega) (by rw [h9, HI.out.2])))
              have HST := Lib.hid (show (FS.take (j + 1)).filter (keepR nm) = (FS.take j).filter (keepR nm) ++ [FS.getD j Fr.zero] by rw [keepR_step hjl, if_neg hne])
              have hjc : (j : Int) < (cap : Int) := by omega
              have HXV := Lib.hid hxv
              have HLT := Lib.hid hlt
              have HLN := Lib.hid (show ((FS.take j).filter (keepR nm)).length ≤ 1000 from by have := List.length_filter_le (keepR nm) (FS.take j); rw [List.length_take] at this; omega)
              obtain ⟨x, hx⟩ : ∃ x, FS.getD j Fr.zero = x := ⟨_, rfl⟩
              rw [hx] at z2 z3 z4 HST HXV
              obtain ⟨tn, htn⟩ : ∃ z, text x.f.nm = z := ⟨_, rfl⟩
              obtain ⟨xl, hxl⟩ : ∃ z, x.f.b.length = z := ⟨_, rfl⟩
              obtain ⟨su, hsu⟩ : ∃ z, (x.f.su : Int) = z := ⟨_, rfl⟩
              rw [htn] at z2
              rw [hxl] at z3 HXV
              rw [hsu] at z4
              have HTN := Lib.hid (And.intro htn hsu)
              clear hlt hjk hat hxv hne hjl hx htn hxl hsu hcp z1
              go_wp2_with (refine wpList_append_fr rfl _ _ rfl rfl HO.out x HTN.out.1 HXV.out HTN.out.2 rfl HLN.out HB.out.size ?_; intro v7 w7 ho7 hg7; have HO7 := Lib.hid ho7; have HG7 := Lib.hid hg7; clear ho7 hg7)
              go_roundw
              case rel => exact ⟨j + 1, HLT.out, by go_num, by rw [HST.out]; exact HO7.out, (HB.out.alloc HB.out.size _).grown HG7.out (by have := HB.out.size; simp; omega) (fun k hk => (HO.out.lt k hk).1)⟩
              case measure => simp [intOf]; have := HLT.out; omega
          · obtain rfl : j = n := by omega
            have htk : FS.take j = FS := List.take_of_length_le (by rw [HNN.out]; exact Nat.le_refl _)
            rw [htk] at HO
            obtain ⟨va, vc, hve, -⟩ := HO.out.ls (z := Fr.zero) fr_size
            obtain ⟨vn, hvn⟩ : ∃ z, (FS.filter (keepR nm)).length = z := ⟨_, rfl⟩
            rw [hvn] at hve
            subst hve
            have f1 := (HR8.out.below HB.out).fz 1
            clear htk hvn
            go_wp2
            go_ret
            have hmem : ∀ x ∈ FS.filter (keepR nm), x ∈ FS := fun x hx => (List.mem_filter.1 hx).1
            have hrw := HR8.out.below HB.out
            have hmp : (FS.filter (keepR nm)).map Fr.f = delF nm st.F := by rw [keepR_map, HPR.out]
            have hnl := hrw.newlist HO.out (fun x hx => hrw.own x (hmem x hx)) (by rw [hmp]; exact hrw.ok.del nm)
            rw [hmp] at hnl
            have htt : Trn (rfoot q (.slice a j cap) FS) w (wr.setCell ⟨q, 1, none⟩ (.slice va vn vc)) := (HT8.out.then (Trn.of HB.out)).set (.inl (.inl rfl))
            rw [← HNN.out] at htt
            refine ⟨rfl, _, ⟨_, _, hnl, rfl⟩, htt, ?_⟩
            rintro k (h1 | h1 | ⟨x, hx, h1⟩)
            · exact .inl (.inl h1)
            · exact .inr (Nat.le_trans HT8.out.size (HO.out.lt k h1).1)
            · exact .inl (.inr (.inr ⟨x, hmem x hx, h1⟩))
end Go.Proofs.Ytplanmiggeghfaa
