/-
  Disk: the reference: Make.
-/
import Derived.Test.YtplanmiggeghfaaDRB
import Derived.Shelf.Abstract
namespace Go.Proofs.Ytplanmiggeghfaa
open Go.RowKit Go Go.Sort Go.Maps Go.WideMaps
set_option linter.unusedVariables false
set_option maxRecDepth 20000

theorem gtr_str (a b : ByteArray) (c d : Bool) (h1 : Op.bytesLess a.toList b.toList = c) (h2 : (a.toList == b.toList) = false) (hd : (!c) = d) (W : World) : (binOp .gtr 9 (.string a) (.string b)).run Try.prog W = .ok (.bool d) W := by
  subst hd
  simp [binOp, Op.stringOp, h1, h2, Sem.run_pure]
def insR (x : Fr) : List Fr → List Fr
  | [] => [x]
  | y :: r => if Op.bytesLess x.f.nm y.f.nm then x :: y :: r else y :: insR x r
theorem insR_map (x : Fr) : ∀ l : List Fr, (insR x l).map Fr.f = insF x.f (l.map Fr.f)
  | [] => rfl
  | y :: r => by
    have ih := insR_map x r
    unfold insR
    rw [List.map_cons]
    unfold insF
    split <;> simp [ih]
theorem insR_mem {x y : Fr} : ∀ {l : List Fr}, y ∈ insR x l → y = x ∨ y ∈ l
  | [], h => by simp [insR] at h; exact .inl h
  | z :: r, h => by
    unfold insR at h
    split at h
    · simp at h ⊢; rcases h with h | h | h <;> simp [h]
    · simp at h ⊢
      rcases h with h | h
      · simp [h]
      · rcases insR_mem h with h | h <;> simp [h]
theorem insR_len (x : Fr) : ∀ l : List Fr, (insR x l).length = l.length + 1
  | [] => rfl
  | y :: r => by
    unfold insR
    split
    · simp
    · simp [insR_len x r]
theorem insR_none {x : Fr} : ∀ {l : List Fr} (m : List Fr), (∀ z ∈ l, Op.bytesLess x.f.nm z.f.nm = false) → insR x (l ++ m) = l ++ insR x m
  | [], m, h => rfl
  | y :: r, m, h => by
    rw [List.cons_append, List.cons_append]
    conv => lhs; unfold insR
    rw [if_neg (by rw [h y (by simp)]; simp), insR_none m (fun z hz => h z (by simp [hz]))]
theorem insR_some {x : Fr} : ∀ {l : List Fr} (m : List Fr), (∃ z ∈ l, Op.bytesLess x.f.nm z.f.nm = true) → insR x (l ++ m) = insR x l ++ m
  | [], m, h => by obtain ⟨z, hz, -⟩ := h; cases hz
  | y :: r, m, h => by
    rw [List.cons_append]
    unfold insR
    by_cases hy : Op.bytesLess x.f.nm y.f.nm = true
    · rw [if_pos hy, if_pos hy]; rfl
    · rw [if_neg hy, if_neg hy, List.cons_append, insR_some m (by
        obtain ⟨z, hz, hl⟩ := h
        rcases List.mem_cons.1 hz with rfl | hz
        · exact absurd hl hy
        · exact ⟨z, hz, hl⟩)]
def newR (nm : List UInt8) : Fr := ⟨.slice none 0 0, ⟨nm, [], 0⟩⟩
/-- The list behind i files: whether the new one is in it, and it. -/
def MkS (nm : List UInt8) (l : List Fr) (d : Bool) (out : List Fr) : Prop :=
  (d = false ∧ (∀ z ∈ l, Op.bytesLess nm z.f.nm = false) ∧ out = l) ∨ (d = true ∧ (∃ z ∈ l, Op.bytesLess nm z.f.nm = true) ∧ out = insR (newR nm) l)
theorem MkS.yes {nm : List UInt8} {l out : List Fr} (h : MkS nm l false out) (y : Fr) (hy : Op.bytesLess nm y.f.nm = true) : MkS nm (l ++ [y]) true ((out ++ [newR nm]) ++ [y]) := by
  rcases h with ⟨-, h1, rfl⟩ | ⟨h, -⟩
  · refine .inr ⟨rfl, ⟨y, by simp, hy⟩, ?_⟩
    rw [insR_none [y] h1]
    unfold insR
    rw [if_pos (show Op.bytesLess (newR nm).f.nm y.f.nm = true from hy)]
    simp
  · cases h
theorem MkS.no {nm : List UInt8} {l out : List Fr} (h : MkS nm l false out) (y : Fr) (hy : Op.bytesLess nm y.f.nm = false) : MkS nm (l ++ [y]) false (out ++ [y]) := by
  rcases h with ⟨-, h1, rfl⟩ | ⟨h, -⟩
  · refine .inl ⟨rfl, fun z hz => ?_, rfl⟩
    rcases List.mem_append.1 hz with hz | hz
    · exact h1 z hz
    · rw [List.mem_singleton.1 hz]; exact hy
  · cases h
theorem MkS.on {nm : List UInt8} {l out : List Fr} (h : MkS nm l true out) (y : Fr) : MkS nm (l ++ [y]) true (out ++ [y]) := by
  rcases h with ⟨h, -⟩ | ⟨-, h1, rfl⟩
  · cases h
  · obtain ⟨z, hz, hl⟩ := h1
    exact .inr ⟨rfl, ⟨z, by simp [hz], hl⟩, (insR_some [y] ⟨z, hz, hl⟩).symm⟩
theorem MkS.end0 {nm : List UInt8} {l out : List Fr} (h : MkS nm l false out) : out ++ [newR nm] = insR (newR nm) l := by
  rcases h with ⟨-, h1, rfl⟩ | ⟨h, -⟩
  · have := insR_none (x := newR nm) (l := out) [] h1
    rw [List.append_nil] at this
    rw [this]
    rfl
  · cases h
theorem MkS.end1 {nm : List UInt8} {l out : List Fr} (h : MkS nm l true out) : out = insR (newR nm) l := by
  rcases h with ⟨h, -⟩ | ⟨-, -, rfl⟩
  · cases h
  · rfl
theorem MkS.len {nm : List UInt8} {l out : List Fr} {d : Bool} (h : MkS nm l d out) : out.length ≤ l.length + 1 := by
  rcases h with ⟨-, -, rfl⟩ | ⟨-, -, rfl⟩
  · omega
  · rw [insR_len]; omega
theorem Ds.Ok.ins {st : Ds} (h : st.Ok) {nm : List UInt8} (hn : lookF st.F nm = none) (hl : st.F.length < 64) (h24 : nm.length ≤ 24) (hF : List Fi) (he : hF = insF ⟨nm, [], 0⟩ st.F) (hlen : hF.length = st.F.length + 1) (hm : ∀ f ∈ hF, f = ⟨nm, [], 0⟩ ∨ f ∈ st.F) : Ds.Ok { st with F := hF } := by
  refine ⟨by simp only [hlen]; omega, fun f hf => ?_, ?_, h.pn, h.room⟩
  · rcases hm f hf with rfl | hf
    · exact ⟨by simp, by simp, h24⟩
    · exact h.each f hf
  · simp only [he]
    refine insF_asc h.asc fun y hy e => ?_
    unfold lookF at hn
    rw [List.find?_eq_none] at hn
    exact hn y hy (by simpa using e)
/-- The end of Make. -/
theorem RefIn.made {W : World} {q B : Nat} {fv v : Value} {FS : List Fr} {st : Ds} (h : RefIn W q fv FS st) {nm : List UInt8} (hl : OwnL 3 100 Fr.arr W B v (insR (newR nm) FS)) (hn : lookF st.F nm = none) (h64 : st.F.length < 64) (h24 : nm.length ≤ 24) :
    RefIn (W.setCell ⟨q, 1, none⟩ v) q v (insR (newR nm) FS) { st with F := insF ⟨nm, [], 0⟩ st.F } := by
  have hmp : (insR (newR nm) FS).map Fr.f = insF ⟨nm, [], 0⟩ st.F := by rw [insR_map, h.pr]; rfl
  have hln : (insF ⟨nm, [], 0⟩ st.F).length = st.F.length + 1 := by rw [← hmp, List.length_map, insR_len, ← h.pr, List.length_map]
  have hok : Ds.Ok { st with F := insF ⟨nm, [], 0⟩ st.F } := h.ok.ins hn h64 h24 _ rfl hln (fun f hf => by
    rw [← hmp] at hf
    obtain ⟨x, hx, rfl⟩ := List.mem_map.1 hf
    rcases insR_mem hx with rfl | hx
    · exact .inl rfl
    · exact .inr (by rw [← h.pr]; exact List.mem_map.2 ⟨x, hx, rfl⟩))
  have := h.newlist hl (fun x hx => by
    rcases insR_mem hx with rfl | hx
    · exact World.ownsRow_nil _ _ _ _
    · exact h.own x hx) (by rw [hmp]; exact hok)
  rwa [hmp] at this
set_option maxRecDepth 100000 in
set_option maxHeartbeats 6400000 in
theorem rmake_c {w : World} {q : Nat} {st : Ds} {F : Nat → Prop} (hk : Rk w q st F) (nm : List UInt8) (hnl : nm.length ≤ 9223372036854775807) : Calls Try.prog 48 #[.pointer (some ⟨q, 0, none⟩), .string (text nm)] w (RPost q F (.int .i64 (st.make nm).1) (st.make nm).2 w) := by
  have HKK := Lib.hid hk
  obtain ⟨fv, FS, h, rfl⟩ := hk
  have HGD := Lib.hid (rgood_c nm hnl w)
  obtain ⟨c0, c1, c2, c3, c4, c5, c6, c7⟩ := h.cs
  cases hon : st.on with
  | false =>
    have e : st.make nm = (150, st) := by unfold Ds.make; rw [if_pos hon]
    rw [e]
    rw [hon] at c2
    clear h hon e
    go_enter Try.func48, Try.ntmps48
    go_wp2
    go_ret
    exact rk_same HKK.out _
  | true =>
    rw [hon] at c2
    cases hgd : goodNm nm with
    | false =>
      have e : st.make nm = (2, st) := by unfold Ds.make; rw [if_neg (by simp [hon]), if_pos hgd]
      rw [e]
      rw [hgd] at HGD
      obtain ⟨tx, htx⟩ : ∃ s, text nm = s := ⟨_, rfl⟩
      rw [htx] at HGD ⊢
      clear htx h hon hgd e c0 c1 c3 c4 c5 c6 c7
      go_enter Try.func48, Try.ntmps48
      go_wp2_with (go_at_call 14; (with_reducible refine HGD.out.mono ?_); rintro e9 w9 ⟨rfl, rfl⟩)
      go_ret
      exact rk_same HKK.out _
    | true =>
      rw [hgd] at HGD
      rcases h.look nm with ⟨hl, hno⟩ | ⟨i, hi, hnm, hl⟩
      · have HFN := Lib.hid (rfind_none h nm hno)
        have hnf : ¬ (0 : Int) ≤ -1 := by omega
        obtain ⟨a, cap, rfl, hle, -⟩ := h.at
        by_cases h64 : 64 ≤ st.F.length
        · have e : st.make nm = (151, st) := by unfold Ds.make; rw [if_neg (by simp [hon]), if_neg (by simp [hgd]), if_neg (by simp [hl]), if_pos h64]
          rw [e]
          have hfl : 64 ≤ FS.length := by rw [← h.pr] at h64; simpa using h64
          have HH := Lib.hid h
          obtain ⟨tx, htx⟩ : ∃ s, text nm = s := ⟨_, rfl⟩
          obtain ⟨n, hn⟩ : ∃ n, FS.length = n := ⟨_, rfl⟩
          rw [htx] at HGD HFN ⊢
          rw [hn] at hfl c1 HH
          have hfi : (64 : Int) ≤ (n : Int) := by omega
          clear htx h hon hgd e c0 c3 c4 c5 c6 c7 hl hno hn h64 hle
          go_enter Try.func48, Try.ntmps48
          go_wp2_with (first
            | (go_at_call 14; (with_reducible refine HGD.out.mono ?_); rintro e8 w8 ⟨rfl, rfl⟩)
            | (go_at_call 60; (with_reducible refine HFN.out.mono ?_); rintro e9 w9 ⟨rfl, hb9⟩; have HB9 := Lib.hid hb9; have q1 := (HH.out.below hb9).cs.2.1; clear hb9))
          go_ret
          exact rk_below HKK.out HB9.out _
        · have hfl : FS.length < 64 := by rw [← h.pr] at h64; simpa using h64
          have HH := Lib.hid h
          have HN64 := Lib.hid (show st.F.length < 64 by omega)
          have HLK := Lib.hid hl
          have HNO := Lib.hid hno
          have HG24 := Lib.hid (show nm.length ≤ 24 from by unfold goodNm at hgd; simp only [Bool.and_eq_true, decide_eq_true_eq] at hgd; exact hgd.1.2)
          by_cases hp : st.plan = true ∧ st.pn = 0
          · have e : st.make nm = (150, st.lost st.keep st.F) := by unfold Ds.make; rw [if_neg (by simp [hon]), if_neg (by simp [hgd]), if_neg (by simp [hl]), if_neg h64]; exact opd_no hp
            rw [e]
            have HP := Lib.hid hp
            obtain ⟨tx, htx⟩ : ∃ s, text nm = s := ⟨_, rfl⟩
            obtain ⟨n, hn⟩ : ∃ n, FS.length = n := ⟨_, rfl⟩
            rw [htx] at HGD HFN ⊢
            have HNN := Lib.hid hn
            rw [hn] at hfl c1
            have hfi : ¬ (64 : Int) ≤ (n : Int) := by omega
            clear htx h hon hgd e c0 c3 c4 c5 c6 c7 hl hno hn h64 hle hp
            go_enter Try.func48, Try.ntmps48
            go_wp2_with (first
              | (go_at_call 14; (with_reducible refine HGD.out.mono ?_); rintro e8 w8 ⟨rfl, rfl⟩)
              | (go_at_call 60; (with_reducible refine HFN.out.mono ?_); rintro e9 w9 ⟨rfl, hb9⟩; have HB9 := Lib.hid hb9; have HR9 := Lib.hid (HH.out.below hb9); have q1 := (HH.out.below hb9).cs.2.1; rw [HNN.out] at q1; clear hb9)
              | (go_at_call 75; (with_reducible refine (rcounted_no HR9.out HP.out.1 HP.out.2).mono ?_); rintro e8 w8 ⟨rfl, rfl⟩; have q7 := HR9.out.cs.2.2.2.2.2.2.2) | (go_at_call 63; (with_reducible refine (rlose_p HR9.out st.keep).mono ?_); rintro e7 w7 ⟨rfl, F7, hr7, ht7, hf7⟩))
            go_ret
            exact ⟨rfl, F7, hr7, (Trn.of HB9.out).then ht7, fun k hk => (hf7 k hk).imp_right (fun h9 => Nat.le_trans HB9.out.size h9)⟩
          · have e : st.make nm = (0, { st.tick with F := insF ⟨nm, [], 0⟩ st.F }) := by unfold Ds.make; rw [if_neg (by simp [hon]), if_neg (by simp [hgd]), if_neg (by simp [hl]), if_neg h64]; exact opd_yes hp
            rw [e]
            have HP := Lib.hid hp
            obtain ⟨tx, htx⟩ : ∃ s, text nm = s := ⟨_, rfl⟩
            have HTX := Lib.hid htx
            obtain ⟨n, hn⟩ : ∃ n, FS.length = n := ⟨_, rfl⟩
            rw [htx] at HGD HFN ⊢
            have HNN := Lib.hid hn
            rw [hn] at hfl c1 hle
            have hfi : ¬ (64 : Int) ≤ (n : Int) := by omega
            clear htx h hon hgd e c0 c3 c4 c5 c6 c7 hl hno hn h64 hp
            go_enter Try.func48, Try.ntmps48
            go_upto_region 12 with (first
              | (go_at_call 14; (with_reducible refine HGD.out.mono ?_); rintro e8 w8 ⟨rfl, rfl⟩)
              | (go_at_call 60; (with_reducible refine HFN.out.mono ?_); rintro e9 w9 ⟨rfl, hb9⟩; have HB9 := Lib.hid hb9; have HR9 := Lib.hid (HH.out.below hb9); have q1 := (HH.out.below hb9).cs.2.1; rw [HNN.out] at q1; clear hb9)
              | (go_at_call 75; (with_reducible refine (rcounted_c HR9.out HP.out).mono ?_); rintro e7 w8 ⟨rfl, hr8, ht8⟩; have HR8 := Lib.hid hr8; have HT8 := Lib.hid (show Trn (rfoot q (.slice a FS.length cap) FS) w w8 from (Trn.of HB9.out).then (rtrn_q ht8)); clear hr8 ht8))
            clear c1 c2 q1 hfi hnf
            rw [HNN.out] at HR8
            go_wp2
            go_loopw [5, 6, 7] (fun v d j wr => ∃ (j' : Nat) (b : Bool) (out : List Fr), j' ≤ n ∧ j = .int .i64 (j' : Int) ∧ d = .bool b ∧ MkS nm (FS.take j') b out ∧ OwnL 3 100 Fr.arr wr w8.heap.size v out ∧ Below w8.heap.size w8 wr) (fun _ _ j _ => n - (intOf j).toNat)
            case atStart => exact ⟨0, false, [], by omega, rfl, rfl, .inl ⟨rfl, fun z hz => by simp at hz, by simp⟩, OwnL.nil _ _ _, Below.refl _ _⟩
            case round =>
              obtain ⟨j, b, out, hj, rfl, rfl, hmk, ho, hb⟩ := hrel
              have HMK := Lib.hid hmk
              have HO := Lib.hid ho
              have HB := Lib.hid hb
              have q1 := (HR8.out.below hb).cs.2.1
              have HLN := Lib.hid (show out.length ≤ 66 from by have := hmk.len; rw [List.length_take] at this; omega)
              clear ho hb hmk
              by_cases hlt : j < n
              · have hji : (j : Int) < (n : Int) := by omega
                have hjl : j < FS.length := by rw [HNN.out]; exact hlt
                obtain ⟨-, hcp, g, xa, xc, rfl, hxv, -, hat⟩ := HR8.out.spot hjl
                have HTS := Lib.hid (show FS.take (j + 1) = FS.take j ++ [FS.getD j Fr.zero] from takeFr_snoc hjl)
                have hjc : (j : Int) < (cap : Int) := by omega
                obtain ⟨x, hx⟩ : ∃ x, FS.getD j Fr.zero = x := ⟨_, rfl⟩
                rw [hx] at hat HTS hxv
                have HXV := Lib.hid hxv
                have HLT := Lib.hid hlt
                obtain ⟨tn, htn⟩ : ∃ z, text x.f.nm = z := ⟨_, rfl⟩
                obtain ⟨xl, hxl⟩ : ∃ z, x.f.b.length = z := ⟨_, rfl⟩
                obtain ⟨su, hsu⟩ : ∃ z, (x.f.su : Int) = z := ⟨_, rfl⟩
                rw [htn, hxl, hsu] at hat
                rw [hxl] at HXV
                have HAT := Lib.hid hat
                have HTN := Lib.hid (And.intro htn hsu)
                have hnx : x.f.nm ≠ nm := by rw [← hx]; exact HNO.out j hjl
                have hless : ∀ c : Bool, Op.bytesLess nm x.f.nm = c → Op.bytesLess tn.toList tx.toList = !c ∧ (tn.toList == tx.toList) = false := fun c hc => by
                  rw [← HTX.out, ← htn, ByteArray.toList_eq, ByteArray.toList_eq]
                  show Op.bytesLess (text x.f.nm).data.toList (text nm).data.toList = !c ∧ ((text x.f.nm).data.toList == (text nm).data.toList) = false
                  refine ⟨?_, by simpa [text] using hnx⟩
                  show Op.bytesLess x.f.nm nm = !c
                  rcases less_tri nm x.f.nm with h1 | h1 | h1
                  · rw [h1] at hc
                    subst hc
                    cases h2 : Op.bytesLess x.f.nm nm with
                    | false => rfl
                    | true => have := less_trans h1 h2; rw [less_irr] at this; cases this
                  · exact absurd h1.symm hnx
                  · rw [h1]
                    cases c with
                    | false => rfl
                    | true => have := less_trans hc h1; rw [less_irr] at this; cases this
                have HLESS := Lib.hid hless
                obtain ⟨z1, z2, z3, z4, -⟩ := hat wr HB.out
                clear hlt hat hxv hjl hx htn hxl hsu hcp z1 hless hnx
                cases b with
                | true =>
                  go_wp2_with (refine wpList_append_fr rfl _ _ rfl rfl HO.out x HTN.out.1 HXV.out HTN.out.2 rfl (by have := HLN.out; omega) HB.out.size ?_; intro v7 w7 ho7 hg7; have HO7 := Lib.hid ho7; have HG7 := Lib.hid hg7; clear ho7 hg7)
                  go_roundw
                  case rel => exact ⟨j + 1, true, _, HLT.out, by go_num, rfl, by rw [HTS.out]; exact HMK.out.on x, HO7.out, (HB.out.alloc HB.out.size _).grown HG7.out (by have := HB.out.size; simp; omega) (fun k hk => (HO.out.lt k hk).1)⟩
                  case measure => simp [intOf]; have := HLT.out; omega
                | false =>
                  cases hbl : Op.bytesLess nm x.f.nm with
                  | false =>
                    obtain ⟨hlb9, hlc⟩ := HLESS.out false hbl
                    have hgt := gtr_str tn tx true false hlb9 hlc rfl
                    clear hlb9 hlc
                    have HBL := Lib.hid hbl
                    clear hbl
                    go_wp2_with (refine wpList_append_fr rfl _ _ rfl rfl HO.out x HTN.out.1 HXV.out HTN.out.2 rfl (by have := HLN.out; omega) HB.out.size ?_; intro v7 w7 ho7 hg7; have HO7 := Lib.hid ho7; have HG7 := Lib.hid hg7; clear ho7 hg7)
                    go_roundw
                    case rel => exact ⟨j + 1, false, _, HLT.out, by go_num, rfl, by rw [HTS.out]; exact HMK.out.no x HBL.out, HO7.out, (HB.out.alloc HB.out.size _).grown HG7.out (by have := HB.out.size; simp; omega) (fun k hk => (HO.out.lt k hk).1)⟩
                    case measure => simp [intOf]; have := HLT.out; omega
                  | true =>
                    obtain ⟨hlb9, hlc⟩ := HLESS.out true hbl
                    have hgt := gtr_str tn tx false true hlb9 hlc rfl
                    clear hlb9 hlc
                    have HBL := Lib.hid hbl
                    clear hbl
                    go_upto_region 20 with (refine wpList_append_fr rfl _ _ rfl rfl HO.out (newR nm) HTX.out (xa := none) (xl := 0) (xc := 0) rfl (su := 0) rfl rfl (by have := HLN.out; omega) HB.out.size ?_; intro v6 w6 ho6 hg6; have HO6 := Lib.hid ho6; have HB6 := Lib.hid ((HB.out.alloc HB.out.size _).grown hg6 (by have := HB.out.size; simp; omega) (fun k hk => (HO.out.lt k hk).1)); clear ho6 hg6)
                    clear z2 z3 z4 q1
                    obtain ⟨z1, z2, z3, z4, -⟩ := HAT.out w6 HB6.out
                    clear hgt
                    go_wp2_with (refine wpList_append_fr rfl _ _ rfl rfl HO6.out x HTN.out.1 HXV.out HTN.out.2 rfl (by have := HLN.out; rw [List.length_append, List.length_singleton]; omega) HB6.out.size ?_; intro v7 w7 ho7 hg7; have HO7 := Lib.hid ho7; have HG7 := Lib.hid hg7; clear ho7 hg7)
                    go_roundw
                    case rel => exact ⟨j + 1, true, _, HLT.out, by go_num, rfl, by rw [HTS.out]; exact HMK.out.yes x HBL.out, HO7.out, (HB6.out.alloc HB6.out.size _).grown HG7.out (by have := HB6.out.size; simp; omega) (fun k hk => (HO6.out.lt k hk).1)⟩
                    case measure => simp [intOf]; have := HLT.out; omega
              · obtain rfl : j = n := by omega
                have htk : FS.take j = FS := List.take_of_length_le (by rw [HNN.out]; exact Nat.le_refl _)
                rw [htk] at HMK
                have f1 := (HR8.out.below HB.out).fz 1
                clear htk
                have hfin : ∀ (W : World) (v : Value), Below w8.heap.size w8 W → OwnL 3 100 Fr.arr W w8.heap.size v (insR (newR nm) FS) → RPost q (rfoot q (.slice a FS.length cap) FS) (.int .i64 0) { st.tick with F := insF ⟨nm, [], 0⟩ st.F } w (.returned (.int .i64 0)) (W.setCell ⟨q, 1, none⟩ v) := fun W v hb ho => by
                  have hm := (HR8.out.below hb).made ho HLK.out HN64.out HG24.out
                  refine ⟨rfl, _, ⟨_, _, hm, rfl⟩, (HT8.out.then (Trn.of hb)).set (.inl (.inl rfl)), ?_⟩
                  rintro k (h1 | h1 | ⟨x, hx, h1⟩)
                  · exact .inl (.inl h1)
                  · exact .inr (Nat.le_trans HT8.out.size (ho.lt k h1).1)
                  · rcases insR_mem hx with rfl | hx
                    · cases h1
                    · exact .inl (.inr (.inr ⟨x, hx, h1⟩))
                have HFIN := Lib.hid hfin
                clear hfin
                cases b with
                | true =>
                  have HO2 := Lib.hid (show OwnL 3 100 Fr.arr wr w8.heap.size _ (insR (newR nm) FS) from by rw [← HMK.out.end1]; exact HO.out)
                  obtain ⟨va, vc, hve, -⟩ := HO2.out.ls (z := Fr.zero) fr_size
                  obtain ⟨vn, hvn⟩ : ∃ z, (insR (newR nm) FS).length = z := ⟨_, rfl⟩
                  rw [hvn] at hve
                  subst hve
                  clear hvn
                  go_wp2
                  go_ret
                  exact HFIN.out _ _ HB.out HO2.out
                | false =>
                  go_upto_region 23 with (refine wpList_append_fr rfl _ _ rfl rfl HO.out (newR nm) HTX.out (xa := none) (xl := 0) (xc := 0) rfl (su := 0) rfl rfl (by have := HLN.out; omega) HB.out.size ?_; intro v6 w6 ho6 hg6; have HO6 := Lib.hid ho6; have HB6 := Lib.hid ((HB.out.alloc HB.out.size _).grown hg6 (by have := HB.out.size; simp; omega) (fun k hk => (HO.out.lt k hk).1)); clear ho6 hg6)
                  have HO2 := Lib.hid (show OwnL 3 100 Fr.arr w6 w8.heap.size v6 (insR (newR nm) FS) from by rw [← HMK.out.end0]; exact HO6.out)
                  obtain ⟨va, vc, hve, -⟩ := HO2.out.ls (z := Fr.zero) fr_size
                  obtain ⟨vn, hvn⟩ : ∃ z, (insR (newR nm) FS).length = z := ⟨_, rfl⟩
                  rw [hvn] at hve
                  subst hve
                  have q6 := (HR8.out.below HB6.out).cs.2.1
                  have f6 := (HR8.out.below HB6.out).fz 1
                  clear hvn f1 q1
                  go_wp2
                  go_ret
                  exact HFIN.out _ _ HB6.out HO2.out
      · have e : st.make nm = (153, st) := by unfold Ds.make; rw [if_neg (by simp [hon]), if_neg (by simp [hgd]), if_pos (by simp [hl])]
        rw [e]
        have HFN := Lib.hid (rfind_some h nm hi hnm)
        have hi0n : (0 : Int) ≤ (i : Int) := by omega
        obtain ⟨tx, htx⟩ : ∃ s, text nm = s := ⟨_, rfl⟩
        rw [htx] at HGD HFN ⊢
        clear htx h hon hgd e c0 c1 c3 c4 c5 c6 c7 hl hi hnm
        go_enter Try.func48, Try.ntmps48
        go_wp2_with (first
          | (go_at_call 14; (with_reducible refine HGD.out.mono ?_); rintro e8 w8 ⟨rfl, rfl⟩)
          | (go_at_call 60; (with_reducible refine HFN.out.mono ?_); rintro e9 w9 ⟨rfl, hb9⟩; have HB9 := Lib.hid hb9; clear hb9))
        go_ret
        exact rk_below HKK.out HB9.out _
end Go.Proofs.Ytplanmiggeghfaa
