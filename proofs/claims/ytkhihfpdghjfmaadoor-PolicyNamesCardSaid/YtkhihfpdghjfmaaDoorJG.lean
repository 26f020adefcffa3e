/-
  Policy, the program: Parse.
-/
import Derived.Test.YtkhihfpdghjfmaaDoorJF
import Derived.WalkSmall
namespace Go.Proofs.YtkhihfpdghjfmaaDoor
open Go.RowKit Go Go.Sort
set_option linter.unusedVariables false
set_option maxRecDepth 20000

theorem slice_mid (s : List UInt8) (i j : Nat) (h1 : i ≤ j) (h : j ≤ s.length) (W : World) : (Instr.slice 9 (.string (text s)) (some (.int .i64 (i : Int))) (some (.int .i64 (j : Int))) none).run Tryd.prog W = .ok (.string (text ((s.take j).drop i))) W := by
  rw [run_slice_string W 9 (text s) .i64 .i64 i j Tryd.underlying9 (by omega) (by omega) (by rw [text_len]; omega)]
  congr 2
  unfold text
  ext1
  simp [List.drop_take]
/-- What stands from a place on. -/
theorem cur_step (s : List UInt8) (b p : Nat) (hb : b ≤ p) (hp : p < s.length) : (s.take (p + 1)).drop b = (s.take p).drop b ++ [s.getD p 0] := by
  rw [take_snoc8 s p hp, List.drop_append_of_le_length (by rw [List.length_take]; omega)]
theorem drop_at (s : List UInt8) (p : Nat) (hp : p < s.length) : s.drop p = s.getD p 0 :: s.drop (p + 1) := by
  rw [List.drop_eq_getElem_cons hp, List.getD_eq_getElem?_getD, List.getElem?_eq_getElem hp]; rfl
theorem low_by8 (s : List UInt8) (p : Nat) : lowB (s.getD p 0) = decide (97 ≤ by8 s p ∧ by8 s p ≤ 122) := by
  unfold lowB by8
  rw [Bool.eq_iff_iff]
  simp
  omega
theorem is_by8 (s : List UInt8) (p : Nat) (c : UInt8) : s.getD p 0 = c ↔ by8 s p = (c.toNat : Int) := by
  unfold by8
  constructor
  · intro h; rw [h]
  · intro h; exact UInt8.toNat_inj.1 (by omega)
theorem at_comma (s : List UInt8) (p : Nat) (hp : p < s.length) : (s ++ [44]).take p = s.take p := List.take_append_of_le_length (by omega)
theorem at_end (s : List UInt8) : by8 (s ++ [44]) s.length = 44 := by unfold by8; simp [List.getD]
/-- Whether a name was met. -/
def stI : Option (List UInt8) → Int
  | none => 0
  | some _ => 1
theorem own_iter {w : World} {B k : Nat} {v : Value} {l : List Grp} (h : OwnG w B v l) (hk : k < B) (s : ByteArray) (p : Nat) : OwnG (w.iterAt k s p) B v l := ownsRow_iterAt h hk s p

set_option maxHeartbeats 6400000 in
theorem pparse_c (s : List UInt8) (hmax : s.length ≤ 1000) (w : World) : Calls Tryd.prog 27 #[.string (text s)] w (GrpsPost (pparseS s) w) := by
  rw [← mach_parse]
  have hadd : ∀ W, (Op.stringOp .add (text s) ⟨#[44]⟩).run Tryd.prog W = .ok (.string (text (s ++ [44]))) W := fun W => run_text_add s [44] (by simp; omega) W
  obtain ⟨z, hz⟩ : ∃ z, s ++ [44] = z := ⟨_, rfl⟩
  have hzl : z.length = s.length + 1 := by rw [← hz]; simp
  have hze : by8 z s.length = 44 := by rw [← hz]; exact at_end s
  have HTK := Lib.hid (fun p (h : p ≤ s.length) => show z.take p = s.take p by rw [← hz, List.take_append_of_le_length h])
  have HV := Lib.hid (show machS s = match mach 0 none [] z with
    | none => ([], 11)
    | some l => if pgoodS l = 0 then (l, 0) else ([], 11) by rw [← hz]; rfl)
  rw [hz] at hadd
  have HX := Lib.hid (fun k h => next_sign z k h)
  have HE := Lib.hid (fun k h => next_end z k h)
  have HSL := Lib.hid (fun i j h1 h2 => slice_mid s i j h1 h2)
  have HCS := Lib.hid (fun b p h1 h2 => cur_step z b p h1 h2)
  have HDR := Lib.hid (fun p h => drop_at z p h)
  have HLO := Lib.hid (low_by8 z)
  have HIS := Lib.hid (is_by8 z)
  have HM := Lib.hid (fun s W => meant_c s W)
  obtain ⟨L, hL⟩ : ∃ L, s.length = L := ⟨_, rfl⟩
  have HL := Lib.hid hL
  have HZL := Lib.hid hzl
  have HZE := Lib.hid hze
  have hit0 := World.iter_heap w (text z) 0
  have hb0 : Below w.heap.size w (w.iter (text z) 0) := (Below.refl _ w).alloc (Nat.le_refl _) _
  obtain ⟨ZS, hZS⟩ : ∃ q, text z = q := ⟨_, rfl⟩
  obtain ⟨SS, hSS⟩ : ∃ q, text s = q := ⟨_, rfl⟩
  rw [hZS] at hadd HX HE hit0 hb0
  rw [hSS] at hadd HSL ⊢
  have HI := Lib.hid hit0
  have HB0 := Lib.hid hb0
  have hLm : L ≤ 1000 := by omega
  clear hz hzl hze hL hit0 hb0 hZS hSS hmax
  go_enter Tryd.func27, Tryd.ntmps27
  go_upto_region 4 with (fail)
  go_loopg [4, 5, 6, 7] (L + 1) (fun gf vl vn vs vt wr => ∃ (pos b k : Nat) (acc : List Grp) (st : Option (List UInt8)) (cur : List UInt8), pos + gf = L + 1 ∧ wr.heap[w.heap.size]? = some (.stringIter ZS pos) ∧ b ≤ pos ∧ (z.take pos).drop b = cur ∧
    vs = .int .i64 (b : Int) ∧ vt = .int .i64 (stI st) ∧ (∀ nm, st = some nm → vn = .string (text nm) ∧ nm.length ≤ 1001) ∧ k ≤ 4 ∧ acc.length = k ∧ OwnG wr (w.heap.size + 1) vl acc ∧ (∀ g ∈ acc, g.1.length ≤ 1001) ∧
    mach 0 none [] z = (mach k st cur (z.drop pos)).map (fun r => acc ++ r) ∧ Below w.heap.size w wr)
  case atStart => exact ⟨0, 0, 0, [], none, [], by omega, HI.out, Nat.le_refl _, rfl, rfl, rfl, (fun nm h => by cases h), by omega, rfl, OwnG.nil _ _, by simp, by rw [List.drop_zero]; cases mach 0 none [] z <;> rfl, HB0.out⟩
  case round =>
    obtain ⟨pos, b, k, acc, st, cur, hpg, hit, hb, hcur, rfl, rfl, hst, hk4, hac, ho, hnm, hv, hB⟩ := hrel
    clear HI HB0 hadd
    by_cases hlt : pos < L + 1
    · obtain ⟨g', rfl⟩ : ∃ g', gk = g' + 1 := ⟨gk - 1, by omega⟩
      have hzp : pos < z.length := by rw [HZL.out, HL.out]; exact hlt
      have hx := HX.out pos hzp
      have hdr := HDR.out pos hzp
      have hlo := HLO.out pos
      have hcs := HCS.out b pos hb hzp
      have his61 := HIS.out pos 61
      have his44 := HIS.out pos 44
      have hszw : w.heap.size < wr.heap.size := (Array.getElem?_eq_some_iff.1 hit).1
      have hE1 : pos = L → by8 z pos = 44 := by intro e; rw [e, ← HL.out]; exact HZE.out
      obtain ⟨c, hc⟩ : ∃ c, by8 z pos = c := ⟨_, rfl⟩
      obtain ⟨d, hd⟩ : ∃ d, z.getD pos 0 = d := ⟨_, rfl⟩
      rw [hc] at hx hlo his61 his44 hE1
      rw [hd] at hdr hlo hcs his61 his44
      rw [hdr] at hv
      -- what the iterator tells
      have hnext : ∃ (r : Int) (pos2 : Nat), (∀ ty, (Instr.next (.pointer (some ⟨w.heap.size, 0, none⟩)) true ty).run Tryd.prog wr = .ok (.tuple #[.bool true, .int .i64 pos, .int .i32 r]) (wr.iterAt w.heap.size ZS pos2)) ∧ lowI r = lowB d ∧ (r = 61 ↔ d = 61) ∧ (r = 44 ↔ d = 44) ∧ (c < 128 → pos2 = pos + 1) ∧ (128 ≤ c → lowB d = false ∧ d ≠ 61 ∧ d ≠ 44) := by
        rcases hx with ⟨h1, h2⟩ | ⟨h1, r, hr, kk, h2⟩
        · refine ⟨c, pos + 1, h2 wr _ hit, ?_, ?_, ?_, fun _ => rfl, fun h => by omega⟩
          · rw [hlo]; rfl
          · exact his61.symm
          · exact his44.symm
        · have hf : lowB d = false := by rw [hlo]; simp; omega
          have h61 : d ≠ 61 := by intro e; have := his61.1 e; simp at this; omega
          have h44 : d ≠ 44 := by intro e; have := his44.1 e; simp at this; omega
          refine ⟨r, pos + kk, h2 wr _ hit, ?_, ?_, ?_, fun h => by omega, fun _ => ⟨hf, h61, h44⟩⟩
          · rw [hf]; exact lowI_no (by omega)
          · exact ⟨fun h => by omega, fun h => absurd h h61⟩
          · exact ⟨fun h => by omega, fun h => absurd h h44⟩
      obtain ⟨r, pos2, hnx, hlr, h61, h44, hp2, hhi⟩ := hnext
      have hit2 := Lib.iterAt_heap wr w.heap.size ZS pos pos2 hit
      have hB2 := Lib.below_iterAt hB (k := w.heap.size) (Nat.le_refl _) ZS pos2
      have ho2 := own_iter ho (Nat.lt_succ_self _) ZS pos2
      have hsz2 : (wr.iterAt w.heap.size ZS pos2).heap.size = wr.heap.size := Lib.iterAt_size _ _ _ _
      obtain ⟨W, hW⟩ : ∃ W, wr.iterAt w.heap.size ZS pos2 = W := ⟨_, rfl⟩
      rw [hW] at hnx hit2 hB2 ho2 hsz2
      obtain ⟨a1, c1, rfl, hgr⟩ := ho2.grs
      have hle1 := hgr.le
      have hmx1 := hgr.max
      have HIT := Lib.hid hit2
      have HB := Lib.hid hB2
      have HO := Lib.hid ho2
      have hszW : w.heap.size < W.heap.size := by rw [hsz2]; exact hszw
      have HSZ := Lib.hid hszW
      have HST := Lib.hid hst
      have HNM := Lib.hid hnm
      have HAC := Lib.hid hac
      have HBP := Lib.hid hb
      have HP2 := Lib.hid hp2
      have HHI := Lib.hid hhi
      have HPG := Lib.hid hpg
      have HCUR := Lib.hid hcur
      have HK4 := Lib.hid hk4
      have HLT := Lib.hid hlt
      have HE1 := Lib.hid hE1
      have H44 := Lib.hid h44
      have H61 := Lib.hid h61
      have HLR := Lib.hid hlr
      have HV2 := Lib.hid hv
      have HCS2 := Lib.hid hcs
      have HIS44 := Lib.hid his44
      have HIS61 := Lib.hid his61
      clear hit hB ho hW hszw hit2 hB2 ho2 hszW hst hnm hb hp2 hhi hpg hx hdr hlo his61 his44 hzp hgr hsz2 hcur hlt hE1 h44 h61 hlr hv hcs hc hd
      by_cases hk : k = 4
      · have hR := Lib.hid (show machS s = ([], 11) by rw [HV.out, HV2.out, hk, mach_full]; rfl)
        have ki : ((acc.length : Int) == 4) = true := by rw [hac, hk]; rfl
        clear hk hac hk4
        go_wp2_with (fail)
        go_ret2
        rw [hR.out]
        exact ⟨_, rfl, OwnG.nil _ _, HB.out⟩
      · have ki : ((acc.length : Int) == 4) = false := by rw [hac, beq_eq_false_iff_ne]; omega
        have HK := Lib.hid hk
        clear hk hac hk4
        have cL := isletter_c r
        cases hld : lowB d with
        | true =>
          rw [HLR.out, hld] at cL
          have HCL := Lib.hid cL
          have hlt128 : c < 128 := Classical.byContradiction fun h => by have := (HHI.out (by omega)).1; rw [hld] at this; cases this
          have HS := Lib.hid (mach_low HK.out st cur hld (z.drop (pos + 1)))
          have HP := Lib.hid (HP2.out hlt128)
          clear cL hld hlt128
          go_wp2_with (go_at_call 54; (with_reducible refine (HCL.out _).mono ?_); rintro e w1 ⟨rfl, rfl⟩)
          go_roundg g'
          case measure => omega
          case rel =>
            exact ⟨pos + 1, b, k, acc, st, cur ++ [d], by have := HPG.out; omega, by rw [← HP.out]; exact HIT.out, by have := HBP.out; omega, by rw [HCS2.out, HCUR.out], rfl, rfl, HST.out, HK4.out, HAC.out, HO.out, HNM.out, by rw [HV2.out, HS.out], HB.out⟩
        | false =>
          rw [HLR.out, hld] at cL
          have HCL := Lib.hid cL
          have HLD := Lib.hid hld
          clear cL hld
          by_cases hr61 : r = 61
          · subst hr61
            have hd61 : d = 61 := H61.out.1 rfl
            subst hd61
            cases st with
            | none =>
              have hc61 : c = 61 := by have := HIS61.out.1 rfl; simpa using this
              have hposL : pos ≠ L := by intro e; have := HE1.out e; omega
              have hpL : pos < L := by have := HLT.out; omega
              have HP := Lib.hid (HP2.out (by omega))
              have HS := Lib.hid (mach_name HK.out cur (z.drop (pos + 1)))
              have hsl := HSL.out b pos HBP.out (by rw [HL.out]; omega)
              rw [← HTK.out pos (by rw [HL.out]; omega), HCUR.out] at hsl
              have hcl : cur.length ≤ 1001 := by rw [← HCUR.out, List.length_drop, List.length_take]; omega
              have HCLN := Lib.hid hcl
              have hpm : (pos : Int) ≤ 1000000 := by omega
              have hbp : (b : Int) ≤ (pos : Int) := by have := HBP.out; omega
              have hpp : ((pos + 1 : Nat) : Int) = (pos : Int) + 1 := by omega
              have HPP := Lib.hid hpp
              simp only [stI]
              clear hc61 hposL hcl hpp
              go_wp2_with (go_at_call 54; (with_reducible refine (HCL.out _).mono ?_); rintro e w1 ⟨rfl, rfl⟩)
              go_roundg g'
              case measure => omega
              case rel =>
                refine ⟨pos + 1, pos + 1, k, acc, some cur, [], by have := HPG.out; omega, by rw [← HP.out]; exact HIT.out, Nat.le_refl _, List.drop_eq_nil_of_le (by rw [List.length_take]; omega), by rw [HPP.out], rfl, (fun nm h => by cases h; exact ⟨rfl, HCLN.out⟩), HK4.out, HAC.out, HO.out, HNM.out, by rw [HV2.out, HS.out], HB.out⟩
            | some nm =>
              have hR := Lib.hid (show machS s = ([], 11) by rw [HV.out, HV2.out, mach_bad HK.out _ _ HLD.out (by simp) (by simp)]; rfl)
              simp only [stI]
              go_wp2_with (go_at_call 54; (with_reducible refine (HCL.out _).mono ?_); rintro e w1 ⟨rfl, rfl⟩)
              go_ret2
              rw [hR.out]
              exact ⟨_, rfl, OwnG.nil _ _, HB.out⟩
          · have hr61b : (r == 61) = false := by simpa using hr61
            have hd61 : d ≠ 61 := fun h => hr61 (H61.out.2 h)
            have HD61 := Lib.hid hd61
            clear hr61 hd61
            by_cases hr44 : r = 44
            · subst hr44
              have hd44 : d = 44 := H44.out.1 rfl
              subst hd44
              cases st with
              | none =>
                have hR := Lib.hid (show machS s = ([], 11) by rw [HV.out, HV2.out, mach_bad HK.out _ _ HLD.out (by simp) (by simp)]; rfl)
                simp only [stI]
                go_wp2_with (go_at_call 54; (with_reducible refine (HCL.out _).mono ?_); rintro e w1 ⟨rfl, rfl⟩)
                go_ret2
                rw [hR.out]
                exact ⟨_, rfl, OwnG.nil _ _, HB.out⟩
              | some nm =>
                obtain ⟨rfl, hnml⟩ := HST.out nm rfl
                have hc44 : c = 44 := by have := HIS44.out.1 rfl; simpa using this
                have hpL : pos ≤ L := by have := HLT.out; omega
                have HP := Lib.hid (HP2.out (by omega))
                have HS := Lib.hid (mach_word HK.out nm cur (z.drop (pos + 1)))
                have hsl := HSL.out b pos HBP.out (by rw [HL.out]; omega)
                rw [← HTK.out pos (by rw [HL.out]; omega), HCUR.out] at hsl
                have hpm : (pos : Int) ≤ 1000000 := by omega
                have hbp : (b : Int) ≤ (pos : Int) := by have := HBP.out; omega
                have hpp : ((pos + 1 : Nat) : Int) = (pos : Int) + 1 := by omega
                have HPP := Lib.hid hpp
                have HNML := Lib.hid hnml
                have hacl : acc.length ≤ 1000000000 := by have := HAC.out; have := HK4.out; omega
                have HACL := Lib.hid hacl
                have hs0 : w.heap.size + 1 ≤ W.heap.size := HSZ.out
                have HS0 := Lib.hid hs0
                obtain ⟨cd, hcd⟩ : ∃ q, codeS cur = q := ⟨_, rfl⟩
                have HMC := Lib.hid (fun W => by have := HM.out cur W; rwa [hcd] at this)
                rw [hcd] at HS
                simp only [stI]
                clear hc44 hpp hnml hacl hs0 hcd
                go_wp2_with (first
                  | (go_at_call 54; (with_reducible refine (HCL.out _).mono ?_); rintro e w1 ⟨rfl, rfl⟩)
                  | (go_at_call 55; (with_reducible refine (HMC.out _).mono ?_); rintro e w1 ⟨rfl, rfl⟩)
                  | (at_builtin; go_loud (refine wpList_append_grp rfl (.tmp 44) (.tmp 52) rfl rfl HO.out nm rfl rfl HACL.out HS0.out ?_; intro v3 w3 ho3 hg3)))
                go_roundg g'
                case measure => omega
                case rel =>
                  have hne : ∀ q, (Value.slice a1 acc.length c1).ownBlock = some q → w.heap.size + 1 ≤ q := fun q hq => (HO.out.lt q hq).1
                  refine ⟨pos + 1, pos + 1, k + 1, acc ++ [(nm, cd)], none, [], by have := HPG.out; omega, ?_, Nat.le_refl _, List.drop_eq_nil_of_le (by rw [List.length_take]; omega), by rw [HPP.out], rfl, (fun nm h => by cases h), by have := HK4.out; have := HK.out; omega, by rw [List.length_append, HAC.out]; rfl, ho3, ?_, ?_, ?_⟩
                  · have h1 := HIT.out
                    rw [HP.out] at h1
                    have h2 := (Below.heap_alloc _ (.cells #[.string (text nm), .int .i64 cd] 54) w.heap.size HSZ.out).trans h1
                    rw [hg3.block w.heap.size (by rw [World.size_alloc]; have := HSZ.out; omega) (fun e => by have := hne _ e.symm; omega)]
                    exact h2
                  · intro g hg
                    rcases List.mem_append.1 hg with h | h
                    · exact HNM.out g h
                    · simp only [List.mem_singleton] at h
                      subst h
                      exact HNML.out
                  · rw [HV2.out, HS.out]
                    cases mach (k + 1) none [] (z.drop (pos + 1)) <;> simp
                  · exact (HB.out.alloc (by have := HSZ.out; omega) _).grown hg3 (by rw [World.size_alloc]; have := HSZ.out; omega) (fun q hq => by have := hne q hq; omega)
            · have hr44b : (r == 44) = false := by simpa using hr44
              have hR := Lib.hid (show machS s = ([], 11) by rw [HV.out, HV2.out, mach_bad HK.out _ _ HLD.out (fun h => HD61.out h.1) (fun h => hr44 (H44.out.2 h.1))]; rfl)
              clear hr44
              go_wp2_with (go_at_call 54; (with_reducible refine (HCL.out _).mono ?_); rintro e w1 ⟨rfl, rfl⟩)
              go_ret2
              rw [hR.out]
              exact ⟨_, rfl, OwnG.nil _ _, HB.out⟩
    · have hpe : pos = L + 1 := by omega
      have hnx := HE.out pos (by rw [HZL.out, HL.out]; exact hlt) wr w.heap.size hit
      have hv2 : mach 0 none [] z = some acc := by
        rw [hv, List.drop_of_length_le (by rw [HZL.out, HL.out]; omega)]
        simp [mach]
      have HV3 := Lib.hid (show machS s = if pgoodS acc = 0 then (acc, 0) else ([], 11) by rw [HV.out, hv2])
      obtain ⟨a1, c1, rfl, hg⟩ := ho.grs
      have G := pgood_c hg (fun g h => Nat.le_trans (hnm g h) (by omega))
      have hle := hg.le
      have hmx1 := hg.max
      have HO := Lib.hid ho
      have HB := Lib.hid hB
      obtain ⟨e, he⟩ : ∃ e, pgoodS acc = e := ⟨_, rfl⟩
      rw [he] at G HV3
      have HG := Lib.hid G
      clear hv hv2 ho hB hg hnm hit G he hst hcur hac
      by_cases h0 : e = 0
      · subst h0
        have HR := Lib.hid (show machS s = (acc, 0) by rw [HV3.out, if_pos rfl])
        clear HV HV3
        go_wp2_with (go_at_call 18; (with_reducible refine HG.out.mono ?_); rintro e w1 ⟨rfl, hb1⟩)
        go_ret2
        rw [HR.out]
        exact ⟨_, rfl, (HO.out.kept hb1).mono (by omega), HB.out.trans (hb1.mono HB.out.size)⟩
      · have hne : (e != 0) = true := by simpa using h0
        have HR := Lib.hid (show machS s = ([], 11) by rw [HV3.out, if_neg h0])
        clear HV HV3 h0
        go_wp2_with (go_at_call 18; (with_reducible refine HG.out.mono ?_); rintro e w1 ⟨rfl, hb1⟩)
        go_ret2
        rw [HR.out]
        exact ⟨_, rfl, OwnG.nil _ _, HB.out.trans (hb1.mono HB.out.size)⟩
end Go.Proofs.YtkhihfpdghjfmaaDoor
