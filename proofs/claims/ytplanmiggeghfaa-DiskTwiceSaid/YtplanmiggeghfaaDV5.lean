/-
  Disk: made; the walk of DiskTwice.
-/
import Derived.Test.YtplanmiggeghfaaDV4
import Derived.Shelf.Abstract
namespace Go.Proofs.Ytplanmiggeghfaa
open Go.RowKit Go Go.Sort Go.Maps Go.WideMaps
set_option linter.unusedVariables false
set_option maxRecDepth 20000

set_option maxRecDepth 100000 in
set_option maxHeartbeats 12800000 in
theorem dmadeact_c {w : World} {a : Option Addr} {m cap : Nat} {L : List Dc} (hl : Dcs w a m cap L) (hli : ∀ x ∈ L, x.l.length ≤ 20000) : Calls Try.prog 21 #[.slice a m cap] w (fun e w' => ∃ q r, e = .returned (.tuple #[.pointer (some ⟨q, 0, none⟩), .pointer (some ⟨r, 0, none⟩), .bool true]) ∧ Tw w q r ((Ds.new 1048576).acts L).power ((Ds.new 1048576).acts L).power w') := by
  have hle := hl.le
  have hmax := hl.max
  have HLN := Lib.hid hl.len
  have HL := Lib.hid hl
  have HLI := Lib.hid (show true = true → ∀ x ∈ L, x.l.length ≤ 20000 from fun _ => hli)
  have HN := Lib.hid (fun W => dnew_c 1048576 W (by omega) (by omega))
  have HRN := Lib.hid (fun W => rnew_c 1048576 W (by omega) (by omega))
  clear hl hli
  go_enter Try.func21, Try.ntmps21
  go_upto_region 4 with (first
    | (go_at_call 11; (with_reducible refine (HN.out _).mono ?_); rintro e1 w1 ⟨q, rfl, F1, hd1, hf1, hb1⟩; have HD1 := Lib.hid hd1; have HF1 := Lib.hid hf1; have HB1 := Lib.hid hb1; clear hd1 hf1 hb1)
    | (go_at_call 12; (with_reducible refine (HRN.out _).mono ?_); rintro e2 w2 ⟨r, rfl, G2, hr2, hg2, hb2⟩; have HT2 := Lib.hid (tw_new HD1.out HF1.out HB1.out hr2 hg2 hb2); clear hr2 hg2 hb2))
  go_wp2
  go_loopw [15] (fun i wr => ∃ (j : Nat) (st : Ds), j ≤ m ∧ i = .int .i64 (j : Int) ∧ st = (Ds.new 1048576).acts (L.take j) ∧ Tw w q r st st wr) (fun i _ => m - (intOf i).toNat)
  case atStart => exact ⟨0, _, by omega, rfl, rfl, HT2.out⟩
  case round =>
    obtain ⟨j, st, hj, rfl, hst, ht⟩ := hrel
    have HT := Lib.hid ht
    have HST := Lib.hid hst
    clear ht hst
    by_cases hlt : j < m
    · have hji : (j : Int) < (m : Int) := by omega
      have hjc : (j : Int) < (cap : Int) := by omega
      obtain ⟨bl, off, x, c, rfl, hy, hk1, hn1, hat⟩ := HL.out.place hlt
      have hml : (L.getD j Dc.zero).l.length ≤ 20000 := HLI.out (by first | rfl | trivial) _ (by
        rw [List.getD_eq_getElem?_getD, List.getElem?_eq_getElem (by rw [HLN.out]; exact hlt)]
        exact List.getElem_mem _)
      obtain ⟨c0, c1, c2, c3, c4⟩ := hat wr HT.out.b
      obtain ⟨A, hA⟩ : ∃ z, L.getD j Dc.zero = z := ⟨_, rfl⟩
      rw [hA] at hy hk1 hn1 hml c0 c1 c2 c3 c4
      obtain ⟨s', hs'⟩ : ∃ z, (st.act A).2 = z := ⟨_, rfl⟩
      have HDO := Lib.hid (fun o => tw_do HT.out A hy hk1 hn1.2 hml hs' o)
      have HNA := Lib.hid (And.intro hk1 hs')
      have HJM := Lib.hid hlt
      have HAA := Lib.hid hA
      obtain ⟨tx, htx⟩ : ∃ z, text A.nm = z := ⟨_, rfl⟩
      have HTX := Lib.hid htx
      obtain ⟨al, hal⟩ : ∃ z, A.l.length = z := ⟨_, rfl⟩
      obtain ⟨kd, hkd⟩ : ∃ z, A.kd = z := ⟨_, rfl⟩
      obtain ⟨an, han⟩ : ∃ z, A.n = z := ⟨_, rfl⟩
      obtain ⟨ak, hak⟩ : ∃ z, A.kp = z := ⟨_, rfl⟩
      rw [htx, hal, hkd, han, hak] at HDO
      rw [htx] at c1
      rw [hal] at c2
      rw [hkd] at c0
      rw [han] at c3
      rw [hak] at c4
      clear hat hy hk1 hn1 hml hA hs' htx hal hkd han hak hlt
      have hbx := alloc_below wr (.cells #[.int .i64 kd, .string tx, .slice x al c, .int .i64 an, .int .i64 ak] 32)
      have hxx := heap_alloc_new wr (.cells #[.int .i64 kd, .string tx, .slice x al c, .int .i64 an, .int .i64 ak] 32)
      have HT1 := Lib.hid (HT.out.below hbx)
      go_upto_region 7 with (fail)
      obtain ⟨gx, hgx⟩ : ∃ z, wr.heap.size = z := ⟨_, rfl⟩
      have HDO := Lib.hid (HDO.out (.cells #[.int .i64 kd, .string tx, .slice x al c, .int .i64 an, .int .i64 ak] 32))
      rw [hxx, hgx] at HDO
      rw [hgx] at hxx ⊢
      clear c0 c1 c2 c3 c4 hbx hgx
      generalize wr.alloc (.cells #[.int .i64 kd, .string tx, .slice x al c, .int .i64 an, .int .i64 ak] 32) = W1 at *
      have HXX := Lib.hid hxx
      have x0 : W1.cell? ⟨gx, 0, none⟩ = some (.int .i64 kd) := by rw [cell_of_row _ gx 0 _ _ (0, 0) hxx]; rfl
      have x1 : W1.cell? ⟨gx, 1, none⟩ = some (.string tx) := by rw [cell_of_row _ gx 1 _ _ (0, 0) hxx]; rfl
      have x2 : W1.cell? ⟨gx, 2, none⟩ = some (.slice x al c) := by rw [cell_of_row _ gx 2 _ _ (0, 0) hxx]; rfl
      have x3 : W1.cell? ⟨gx, 3, none⟩ = some (.int .i64 an) := by rw [cell_of_row _ gx 3 _ _ (0, 0) hxx]; rfl
      have x4 : W1.cell? ⟨gx, 4, none⟩ = some (.int .i64 ak) := by rw [cell_of_row _ gx 4 _ _ (0, 0) hxx]; rfl
      clear hxx
      go_wp2_with (go_at_call 17; (with_reducible refine HDO.out.mono ?_); rintro e3 w3 ⟨rfl, ht3, hx3⟩; have HT3 := Lib.hid ht3; clear ht3 hx3)
      have HSN := Lib.hid (show s' = (Ds.new 1048576).acts (L.take (j + 1)) from by rw [acts_snoc _ (by rw [HLN.out]; exact HJM.out), ← HST.out, HAA.out, HNA.out.2])
      go_roundw
      case rel => exact ⟨j + 1, s', HJM.out, by go_num, HSN.out, HT3.out⟩
      case measure => simp [intOf]; have := HJM.out; omega
    · obtain rfl : j = m := by omega
      have hfin : st = (Ds.new 1048576).acts L := by rw [HST.out, List.take_of_length_le (by rw [HLN.out]; exact Nat.le_refl _)]
      have HFIN := Lib.hid hfin
      clear hfin
      have HP1 := Lib.hid (tw_call HT.out (fun F G h => du_power h))
      go_wp2_with (first
        | (go_at_call 24; (with_reducible refine HP1.out.mono ?_); rintro e5 w5 ⟨rfl, ht5⟩; have HP2 := Lib.hid (tw_call ht5 (fun F G h => du_rpower h)); clear ht5)
        | (go_at_call 25; (with_reducible refine HP2.out.mono ?_); rintro e6 w6 ⟨rfl, ht6⟩; have HT6 := Lib.hid ht6; clear ht6))
      go_ret3
      have h6 := HT6.out
      rw [HFIN.out] at h6
      exact ⟨q, r, rfl, h6⟩
theorem lose_again {f : Fi} (h : f.su = f.b.length) (k : Int) : Fi.lose k f = f := by
  unfold Fi.lose loseN
  rw [h]
  have e : (f.b.length + (min (max k 0) ((f.b.length : Int) - (f.b.length : Int))).toNat) = f.b.length := by omega
  rw [e, List.take_of_length_le (Nat.le_refl _), ← h]
theorem lose_full {f : Fi} (h : f.su ≤ f.b.length) (k : Int) : (Fi.lose k f).su = (Fi.lose k f).b.length := by
  unfold Fi.lose
  simp only [List.length_take]
  have := (loseN_le (keep := k) h).1
  omega
theorem lost_twice {st : Ds} (hok : st.Ok) (k k2 : Int) : (st.F.map (Fi.lose k)).map (Fi.lose k2) = st.F.map (Fi.lose k) := by
  rw [List.map_map]
  refine List.map_congr_left fun f hf => ?_
  exact lose_again (lose_full (hok.each f hf).2.1 k) k2
theorem look_name {F : List Fi} {i : Nat} (hi : i < F.length) : ∃ f, lookF F ((F.map Fi.nm).getD i []) = some f := by
  have e : (F.map Fi.nm).getD i [] = F[i].nm := by
    rw [List.getD_eq_getElem?_getD, List.getElem?_map, List.getElem?_eq_getElem hi]; rfl
  rw [e]
  cases h : lookF F F[i].nm with
  | some f => exact ⟨f, rfl⟩
  | none =>
    unfold lookF at h
    rw [List.find?_eq_none] at h
    exact absurd (by simp) (h F[i] (List.getElem_mem _))
theorem Tw.ok {w0 W : World} {q r : Nat} {s1 s2 : Ds} (h : Tw w0 q r s1 s2 W) : s1.Ok ∧ s2.Ok := by
  obtain ⟨F, G, hd, ⟨fv, FS, hr, -⟩, -⟩ := h
  exact ⟨hd.ok, hr.ok⟩
section
variable {w0 W : World} {q r : Nat} {s1 s2 : Ds}
theorem tw_names (h : Tw w0 q r s1 s2 W) {M : List (List UInt8)} (hM : s1.F.map Fi.nm = M) : Calls Try.prog 32 #[.pointer (some ⟨q, 0, none⟩)] W (fun e W' => ∃ v, e = .returned v ∧ Tx W' v M ∧ Below W.heap.size W W') := by
  subst hM
  obtain ⟨F, G, ⟨m, pv, FS, hd, -⟩, hr, -⟩ := h
  exact (dnames_c hd).mono fun e W' (h : NamesPost _ W e W') => by obtain ⟨v, he, ho, hb⟩ := h; exact ⟨v, he, ho.tx, hb⟩
theorem tw_rnames (h : Tw w0 q r s1 s2 W) {M : List (List UInt8)} (hM : s2.F.map Fi.nm = M) : Calls Try.prog 30 #[.pointer (some ⟨r, 0, none⟩)] W (fun e W' => ∃ v, e = .returned v ∧ Tx W' v M ∧ Below W.heap.size W W') := by
  subst hM
  obtain ⟨F, G, hd, ⟨fv, FS, hr, -⟩, -⟩ := h
  exact (rnames_c hr).mono fun e W' (h : NamesPost _ W e W') => by obtain ⟨v, he, ho, hb⟩ := h; exact ⟨v, he, ho.tx, hb⟩
theorem tw_fails (h : Tw w0 q r s1 s2 W) : Calls Try.prog 33 #[.pointer (some ⟨q, 0, none⟩)] W (fun e W' => e = .returned (.int .i64 s1.fails) ∧ W = W') := by
  obtain ⟨F, G, ⟨m, pv, FS, hd, -⟩, hr, -⟩ := h
  exact dfails_c hd
theorem tw_rcs (h : Tw w0 q r s1 s2 W) : W.cell? ⟨r, 3, none⟩ = some (.int .i64 s2.fails) := by
  obtain ⟨F, G, hd, ⟨fv, FS, hr, -⟩, -⟩ := h
  exact hr.cs.2.2.2.1
end
set_option maxRecDepth 100000 in
set_option maxHeartbeats 12800000 in
theorem dtwice_walk {w : World} {a : Option Addr} {m cap : Nat} {L : List Dc} (hl : Dcs w a m cap L) (keep again : Int) : Calls Try.prog 5 #[.slice a m cap, .int .i64 keep, .int .i64 again] w (Tells (.bool true) w) := by
  have HL := Lib.hid hl
  have HLT := Lib.hid (dlight_c hl)
  clear hl
  go_enter Try.func5, Try.ntmps5
  go_upto_region 2 with (go_at_call 15; (with_reducible refine HLT.out.mono ?_); rintro e1 w1 ⟨b1, rfl, hb1, hB1⟩; have HB1 := Lib.hid hB1; have HLI := Lib.hid hb1; clear hB1 hb1; cases b1)
  · go_wp2_with (go_at_call 16; (with_reducible refine (dlives_c _).mono ?_); rintro e8 w8 ⟨rfl, hb8⟩)
    go_ret
    exact ⟨rfl, HB1.out.trans (hb8.mono HB1.out.size)⟩
  · have HMD := Lib.hid (dmadeact_c (HL.out.below HB1.out) (by first | exact HLI.out rfl | exact HLI.out trivial))
    obtain ⟨S, hS⟩ : ∃ z, ((Ds.new 1048576).acts L).power = z := ⟨_, rfl⟩
    have HON := Lib.hid (show S.on = true by rw [← hS]; rfl)
    rw [hS] at HMD
    clear hS HLI
    go_upto_region 6 with (go_at_call 21; (with_reducible refine HMD.out.mono ?_); rintro e2 w2 ⟨q, r, rfl, ht2⟩; have HT2 := Lib.hid ht2; clear ht2)
    have HE1 := Lib.hid (show S.fail keep = (0, S.lost keep S.F) by unfold Ds.fail; rw [if_neg (by simp [HON.out])])
    have HF1 := Lib.hid (tw_call HT2.out (fun F G h => du_fail h keep))
    rw [HE1.out] at HF1
    go_upto_region 10 with (first
      | (go_at_call 22; (with_reducible refine HF1.out.mono ?_); rintro e3 w3 ⟨rfl, ht3⟩; have HF2 := Lib.hid (tw_call ht3 (fun F G h => du_rfail h keep)); rw [HE1.out] at HF2; clear ht3)
      | (go_at_call 23; (with_reducible refine HF2.out.mono ?_); rintro e4 w4 ⟨rfl, ht4⟩; have HF3 := Lib.hid (tw_call ht4 (fun F G h => du_power h)); clear ht4)
      | (go_at_call 24; (with_reducible refine HF3.out.mono ?_); rintro e5 w5 ⟨rfl, ht5⟩; have HF4 := Lib.hid (tw_call ht5 (fun F G h => du_rpower h)); clear ht5)
      | (go_at_call 25; (with_reducible refine HF4.out.mono ?_); rintro e6 w6 ⟨rfl, ht6⟩; have HT6 := Lib.hid ht6; clear ht6))
    obtain ⟨S2, hS2⟩ : ∃ z, (S.lost keep S.F).power = z := ⟨_, rfl⟩
    have HON2 := Lib.hid (show S2.on = true by rw [← hS2]; rfl)
    have HSF := Lib.hid (show S2.F.map (Fi.lose again) = S2.F by rw [← hS2]; exact lost_twice HT2.out.ok.1 keep again)
    have HTW6 := Lib.hid (show Tw w1 q r S2 S2 w6 from by have := HT6.out; rwa [hS2] at this)
    have HE2 := Lib.hid (show S2.fail again = (0, S2.lost again S2.F) by unfold Ds.fail; rw [if_neg (by simp [HON2.out])])
    have HE3 := Lib.hid (show (S2.lost again S2.F).fail again = (150, S2.lost again S2.F) by unfold Ds.fail; rw [if_pos (show (S2.lost again S2.F).on = false from rfl)])
    clear hS2 HT6 HF1 HF2 HF3 HF4
    go_upto_region 13 with (first
      | (go_at_call 18; (with_reducible refine (tw_same HTW6.out).mono ?_); rintro e7 w7 ⟨rfl, ht7, hb7⟩; have HF5 := Lib.hid (tw_call ht7 (fun F G h => du_fail h again)); rw [HE2.out] at HF5; clear ht7 hb7)
      | (go_at_call 22; (with_reducible refine HF5.out.mono ?_); rintro e8 w8 ⟨rfl, ht8⟩; have HF6 := Lib.hid (tw_call ht8 (fun F G h => du_fail h again)); rw [HE3.out] at HF6; clear ht8 HF5)
      | (go_at_call 22; (with_reducible refine HF6.out.mono ?_); rintro e9 w9 ⟨rfl, ht9⟩; have HF7 := Lib.hid (tw_call ht9 (fun F G h => du_power h)); clear ht9)
      | (go_at_call 24; (with_reducible refine HF7.out.mono ?_); rintro e10 w10 ⟨rfl, ht10⟩; have HT10 := Lib.hid ht10; clear ht10))
    obtain ⟨S3, hS3⟩ : ∃ z, (S2.lost again S2.F).power = z := ⟨_, rfl⟩
    have HS3 := Lib.hid (show S3.on = true ∧ S3.F = S2.F ∧ S3.fails = wr64 (S2.fails + 1) from by rw [← hS3]; exact ⟨rfl, HSF.out, rfl⟩)
    have HT := Lib.hid (show Tw w1 q r S3 S2 w10 from by have := HT10.out; rwa [hS3] at this)
    obtain ⟨M, hM⟩ : ∃ z, S2.F.map Fi.nm = z := ⟨_, rfl⟩
    obtain ⟨n, hn⟩ : ∃ z, M.length = z := ⟨_, rfl⟩
    have HMN := Lib.hid (And.intro hM hn)
    have HRN := Lib.hid (fun W (h : Tw w1 q r S3 S2 W) => tw_rnames h hM)
    have HDN := Lib.hid (fun W (h : Tw w1 q r S3 S2 W) => tw_names h (M := M) (by rw [HS3.out.2.1]; exact hM))
    clear hS3 HT10 HF7 hM HE1 HE2 HE3
    go_upto_region 14 with (go_at_call 30; (with_reducible refine (HRN.out _ HT.out).mono ?_); rintro e11 w11 ⟨v9, rfl, ht9, hb9⟩; obtain ⟨na, nc, rfl, hnl, hnm, hnat⟩ := ht9; have HT11 := Lib.hid (HT.out.below hb9); clear hb9)
    rw [hn] at hnl hnat
    have HNA := Lib.hid hnat
    clear hnat hn
    go_wp2
    go_loopw [59] (fun i wr => ∃ i' : Nat, i' ≤ n ∧ i = .int .i64 (i' : Int) ∧ Below w11.heap.size w11 wr) (fun i _ => n - (intOf i).toNat)
    case atStart => exact ⟨0, by omega, rfl, Below.refl _ _⟩
    case round =>
      obtain ⟨i, hi, rfl, hb⟩ := hrel
      have HB := Lib.hid hb
      have HTR := Lib.hid (HT11.out.below hb)
      clear hb
      by_cases hlt : i < n
      · have hii : (i : Int) < (n : Int) := by omega
        have hic : (i : Int) < (nc : Int) := by omega
        obtain ⟨bn, rfl, hnat⟩ : ∃ b, na = some ⟨b, 0, none⟩ ∧ ∀ i, i < n → w11.cell? ⟨b, i, none⟩ = some (.string (text (M.getD i []))) := by
          rcases HNA.out with h | h
          · omega
          · exact h
        have d0 := (HB.out.cell (World.block_lt_of_cell? w11 _ (hnat i hlt))).trans (hnat i hlt)
        have HLT := Lib.hid hlt
        obtain ⟨nm, hnm9⟩ : ∃ z, M.getD i [] = z := ⟨_, rfl⟩
        obtain ⟨f, hlk⟩ : ∃ f, lookF S2.F nm = some f := by
          obtain ⟨e1, e2⟩ := HMN.out
          have hil : i < S2.F.length := by rw [← e2, ← e1, List.length_map] at hlt; exact hlt
          rw [← hnm9, ← e1]
          exact look_name hil
        have hnl : nm.length ≤ 9223372036854775807 := by
          have h1 := List.mem_of_find?_eq_some hlk
          have h2 := List.find?_some hlk
          have h3 := (HTR.out.ok.2.each f h1).2.2
          have h4 : f.nm = nm := by simpa using h2
          rw [← h4]; omega
        have hr2 : S2.read nm = (some f.b, 0) := by unfold Ds.read; rw [if_neg (by simp [HON2.out]), hlk]
        have hr3 : S3.read nm = (some f.b, 0) := by unfold Ds.read; rw [if_neg (by simp [HS3.out.1]), HS3.out.2.1, hlk]
        have HR1 := Lib.hid (fun W (h : Tw w1 q r S3 S2 W) => tw_read h nm hnl (l := f.b) (E := 0) (by rw [hr3]; rfl) (by rw [hr3]))
        have HR2 := Lib.hid (fun W (h : Tw w1 q r S3 S2 W) => tw_rread h nm (l := f.b) (E := 0) (by rw [hr2]; rfl) (by rw [hr2]))
        rw [hnm9] at d0
        obtain ⟨tx, htx⟩ : ∃ z, text nm = z := ⟨_, rfl⟩
        rw [htx] at d0 HR1 HR2
        obtain ⟨l, hl9⟩ : ∃ z, f.b = z := ⟨_, rfl⟩
        rw [hl9] at HR1 HR2
        obtain ⟨ll, hll⟩ : ∃ z, l.length = z := ⟨_, rfl⟩
        have HLL := Lib.hid hll
        clear hnat hlt hnm9 htx hl9 hll hlk hnl hr2 hr3
        go_upto_region 18 with (first
          | (go_at_call 19; (with_reducible refine (HR1.out _ HTR.out).mono ?_); rintro e5 w5 ⟨⟨a5, m5, c5, rfl, hm5, hb5, hy5, -, -, -⟩, ht5⟩; rw [HLL.out] at hm5; subst hm5; have HB5 := Lib.hid hb5; have HY5 := Lib.hid hy5; have HT5 := Lib.hid ht5; clear hb5 hy5 ht5)
          | (go_at_call 20; (with_reducible refine (HR2.out _ HT5.out).mono ?_); rintro e6 w6' ⟨⟨a6, m6, c6, rfl, hm6, hb6, hy6, -, -, -⟩, ht6⟩; rw [HLL.out] at hm6; subst hm6; have HB6 := Lib.hid hb6; have HY6 := Lib.hid hy6; have HY5' := Lib.hid (HY5.out.below hb6); clear hb6 hy6 ht6))
        clear d0
        have cv1 : (convert 30 9 (.slice a5 m6 c5)).run Try.prog w6' = .ok (.string (text l)) w6' := conv_bys HY5'.out Try.underlying30 Try.underlying5 Try.underlying9
        have cv2 : (convert 30 9 (.slice a6 m6 c6)).run Try.prog w6' = .ok (.string (text l)) w6' := conv_bys HY6.out Try.underlying30 Try.underlying5 Try.underlying9
        obtain ⟨tl, htl⟩ : ∃ z, text l = z := ⟨_, rfl⟩
        rw [htl] at cv1 cv2
        have hss : (tl.toList == tl.toList) = true := by simp
        have HEND := Lib.hid ((HB.out.trans (HB5.out.mono HB.out.size)).trans (HB6.out.mono (Nat.le_trans HB.out.size HB5.out.size)))
        clear htl
        go_wp2
        go_roundw
        case rel => exact ⟨i + 1, HLT.out, by go_num, HEND.out⟩
        case measure => simp [intOf]; have := HLT.out; omega
      · obtain rfl : i = n := by omega
        obtain ⟨Fl, hFl⟩ : ∃ z, S2.fails = z := ⟨_, rfl⟩
        obtain ⟨X, hX⟩ : ∃ z, wr64 (Fl + 1) = z := ⟨_, rfl⟩
        have HFS := Lib.hid (fun W (h : Tw w1 q r S3 S2 W) => tw_fails h)
        rw [HS3.out.2.2, hFl, hX] at HFS
        have HRC := Lib.hid (fun W (h : Tw w1 q r S3 S2 W) => show W.cell? ⟨r, 3, none⟩ = some (.int .i64 Fl) from by rw [← hFl]; exact tw_rcs h)
        have hwx : wrap64 (Fl + 1) = X := by rw [← hX]; unfold wr64; rw [IntKind.wrap_i64]; unfold wrap64; omega
        have hxx : (X == X) = true := by simp
        clear hFl hX
        go_wp2
        refine wp_region_flow [none, none, none, none, none, none, some 18, none, none, none, none, none, none, none, none, none, none, none, none, none, none, none, none, none, none, none, none, none, none, none, none, none, none, none, none, none, none, none, none, none, none, none, none, none, none, none, none, none, none, none, none, none, none, none, none, none, none, none, none, none, none, none, none, none, none, none, none, none, none, none, none, none, none, none, none, none, none, none, none, none, none, none, none, none, none, some 0, some 1, some 2, some 3, some 4, some 5, some 6, some 7, some 8, some 9, some 10, some 11, some 12, some 13, some 14, some 15, some 16, some 17] (fun i => [undef, undef, undef, undef, undef, undef, undef, undef, undef, undef, undef, undef, undef, undef, undef, undef, undef, undef, u6].getD i undef) [(fun v _ => v = .pointer (some ⟨q, 0, none⟩)), (fun v W => Tx W v M), (fun v _ => v = .pointer (some ⟨r, 0, none⟩)), (fun v W => Tx W v M), (fun v _ => v = .bool true), (fun v _ => v = .bool true), (fun v _ => v = .pointer (some ⟨q, 0, none⟩)), (fun v _ => v = .int .i64 X), (fun v _ => v = .pointer (some ⟨r, 0, none⟩)), (fun v _ => v = .pointer (some ⟨r, 0, none⟩)), (fun v _ => v = .pointer (some ⟨r, 3, none⟩)), (fun v _ => v = .int .i64 Fl), (fun v _ => v = .int .i64 X), (fun v _ => v = .bool true), (fun v _ => v = .bool true), (fun v _ => v = .bool true), (fun v _ => v = .bool true), (fun v _ => v = .bool true), (fun v _ => v = .bool true)] (by kernel_rfl) (by kernel_rfl) rfl rfl rfl ?_ ?_ ?_
        · intro g hg v X Y hX hY hv
          simp only [List.mem_cons, List.not_mem_nil, or_false] at hg
          rcases hg with rfl | rfl | rfl | rfl | rfl | rfl | rfl | rfl | rfl | rfl | rfl | rfl | rfl | rfl | rfl | rfl | rfl | rfl | rfl
          all_goals first
            | exact hv
            | exact hv.kept hY
        · simp only [flowOps, and_true]
          refine ⟨?_, ?_, ?_, ?_, ?_, ?_, ?_, ?_, ?_, ?_, ?_, ?_, ?_, ?_, ?_, ?_, ?_, ?_, ?_⟩
          · intro xs W hW hn
            simp only [flowAct, List.zipWith_cons_cons, List.zipWith_nil_left]
            go_wp2_with (fail)
            exact ⟨rfl, _, rfl, Below.refl _ _, rfl⟩
          · intro xs W hW hn
            simp [flowNeeds, Region.binds] at hn
            simp only [flowAct, List.zipWith_cons_cons, List.zipWith_nil_left]
            try simp only [hn]
            go_wp2_with (go_at_call 32; (with_reducible refine (HDN.out _ (HTR.out.below hW)).mono ?_); rintro e9 w9 ⟨v9, rfl, ht9, hb9⟩)
            exact ⟨rfl, _, rfl, hb9, ht9⟩
          · intro xs W hW hn
            simp only [flowAct, List.zipWith_cons_cons, List.zipWith_nil_left]
            go_wp2_with (fail)
            exact ⟨rfl, _, rfl, Below.refl _ _, rfl⟩
          · intro xs W hW hn
            simp [flowNeeds, Region.binds] at hn
            simp only [flowAct, List.zipWith_cons_cons, List.zipWith_nil_left]
            try simp only [hn]
            go_wp2_with (go_at_call 30; (with_reducible refine (HRN.out _ (HTR.out.below hW)).mono ?_); rintro e9 w9 ⟨v9, rfl, ht9, hb9⟩)
            exact ⟨rfl, _, rfl, hb9, ht9⟩
          · intro xs W hW hn
            simp [flowNeeds, Region.binds] at hn
            obtain ⟨t1, t3⟩ := hn
            have HTX := Lib.hid (And.intro t1 t3)
            clear t1 t3
            simp only [flowAct, List.zipWith_cons_cons, List.zipWith_nil_left]
            go_wp2_with (go_at_call 31; (with_reducible refine (rtexts_c HTX.out.1 HTX.out.2).mono ?_); rintro e9 w9 ⟨rfl, hb9⟩)
            exact ⟨rfl, _, rfl, hb9, by first | rfl | simp⟩
          · intro xs W hW hn
            simp [flowNeeds, Region.binds] at hn
            simp only [flowAct, List.zipWith_cons_cons, List.zipWith_nil_left]
            try simp only [hn]
            go_wp2_with (fail)
            exact ⟨rfl, _, rfl, Below.refl _ _, rfl⟩
          · intro xs W hW hn
            simp [flowNeeds, Region.binds] at hn
            simp only [flowAct, List.zipWith_cons_cons, List.zipWith_nil_left]
            try simp only [hn]
            go_wp2_with (fail)
            exact ⟨rfl, _, rfl, Below.refl _ _, rfl⟩
          · intro xs W hW hn
            simp [flowNeeds, Region.binds] at hn
            simp only [flowAct, List.zipWith_cons_cons, List.zipWith_nil_left]
            try simp only [hn]
            go_wp2_with (go_at_call 33; (with_reducible refine (HFS.out _ (HTR.out.below hW)).mono ?_); rintro e9 w9 ⟨rfl, rfl⟩)
            exact ⟨rfl, _, rfl, Below.refl _ _, rfl⟩
          · intro xs W hW hn
            simp [flowNeeds, Region.binds] at hn
            simp only [flowAct, List.zipWith_cons_cons, List.zipWith_nil_left]
            try simp only [hn]
            go_wp2_with (fail)
            exact ⟨rfl, _, rfl, Below.refl _ _, rfl⟩
          · intro xs W hW hn
            simp [flowNeeds, Region.binds] at hn
            simp only [flowAct, List.zipWith_cons_cons, List.zipWith_nil_left]
            try simp only [hn]
            go_wp2_with (fail)
            exact ⟨rfl, _, rfl, Below.refl _ _, rfl⟩
          · intro xs W hW hn
            simp [flowNeeds, Region.binds] at hn
            simp only [flowAct, List.zipWith_cons_cons, List.zipWith_nil_left]
            try simp only [hn]
            go_wp2_with (fail)
            exact ⟨rfl, _, rfl, Below.refl _ _, rfl⟩
          · intro xs W hW hn
            simp [flowNeeds, Region.binds] at hn
            have r3 := HRC.out _ (HTR.out.below hW)
            simp only [flowAct, List.zipWith_cons_cons, List.zipWith_nil_left]
            try simp only [hn]
            go_wp2_with (fail)
            exact ⟨rfl, _, rfl, Below.refl _ _, rfl⟩
          · intro xs W hW hn
            simp [flowNeeds, Region.binds] at hn
            simp only [flowAct, List.zipWith_cons_cons, List.zipWith_nil_left]
            try simp only [hn]
            go_wp2_with (fail)
            exact ⟨rfl, _, rfl, Below.refl _ _, show Value.int IntKind.i64 (wrap64 (Fl + 1)) = .int .i64 X from by rw [hwx]⟩
          · intro xs W hW hn
            simp [flowNeeds, Region.binds] at hn
            simp only [flowAct, List.zipWith_cons_cons, List.zipWith_nil_left]
            try simp only [hn]
            go_wp2_with (fail)
            exact ⟨rfl, _, rfl, Below.refl _ _, rfl⟩
          · intro xs W hW hn
            simp [flowNeeds, Region.binds] at hn
            simp only [flowAct, List.zipWith_cons_cons, List.zipWith_nil_left]
            try simp only [hn]
            go_wp2_with (fail)
            exact ⟨rfl, _, rfl, Below.refl _ _, rfl⟩
          · intro xs W hW hn
            simp [flowNeeds, Region.binds] at hn
            simp only [flowAct, List.zipWith_cons_cons, List.zipWith_nil_left]
            try simp only [hn]
            go_wp2_with (fail)
            exact ⟨rfl, _, rfl, Below.refl _ _, rfl⟩
          · intro xs W hW hn
            simp [flowNeeds, Region.binds] at hn
            simp only [flowAct, List.zipWith_cons_cons, List.zipWith_nil_left]
            try simp only [hn]
            go_wp2_with (go_at_call 16; (with_reducible refine (dlives_c _).mono ?_); rintro e9 w9 ⟨rfl, hb9⟩)
            exact ⟨rfl, _, rfl, hb9, rfl⟩
          · intro xs W hW hn
            simp [flowNeeds, Region.binds] at hn
            simp only [flowAct, List.zipWith_cons_cons, List.zipWith_nil_left]
            try simp only [hn]
            go_wp2_with (fail)
            exact ⟨rfl, _, rfl, Below.refl _ _, rfl⟩
          · intro xs W hW hn
            simp [flowNeeds, Region.binds] at hn
            simp only [flowAct, List.zipWith_cons_cons, List.zipWith_nil_left]
            try simp only [hn]
            go_wp2_with (fail)
            exact ⟨rfl, _, rfl, Below.refl _ _, rfl⟩
        · intro xs W hW hall
          simp only [flowAll, and_true, Nat.zero_add, Nat.reduceAdd] at hall
          obtain ⟨a0a, a1a, a2a, a3a, a4a, a5a, a6a, a7a, a8a, a9a, a10a, a11a, a12a, a13a, a14a, a15a, a16a, a17a, a18a⟩ := hall
          simp only [flowAct, List.zipWith_cons_cons, List.zipWith_nil_left]
          simp only [a18a]
          clear a0a a1a a2a a3a a4a a5a a6a a7a a8a a9a a10a a11a a12a a13a a14a a15a a16a a17a a18a
          have HW := Lib.hid hW
          clear hW
          go_wp2
          go_ret
          exact ⟨rfl, HB1.out.trans ((HTR.out.b.trans (HW.out.mono HTR.out.b.size)).mono HB1.out.size)⟩
          
end Go.Proofs.Ytplanmiggeghfaa
