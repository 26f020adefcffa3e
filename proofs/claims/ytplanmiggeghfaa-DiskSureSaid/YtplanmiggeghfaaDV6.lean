/-
  Disk: the walk of DiskSure.
-/
import Derived.Test.YtplanmiggeghfaaDV4
import Derived.Test.YtplanmiggeghfaaDX
import Derived.Shelf.Abstract
namespace Go.Proofs.Ytplanmiggeghfaa
open Go.RowKit Go Go.Sort Go.Maps Go.WideMaps
set_option linter.unusedVariables false
set_option maxRecDepth 20000

theorem used_lose (k : Int) : ∀ F : List Fi, usedF (F.map (Fi.lose k)) ≤ usedF F
  | [] => Nat.le_refl _
  | f :: r => by
    have ih := used_lose k r
    unfold usedF at ih ⊢
    simp only [List.map_cons, List.sum_cons]
    have : (Fi.lose k f).b.length ≤ f.b.length := by simp [Fi.lose]; omega
    omega
theorem used_opd (st : Ds) (gd ga : List Fi → List Fi) (c : Nat) (h1 : usedF (gd st.F) ≤ usedF st.F + c) (h2 : usedF (ga st.F) ≤ usedF st.F + c) : usedF (st.opd gd ga).2.F ≤ usedF st.F + c := by
  unfold Ds.opd
  split
  · exact Nat.le_trans (used_lose _ _) h2
  · exact h1
theorem room_opd (st : Ds) (gd ga : List Fi → List Fi) : (st.opd gd ga).2.room = st.room := by
  unfold Ds.opd
  split <;> rfl
theorem Ds.Ok.dist {st : Ds} (h : st.Ok) : st.F.Pairwise (fun a b => a.nm ≠ b.nm) := h.asc.imp less_ne
theorem used_act {st : Ds} (h : st.Ok) (a : Dc) : usedF (st.act a).2.F ≤ usedF st.F + a.l.length := by
  have hid : usedF (id st.F) ≤ usedF st.F + a.l.length := Nat.le_add_right _ _
  unfold Ds.act
  split
  · unfold Ds.make
    repeat' split
    all_goals first
      | exact Nat.le_add_right _ _
      | exact used_opd _ _ _ _ (by rw [used_ins]; simp) hid
  · split
    · unfold Ds.append
      repeat' split
      all_goals first
        | exact Nat.le_add_right _ _
        | exact used_opd _ _ _ _ (used_set _ _ _ (fun f => by simp) _ h.dist) (used_set _ _ _ (fun f => by simp) _ h.dist)
    · split
      · unfold Ds.sync
        repeat' split
        all_goals first
          | exact Nat.le_add_right _ _
          | exact used_opd _ _ _ _ (Nat.le_trans (used_set _ _ 0 (fun f => by simp) _ h.dist) (by omega)) hid
      · split
        · unfold Ds.cut
          repeat' split
          all_goals first
            | exact Nat.le_add_right _ _
            | exact used_opd _ _ _ _ (Nat.le_trans (used_set _ _ 0 (fun f => by simp; omega) _ h.dist) (by omega)) hid
        · split
          · unfold Ds.drop
            repeat' split
            all_goals first
              | exact Nat.le_add_right _ _
              | exact used_opd _ _ _ _ (Nat.le_trans (used_del _ _) (Nat.le_add_right _ _)) hid
          · split
            · unfold Ds.arm
              repeat' split
              all_goals exact Nat.le_add_right _ _
            · split
              · unfold Ds.fail
                split
                · exact Nat.le_add_right _ _
                · exact Nat.le_trans (used_lose _ _) (Nat.le_add_right _ _)
              · split
                · exact Nat.le_add_right _ _
                · exact Nat.le_add_right _ _
theorem room_act (st : Ds) (a : Dc) : (st.act a).2.room = st.room := by
  unfold Ds.act Ds.make Ds.append Ds.sync Ds.cut Ds.drop Ds.arm Ds.fail
  repeat' split
  all_goals first
    | rfl
    | exact room_opd _ _ _
theorem tw_okk {w0 W : World} {q r : Nat} {s1 s2 : Ds} (h : Tw w0 q r s1 s2 W) : s1.Ok ∧ s2.Ok := by
  obtain ⟨F, G, hd, ⟨fv, FS, hr, -⟩, -⟩ := h
  exact ⟨hd.ok, hr.ok⟩
theorem le_sum_mem : ∀ (L : List Nat) (x : Nat), x ∈ L → x ≤ L.sum
  | [], _, h => by cases h
  | a :: r, x, h => by
    rw [List.sum_cons]
    rcases List.mem_cons.1 h with rfl | h
    · exact Nat.le_add_right _ _
    · exact Nat.le_trans (le_sum_mem r x h) (Nat.le_add_left _ _)
set_option maxRecDepth 100000 in
set_option maxHeartbeats 6400000 in
theorem dlight2_c {w : World} {a : Option Addr} {n cap : Nat} {L : List Dc} (hl : Dcs w a n cap L) :
    Calls Try.prog 15 #[.slice a n cap] w (fun e w' => ∃ b : Bool, e = .returned (.bool b) ∧ (b = true → (L.map fun x => x.l.length).sum ≤ 20000) ∧ Below w.heap.size w w') := by
  have hle := hl.le
  have hmax := hl.max
  have HLL := Lib.hid hl.len
  have HL := Lib.hid hl
  clear hl
  go_enter Try.func15, Try.ntmps15
  go_wp2
  go_loopw [3, 4] (fun v i9 wr => ∃ (i q : Nat), i ≤ n ∧ i9 = .int .i64 (i : Int) ∧ v = .int .i64 (q : Int) ∧ q ≤ 20001 ∧ (q ≤ 20000 → ((L.take i).map fun x => x.l.length).sum ≤ q) ∧ Below w.heap.size w wr) (fun _ i9 _ => n - (intOf i9).toNat)
  case atStart => exact ⟨0, 0, by omega, rfl, rfl, by omega, fun _ => by simp, Below.refl _ _⟩
  case round =>
    obtain ⟨i, q, hi, rfl, rfl, hq, hlo, hB⟩ := hrel
    have HB := Lib.hid hB
    have HLO := Lib.hid hlo
    clear hB hlo
    by_cases hlt : i < n
    · have hii : (i : Int) < (n : Int) := by omega
      have hic : (i : Int) < (cap : Int) := by omega
      by_cases hf : 20000 < q
      · have hfi : ¬ (q : Int) ≤ 20000 := by omega
        go_wp2
        go_ret
        exact .inl ⟨rfl, HB.out⟩
      · have hfi : (q : Int) ≤ 20000 := by omega
        obtain ⟨b, off, xa, ca, rfl, hy, hk1, hnn, hat⟩ := HL.out.place hlt
        obtain ⟨-, c1, c2, -, -⟩ := hat _ HB.out
        have htk := takeDc_snoc (l := L) (i := i) (by have := HLL.out; omega)
        obtain ⟨A, hA⟩ : ∃ z, L.getD i Dc.zero = z := ⟨_, rfl⟩
        rw [hA] at c1 c2 hk1 htk hy
        have hym := hy.max
        have hyl := hy.le
        have hml : A.l.length ≤ 9223372036854775807 := by omega
        obtain ⟨k, hk⟩ : ∃ z, A.nm.length = z := ⟨_, rfl⟩
        obtain ⟨m, hm⟩ : ∃ z, A.l.length = z := ⟨_, rfl⟩
        rw [hk] at hk1
        rw [hm] at c2 hyl hml
        have HT := Lib.hid (show satA (satA (satA q 20) k) m ≤ 20000 → ((L.take (i + 1)).map fun x => x.l.length).sum ≤ satA (satA (satA q 20) k) m from fun h => by
          obtain ⟨e3, h3⟩ := satA_fits h
          obtain ⟨e2, h2⟩ := satA_fits (n := satA q 20) (k := k) (by omega)
          obtain ⟨e1, h1⟩ := satA_fits (n := q) (k := 20) (by omega)
          have h0 := HLO.out (by omega)
          rw [htk, List.map_append, List.sum_append]
          have hs1 : ([A].map fun x => x.l.length).sum = m := by simp [hm]
          omega)
        have hsz : ((text A.nm).size : Int) = (k : Int) := by rw [text_sizeD, hk]
        obtain ⟨tx, htx⟩ : ∃ s, text A.nm = s := ⟨_, rfl⟩
        rw [htx] at c1 hsz
        have HA0 := Lib.hid (fun (d : Nat) (os : Array Obj) => (show Calls Try.prog 46 #[.int .i64 (q : Int), .int .i64 20, .int .i64 20000] (grow (redrawn wr d) os) _ from radd20_t q 20 hq (by omega) _).regrown_of)
        have HA1 := Lib.hid (fun (d : Nat) (os : Array Obj) => (radd20_t (satA q 20) k (satA_le _ _) hk1 (grow (redrawn wr d) os)).regrown_of)
        have HA2 := Lib.hid (fun (d : Nat) (os : Array Obj) => (radd20_t (satA (satA q 20) k) m (satA_le _ _) hml (grow (redrawn wr d) os)).regrown_of)
        have k1 := cell_regrown c1
        have k2 := cell_regrown c2
        clear c1 c2 hA hk hm hy htx htk hat hnn
        go_upto_region 6 with (fail)
        refine wp_region_quiet_below (by kernel_rfl) (by kernel_rfl) ?_
        repeat (go_big_quiet_step (first
          | with_reducible exact HA0.out _ _
          | with_reducible exact HA1.out _ _
          | with_reducible exact HA2.out _ _))
        refine wpQuiet_nil ?_
        intro _ hw'
        obtain ⟨⟨dq5, osq5⟩, hw''⟩ := hw'
        subst hw''
        have HBQ := Lib.hid (below_regrown wr dq5 osq5)
        clear k1 k2
        go_wp2
        go_roundw
        case rel => exact ⟨i + 1, satA (satA (satA q 20) k) m, by omega, by go_num, rfl, satA_le _ _, HT.out, HB.out.trans (HBQ.out.mono HB.out.size)⟩
        case measure => simp [intOf]; omega
    · obtain rfl : i = n := by omega
      go_wp2
      go_ret
      refine ⟨_, rfl, fun h => ?_, HB.out⟩
      have h9 : (q : Int) ≤ 20000 := by simpa using h
      have h0 := HLO.out (by omega)
      rw [List.take_of_length_le (by have := HLL.out; omega)] at h0
      omega
set_option maxRecDepth 100000 in
set_option maxHeartbeats 12800000 in
theorem dmade2_c {w : World} {a : Option Addr} {m cap : Nat} {L : List Dc} (hl : Dcs w a m cap L) (hli : ∀ x ∈ L, x.l.length ≤ 20000) : Calls Try.prog 21 #[.slice a m cap] w (fun e w' => ∃ q r, e = .returned (.tuple #[.pointer (some ⟨q, 0, none⟩), .pointer (some ⟨r, 0, none⟩), .bool true]) ∧ ∃ S, Tw w q r S S w' ∧ S.on = true ∧ S.room = 1048576 ∧ usedF S.F ≤ (L.map fun x => x.l.length).sum) := by
  have hle := hl.le
  have hmax := hl.max
  have HLN := Lib.hid hl.len
  have HL := Lib.hid hl
  have HLI := Lib.hid (show true = true → ∀ x ∈ L, x.l.length ≤ 20000 from fun _ => hli)
  have HN := Lib.hid (fun W => dnew_c 1048576 W (by omega) (by omega))
  have HRN := Lib.hid (fun W => rnew_c 1048576 W (by omega) (by omega))
  clear hl hli
  go_enter Try.func21, Try.ntmps21
  go_upto_region 4 with (first
    | (go_at_call 11; (with_reducible refine (HN.out _).mono ?_); rintro e1 w1 ⟨q, rfl, F1, hd1, hf1, hb1⟩; have HD1 := Lib.hid hd1; have HF1 := Lib.hid hf1; have HB1 := Lib.hid hb1; clear hd1 hf1 hb1)
    | (go_at_call 12; (with_reducible refine (HRN.out _).mono ?_); rintro e2 w2 ⟨r, rfl, G2, hr2, hg2, hb2⟩; have HT2 := Lib.hid (tw_new HD1.out HF1.out HB1.out hr2 hg2 hb2); clear hr2 hg2 hb2))
  go_wp2
  go_loopw [15] (fun i wr => ∃ (j : Nat) (st : Ds), j ≤ m ∧ i = .int .i64 (j : Int) ∧ (st.room = 1048576 ∧ usedF st.F ≤ ((L.take j).map fun x => x.l.length).sum) ∧ Tw w q r st st wr) (fun i _ => m - (intOf i).toNat)
  case atStart => exact ⟨0, _, by omega, rfl, ⟨rfl, by simp [Ds.new, usedF]⟩, HT2.out⟩
  case round =>
    obtain ⟨j, st, hj, rfl, hst, ht⟩ := hrel
    have HT := Lib.hid ht
    have HST := Lib.hid hst
    clear ht hst
    by_cases hlt : j < m
    · have hji : (j : Int) < (m : Int) := by omega
      have hjc : (j : Int) < (cap : Int) := by omega
      obtain ⟨bl, off, x, c, rfl, hy, hk1, hn1, hat⟩ := HL.out.place hlt
      have hml : (L.getD j Dc.zero).l.length ≤ 20000 := HLI.out (by first | rfl | trivial) _ (by
        rw [List.getD_eq_getElem?_getD, List.getElem?_eq_getElem (by rw [HLN.out]; exact hlt)]
        exact List.getElem_mem _)
      obtain ⟨c0, c1, c2, c3, c4⟩ := hat wr HT.out.b
      obtain ⟨A, hA⟩ : ∃ z, L.getD j Dc.zero = z := ⟨_, rfl⟩
      rw [hA] at hy hk1 hn1 hml c0 c1 c2 c3 c4
      obtain ⟨s', hs'⟩ : ∃ z, (st.act A).2 = z := ⟨_, rfl⟩
      have HDO := Lib.hid (fun o => tw_do HT.out A hy hk1 hn1.2 hml hs' o)
      have HNA := Lib.hid (And.intro hk1 hs')
      have HJM := Lib.hid hlt
      have HAA := Lib.hid hA
      obtain ⟨tx, htx⟩ : ∃ z, text A.nm = z := ⟨_, rfl⟩
      have HTX := Lib.hid htx
      obtain ⟨al, hal⟩ : ∃ z, A.l.length = z := ⟨_, rfl⟩
      obtain ⟨kd, hkd⟩ : ∃ z, A.kd = z := ⟨_, rfl⟩
      obtain ⟨an, han⟩ : ∃ z, A.n = z := ⟨_, rfl⟩
      obtain ⟨ak, hak⟩ : ∃ z, A.kp = z := ⟨_, rfl⟩
      rw [htx, hal, hkd, han, hak] at HDO
      rw [htx] at c1
      rw [hal] at c2
      rw [hkd] at c0
      rw [han] at c3
      rw [hak] at c4
      clear hat hy hk1 hn1 hml hA hs' htx hal hkd han hak hlt
      have hbx := alloc_below wr (.cells #[.int .i64 kd, .string tx, .slice x al c, .int .i64 an, .int .i64 ak] 32)
      have hxx := heap_alloc_new wr (.cells #[.int .i64 kd, .string tx, .slice x al c, .int .i64 an, .int .i64 ak] 32)
      have HT1 := Lib.hid (HT.out.below hbx)
      go_upto_region 7 with (fail)
      obtain ⟨gx, hgx⟩ : ∃ z, wr.heap.size = z := ⟨_, rfl⟩
      have HDO := Lib.hid (HDO.out (.cells #[.int .i64 kd, .string tx, .slice x al c, .int .i64 an, .int .i64 ak] 32))
      rw [hxx, hgx] at HDO
      rw [hgx] at hxx ⊢
      clear c0 c1 c2 c3 c4 hbx hgx
      generalize wr.alloc (.cells #[.int .i64 kd, .string tx, .slice x al c, .int .i64 an, .int .i64 ak] 32) = W1 at *
      have HXX := Lib.hid hxx
      have x0 : W1.cell? ⟨gx, 0, none⟩ = some (.int .i64 kd) := by rw [cell_of_row _ gx 0 _ _ (0, 0) hxx]; rfl
      have x1 : W1.cell? ⟨gx, 1, none⟩ = some (.string tx) := by rw [cell_of_row _ gx 1 _ _ (0, 0) hxx]; rfl
      have x2 : W1.cell? ⟨gx, 2, none⟩ = some (.slice x al c) := by rw [cell_of_row _ gx 2 _ _ (0, 0) hxx]; rfl
      have x3 : W1.cell? ⟨gx, 3, none⟩ = some (.int .i64 an) := by rw [cell_of_row _ gx 3 _ _ (0, 0) hxx]; rfl
      have x4 : W1.cell? ⟨gx, 4, none⟩ = some (.int .i64 ak) := by rw [cell_of_row _ gx 4 _ _ (0, 0) hxx]; rfl
      clear hxx
      go_wp2_with (go_at_call 17; (with_reducible refine HDO.out.mono ?_); rintro e3 w3 ⟨rfl, ht3, hx3⟩; have HT3 := Lib.hid ht3; clear ht3 hx3)
      have HSN := Lib.hid (show s'.room = 1048576 ∧ usedF s'.F ≤ ((L.take (j + 1)).map fun x => x.l.length).sum from by
        obtain ⟨e1, e2⟩ := HST.out
        have h1 := used_act (tw_okk HT.out).1 A
        have h2 := room_act st A
        rw [HNA.out.2] at h1 h2
        rw [takeDc_snoc (by rw [HLN.out]; exact HJM.out), HAA.out, List.map_append, List.sum_append]
        have hs1 : ([A].map fun x => x.l.length).sum = A.l.length := by simp
        exact ⟨h2.trans e1, by omega⟩)
      go_roundw
      case rel => exact ⟨j + 1, s', HJM.out, by go_num, HSN.out, HT3.out⟩
      case measure => simp [intOf]; have := HJM.out; omega
    · obtain rfl : j = m := by omega
      have HP1 := Lib.hid (tw_call HT.out (fun F G h => du_power h))
      go_wp2_with (first
        | (go_at_call 24; (with_reducible refine HP1.out.mono ?_); rintro e5 w5 ⟨rfl, ht5⟩; have HP2 := Lib.hid (tw_call ht5 (fun F G h => du_rpower h)); clear ht5)
        | (go_at_call 25; (with_reducible refine HP2.out.mono ?_); rintro e6 w6 ⟨rfl, ht6⟩; have HT6 := Lib.hid ht6; clear ht6))
      go_ret3
      have htk : L.take j = L := List.take_of_length_le (by rw [HLN.out]; exact Nat.le_refl _)
      obtain ⟨e1, e2⟩ := HST.out
      rw [htk] at e2
      exact ⟨q, r, rfl, st.power, HT6.out, rfl, e1, e2⟩
/-- The name. -/
def sureN : List UInt8 := [115, 117, 114, 101]
/-- A disk in whose work no power fails, with a file of that name or none. -/
structure Sr (st : Ds) (x : Option Fi) (c : Nat) : Prop where
  on : st.on = true
  plan : st.plan = false
  room : st.room = 1048576
  look : lookF st.F sureN = x
  used : usedF st.F ≤ c
theorem look_del (nm : List UInt8) (F : List Fi) : lookF (delF nm F) nm = none := by
  unfold lookF delF
  rw [List.find?_eq_none]
  intro f hf
  have := (List.mem_filter.1 hf).2
  simpa using this
theorem look_set (nm : List UInt8) (g : Fi → Fi) (hg : ∀ f, (g f).nm = f.nm) : ∀ F : List Fi, lookF (setF nm g F) nm = (lookF F nm).map g
  | [] => rfl
  | f :: r => by
    have ih := look_set nm g hg r
    unfold lookF setF at ih ⊢
    rw [List.map_cons, List.find?_cons, List.find?_cons]
    by_cases h : f.nm = nm
    · rw [if_pos h]
      have h1 : ((g f).nm == nm) = true := by rw [hg f, h]; simp
      have h2 : (f.nm == nm) = true := by rw [h]; simp
      rw [h1, h2]
      rfl
    · rw [if_neg h]
      have h2 : (f.nm == nm) = false := by simpa using h
      rw [h2]
      exact ih
theorem look_lose (nm : List UInt8) (k : Int) : ∀ F : List Fi, lookF (F.map (Fi.lose k)) nm = (lookF F nm).map (Fi.lose k)
  | [] => rfl
  | f :: r => by
    have ih := look_lose nm k r
    unfold lookF at ih ⊢
    rw [List.map_cons, List.find?_cons, List.find?_cons]
    have h1 : (Fi.lose k f).nm = f.nm := rfl
    rw [h1]
    cases h : (f.nm == nm)
    · exact ih
    · rfl
theorem look_ins (nm : List UInt8) : ∀ F : List Fi, lookF F nm = none → lookF (insF ⟨nm, [], 0⟩ F) nm = some ⟨nm, [], 0⟩
  | [], _ => by simp [insF, lookF]
  | f :: r, h => by
    have h1 : (f.nm == nm) = false ∧ lookF r nm = none := by
      unfold lookF at h ⊢
      rw [List.find?_cons] at h
      cases h2 : (f.nm == nm)
      · rw [h2] at h; exact ⟨rfl, h⟩
      · rw [h2] at h; cases h
    have ih := look_ins nm r h1.2
    unfold insF
    split
    · unfold lookF; rw [List.find?_cons]; simp
    · unfold lookF at ih ⊢
      rw [List.find?_cons, h1.1]
      exact ih
theorem opd_calm {st : Ds} (h : st.plan = false) (gd ga : List Fi → List Fi) : st.opd gd ga = (0, { st.tick with F := gd st.F }) := opd_yes (by rw [h]; simp)
theorem Sr.drop {st : Ds} {x : Option Fi} {c : Nat} (h : Sr st x c) : Sr (st.drop sureN).2 none c ∧ (st.drop sureN).2.F.length ≤ st.F.length := by
  unfold Ds.drop
  rw [if_neg (by simp [h.on]), h.look]
  cases x with
  | none => exact ⟨h, Nat.le_refl _⟩
  | some f =>
    simp only
    rw [opd_calm h.plan]
    exact ⟨⟨h.on, h.plan, h.room, look_del _ _, Nat.le_trans (used_del _ _) h.used⟩, List.length_filter_le _ _⟩
theorem Sr.make {st : Ds} {c : Nat} (h : Sr st none c) (hl : st.F.length < 64) : (st.make sureN).1 = 0 ∧ Sr (st.make sureN).2 (some ⟨sureN, [], 0⟩) c := by
  unfold Ds.make
  rw [if_neg (by simp [h.on]), if_neg (by decide), if_neg (by simp [h.look]), if_neg (by omega), opd_calm h.plan]
  exact ⟨rfl, h.on, h.plan, h.room, look_ins _ _ h.look, by show usedF (insF _ st.F) ≤ c; rw [used_ins]; have := h.used; simp; exact this⟩
theorem Sr.append {st : Ds} {f : Fi} {c : Nat} (h : Sr st (some f) c) (hok : st.Ok) (l : List UInt8) (h1 : f.b.length + l.length ≤ 1048576) (h2 : c + l.length ≤ 1048576) : (st.append sureN l).1 = 0 ∧ Sr (st.append sureN l).2 (some ⟨f.nm, f.b ++ l, f.su⟩) (c + l.length) := by
  have hu := h.used
  unfold Ds.append
  rw [if_neg (by simp [h.on]), h.look]
  simp only
  rw [if_neg (by omega), if_neg (by rw [h.room]; omega), opd_calm h.plan]
  refine ⟨rfl, h.on, h.plan, h.room, ?_, ?_⟩
  · show lookF (setF _ _ st.F) _ = _
    rw [look_set sureN (fun f => ⟨f.nm, f.b ++ l, f.su⟩) (fun _ => rfl), h.look]; rfl
  · show usedF (setF _ _ st.F) ≤ _
    exact Nat.le_trans (used_set _ _ l.length (fun f => by simp) _ hok.dist) (by omega)
theorem Sr.sync {st : Ds} {f : Fi} {c : Nat} (h : Sr st (some f) c) (hok : st.Ok) : (st.sync sureN).1 = 0 ∧ Sr (st.sync sureN).2 (some ⟨f.nm, f.b, f.b.length⟩) c := by
  unfold Ds.sync
  rw [if_neg (by simp [h.on]), h.look]
  simp only
  rw [opd_calm h.plan]
  refine ⟨rfl, h.on, h.plan, h.room, ?_, ?_⟩
  · show lookF (setF _ _ st.F) _ = _
    rw [look_set sureN (fun f => ⟨f.nm, f.b, f.b.length⟩) (fun _ => rfl), h.look]; rfl
  · show usedF (setF _ _ st.F) ≤ _
    exact Nat.le_trans (used_set _ _ 0 (fun f => by simp) _ hok.dist) (by have := h.used; omega)
theorem Sr.fail {st : Ds} {f : Fi} {c : Nat} (h : Sr st (some f) c) (k : Int) : (st.fail k).1 = 0 ∧ (st.fail k).2.power.read sureN = (some (Fi.lose k f).b, 0) := by
  unfold Ds.fail
  rw [if_neg (by simp [h.on])]
  refine ⟨rfl, ?_⟩
  unfold Ds.read
  rw [if_neg (by simp [Ds.power])]
  have : lookF ((st.lost k st.F).power).F sureN = some (Fi.lose k f) := by
    show lookF (st.F.map (Fi.lose k)) sureN = _
    rw [look_lose, h.look]; rfl
  rw [this]
theorem sure_bytes (first more : List UInt8) (k : Int) {n : Nat} (hn : (n : Int) = max 0 (min k (more.length : Int))) : (Fi.lose k ⟨sureN, [] ++ first ++ more, ([] ++ first).length⟩).b = first ++ more.take n := by
  unfold Fi.lose loseN
  simp only [List.nil_append, List.length_append]
  have e : first.length + (min (max k 0) (((first.length + more.length : Nat) : Int) - (first.length : Int))).toNat = first.length + n := by omega
  rw [e, List.take_append]
  congr 1
  · exact List.take_of_length_le (by omega)
  · congr 1; omega
theorem text_app (a b : List UInt8) : text a ++ text b = text (a ++ b) := by
  apply ByteArray.ext
  simp [text]
section
variable {w0 W : World} {q r : Nat} {s1 s2 : Ds}
theorem tw_append (h : Tw w0 q r s1 s2 W) (nm : List UInt8) (hn : nm.length ≤ 9223372036854775807) {ab : Option Addr} {bl cb : Nat} {l : List UInt8} (hb : Bys w0 ab bl cb l) (hl : l.length ≤ 1000000) {E : Int} {s' : Ds} (hE : (s1.append nm l).1 = E) (hs : (s1.append nm l).2 = s') :
    Calls Try.prog 28 #[.pointer (some ⟨q, 0, none⟩), .string (text nm), .slice ab bl cb] W (fun e W' => e = .returned (.int .i64 E) ∧ Tw w0 q r s' s2 W') := by
  subst hE hs
  obtain ⟨F, G, hd, hr, h1, h2, h3, hb0⟩ := h
  refine (du_append (Du.start hd hr h1) nm hn (hb.below hb0) hl (fun h0 b off e => ?_)).mono fun e W' ⟨he, hdu⟩ => ⟨he, tw_of h2 h3 hb0 hdu⟩
  have := hb.blk_lt h0 e
  exact ⟨Nat.lt_of_lt_of_le this hb0.size, fun hf => by have := h2 b hf; omega, fun hg => by have := h3 b hg; omega⟩
theorem tw_rlen (h : Tw w0 q r s1 s2 W) : ∃ a c, W.cell? ⟨r, 1, none⟩ = some (.slice a s2.F.length c) := by
  obtain ⟨F, G, hd, ⟨fv, FS, hr, -⟩, -⟩ := h
  obtain ⟨a, cap, rfl, -⟩ := hr.at
  have := hr.cs.2.1
  rw [show FS.length = s2.F.length by rw [← hr.pr, List.length_map]] at this
  exact ⟨a, cap, this⟩
end
set_option maxRecDepth 100000 in
set_option maxHeartbeats 12800000 in
theorem dsure_walk {w : World} {a : Option Addr} {m cap : Nat} {L : List Dc} (hl : Dcs w a m cap L) {fa : Option Addr} {fl fc : Nat} {first : List UInt8} (hf : Bys w fa fl fc first) {ma : Option Addr} {ml mc : Nat} {more : List UInt8} (hm : Bys w ma ml mc more) (keep : Int) :
    Calls Try.prog 4 #[.slice a m cap, .slice fa fl fc, .slice ma ml mc, .int .i64 keep] w (Tells (.bool true) w) := by
  have hfx := hf.max
  have hfle := hf.le
  have hmx := hm.max
  have hmle := hm.le
  have HL := Lib.hid hl
  have HLT := Lib.hid (dlight2_c hl)
  have HF := Lib.hid hf
  have HM := Lib.hid hm
  clear hl hf hm
  obtain ⟨d1, hd1⟩ : ∃ d, decide ((2500 : Int) < (fl : Int)) = d := ⟨_, rfl⟩
  obtain ⟨d2, hd2⟩ : ∃ d, decide ((2500 : Int) < (ml : Int)) = d := ⟨_, rfl⟩
  have HD1 := Lib.hid (show d1 = false → fl ≤ 2500 from fun h => by rw [h] at hd1; have : ¬ ((2500 : Int) < (fl : Int)) := of_decide_eq_false hd1; omega)
  have HD2 := Lib.hid (show d2 = false → ml ≤ 2500 from fun h => by rw [h] at hd2; have : ¬ ((2500 : Int) < (ml : Int)) := of_decide_eq_false hd2; omega)
  go_enter Try.func4, Try.ntmps4
  go_upto_region 1 with (fail)
  cases d1
  · cases d2
    · have hfl := HD1.out rfl
      have hml := HD2.out rfl
      go_upto_region 2 with (go_at_call 15; (with_reducible refine HLT.out.mono ?_); rintro e1 w1 ⟨b1, rfl, hb1, hB1⟩; have HB1 := Lib.hid hB1; have HLI := Lib.hid hb1; clear hB1 hb1; cases b1)
      · go_wp2_with (go_at_call 16; (with_reducible refine (dlives_c _).mono ?_); rintro e8 w8 ⟨rfl, hb8⟩)
        go_ret
        exact ⟨rfl, HB1.out.trans (hb8.mono HB1.out.size)⟩
      · have hsum : (L.map fun x => x.l.length).sum ≤ 20000 := by first | exact HLI.out rfl | exact HLI.out trivial
        have HSUM := Lib.hid hsum
        have HMD := Lib.hid (dmade2_c (HL.out.below HB1.out) (fun x hx => Nat.le_trans (le_sum_mem _ _ (List.mem_map.2 ⟨x, hx, rfl⟩)) hsum))
        clear hsum HLI
        go_upto_region 6 with (go_at_call 21; (with_reducible refine HMD.out.mono ?_); rintro e2 w2 ⟨q, r, rfl, S, ht2, hon, hrm, hus⟩; have HT2 := Lib.hid ht2; have HS := Lib.hid (show S.on = true ∧ S.room = 1048576 ∧ usedF S.F ≤ 20000 from ⟨hon, hrm, Nat.le_trans hus HSUM.out⟩); clear ht2 hon hrm hus)
        have HE1 := Lib.hid (show S.fail 0 = (0, S.lost 0 S.F) by unfold Ds.fail; rw [if_neg (by simp [HS.out.1])])
        have HF1 := Lib.hid (tw_call HT2.out (fun F G h => du_fail h 0))
        rw [HE1.out] at HF1
        go_upto_region 10 with (first
          | (go_at_call 22; (with_reducible refine HF1.out.mono ?_); rintro e3 w3 ⟨rfl, ht3⟩; have HF2 := Lib.hid (tw_call ht3 (fun F G h => du_rfail h 0)); rw [HE1.out] at HF2; clear ht3)
          | (go_at_call 23; (with_reducible refine HF2.out.mono ?_); rintro e4 w4 ⟨rfl, ht4⟩; have HF3 := Lib.hid (tw_call ht4 (fun F G h => du_power h)); clear ht4)
          | (go_at_call 24; (with_reducible refine HF3.out.mono ?_); rintro e5 w5 ⟨rfl, ht5⟩; have HF4 := Lib.hid (tw_call ht5 (fun F G h => du_rpower h)); clear ht5)
          | (go_at_call 25; (with_reducible refine HF4.out.mono ?_); rintro e6 w6 ⟨rfl, ht6⟩; have HT6 := Lib.hid ht6; clear ht6))
        obtain ⟨S1, hS1⟩ : ∃ z, (S.lost 0 S.F).power = z := ⟨_, rfl⟩
        have HSR := Lib.hid (show Sr S1 (lookF S1.F sureN) 20000 from by
          rw [← hS1]
          exact ⟨rfl, rfl, HS.out.2.1, rfl, Nat.le_trans (used_lose _ _) HS.out.2.2⟩)
        have HTA := Lib.hid (show Tw w1 q r S1 S1 w6 from by have := HT6.out; rwa [hS1] at this)
        obtain ⟨ra, rc, hr1⟩ := tw_rlen HTA.out
        obtain ⟨ln, hln⟩ : ∃ z, S1.F.length = z := ⟨_, rfl⟩
        rw [hln] at hr1
        have HLN9 := Lib.hid hln
        clear hS1 HT6 HF1 HF2 HF3 HF4 HE1 hln
        by_cases h64 : 64 ≤ ln
        · have h64i : (64 : Int) ≤ (ln : Int) := by omega
          go_wp2_with (go_at_call 16; (with_reducible refine (dlives_c _).mono ?_); rintro e8 w8 ⟨rfl, hb8⟩)
          go_ret
          exact ⟨rfl, HB1.out.trans ((HTA.out.b.trans (hb8.mono HTA.out.b.size)).mono HB1.out.size)⟩
        · have h64i : ¬ (64 : Int) ≤ (ln : Int) := by omega
          have HN := Lib.hid (show sureN.length ≤ 9223372036854775807 by decide)
          obtain ⟨S2, hS2⟩ : ∃ z, (S1.drop sureN).2 = z := ⟨_, rfl⟩
          obtain ⟨E2, hE2⟩ : ∃ z, (S1.drop sureN).1 = z := ⟨_, rfl⟩
          have HC2 := Lib.hid (tw_call HTA.out (fun F G h => du_drop h sureN HN.out))
          have hsr2 := HSR.out.drop
          rw [hS2] at HC2 hsr2
          rw [hE2] at HC2
          have HSR2 := Lib.hid hsr2
          have hmk := hsr2.1.make (by have := hsr2.2; have := HLN9.out; omega)
          obtain ⟨S3, hS3⟩ : ∃ z, (S2.make sureN).2 = z := ⟨_, rfl⟩
          rw [hS3] at hmk
          have HMK := Lib.hid hmk
          have HC3 := Lib.hid (fun W (h : Tw w1 q r S2 S1 W) => tw_call h (fun F G h => du_make h sureN HN.out))
          rw [hS3, HMK.out.1] at HC3
          rw [show text sureN = ⟨#[115, 117, 114, 101]⟩ from rfl] at HC2 HC3
          clear hS2 hE2 hsr2 hmk hS3
          clear hr1
          obtain ⟨ra', rc', hr1⟩ := tw_rlen HTA.out
          rw [HLN9.out] at hr1
          go_upto_region 14 with (go_at_call 26; (with_reducible refine HC2.out.mono ?_); rintro e7 w7 ⟨rfl, ht7⟩; have HT7 := Lib.hid ht7; clear ht7)
          clear hr1
          have HBF := Lib.hid (HF.out.below HB1.out)
          have HBM := Lib.hid (HM.out.below HB1.out)
          have HLF := Lib.hid (show first.length ≤ 2500 ∧ more.length ≤ 2500 from ⟨by have := HF.out.len; omega, by have := HM.out.len; omega⟩)
          go_upto_region 16 with (first
            | (go_at_call 27; (with_reducible refine (HC3.out _ HT7.out).mono ?_); rintro e8 w8 ⟨rfl, ht8⟩; have HA4 := Lib.hid (HMK.out.2.append (tw_okk ht8).1 first (by have := HLF.out; simp; omega) (by have := HLF.out; omega)); have HC4 := Lib.hid (tw_append ht8 sureN HN.out HBF.out (by have := HLF.out; omega) HA4.out.1 rfl); rw [show text sureN = ⟨#[115, 117, 114, 101]⟩ from rfl] at HC4; clear ht8)
            | (go_at_call 28; (with_reducible refine HC4.out.mono ?_); rintro e9 w9 ⟨rfl, ht9⟩; have HA5 := Lib.hid (HA4.out.2.sync (tw_okk ht9).1); have HC5 := Lib.hid (tw_call ht9 (fun F G h => du_sync h sureN HN.out)); rw [HA5.out.1, show text sureN = ⟨#[115, 117, 114, 101]⟩ from rfl] at HC5; clear ht9 HC4)
            | (go_at_call 29; (with_reducible refine HC5.out.mono ?_); rintro e10 w10 ⟨rfl, ht10⟩; have HA6 := Lib.hid (HA5.out.2.append (tw_okk ht10).1 more (by have := HLF.out; simp; omega) (by have := HLF.out; omega)); have HC6 := Lib.hid (tw_append ht10 sureN HN.out HBM.out (by have := HLF.out; omega) HA6.out.1 rfl); rw [show text sureN = ⟨#[115, 117, 114, 101]⟩ from rfl] at HC6; clear ht10)
            | (go_at_call 28; (with_reducible refine HC6.out.mono ?_); rintro e11 w11 ⟨rfl, ht11⟩; have HA7 := Lib.hid (HA6.out.2.fail keep); have HC7 := Lib.hid (tw_call ht11 (fun F G h => du_fail h keep)); rw [HA7.out.1] at HC7; clear ht11)
            | (go_at_call 22; (with_reducible refine HC7.out.mono ?_); rintro e12 w12 ⟨rfl, ht12⟩; have HC8 := Lib.hid (tw_call ht12 (fun F G h => du_power h)); clear ht12))
          obtain ⟨n, hn⟩ : ∃ n : Nat, (n : Int) = max 0 (min keep (ml : Int)) := ⟨(max 0 (min keep (ml : Int))).toNat, by omega⟩
          have hnm : n ≤ ml := by omega
          have hmn : max 0 (min keep (ml : Int)) = (n : Int) := hn.symm
          have hrd := HA7.out.2
          rw [sure_bytes first more keep (n := n) (by rw [hn, HM.out.len])] at hrd
          have HRD := Lib.hid hrd
          obtain ⟨res, hres⟩ : ∃ z, first ++ more.take n = z := ⟨_, rfl⟩
          have HRS := Lib.hid hres
          obtain ⟨rl, hrl⟩ : ∃ z, res.length = z := ⟨_, rfl⟩
          have HRL := Lib.hid hrl
          have HNM := Lib.hid hnm
          clear hrd hres hrl hn
          go_upto_region 18 with (first
            | (go_at_call 24; (with_reducible refine HC8.out.mono ?_); rintro e13 w13 ⟨rfl, ht13⟩; have HC9 := Lib.hid (tw_read ht13 sureN HN.out (l := res) (E := 0) (by rw [HRD.out, ← HRS.out]; rfl) (by rw [HRD.out])); rw [show text sureN = ⟨#[115, 117, 114, 101]⟩ from rfl] at HC9; clear ht13)
            | (go_at_call 19; (with_reducible refine HC9.out.mono ?_); rintro e14 w14 ⟨⟨a5, m5, c5, rfl, hm5, hb5, hy5, -, -, -⟩, ht14⟩; rw [HRL.out] at hm5; subst hm5; have HY := Lib.hid hy5; have HT14 := Lib.hid ht14; clear hb5 hy5 ht14))
          go_upto_region 19 with (fail)
          have HMB := Lib.hid (show Bys w14 ma n mc (more.take n) from (HBM.out.below HT14.out.b).take HNM.out)
          have HFB := Lib.hid (HBF.out.below HT14.out.b)
          have hnc : (n : Int) ≤ (mc : Int) := by omega
          have hn0 : (0 : Int) ≤ (n : Int) := by omega
          refine wp_region_flow [none, none, none, none, none, none, none, none, some 17, none, none, none, none, none, none, none, none, none, none, none, none, none, none, none, none, none, none, none, none, none, none, none, none, none, none, none, none, none, none, none, none, none, none, none, none, none, none, none, none, none, none, none, none, none, none, none, none, none, none, none, none, none, none, none, none, none, none, none, none, none, none, none, none, none, none, none, none, none, none, none, none, none, none, none, none, none, none, none, none, none, none, none, none, none, none, none, none, none, none, some 0, some 1, some 2, some 3, some 4, some 5, some 6, some 7, some 8, some 9, some 10, some 11, some 12, some 13, some 14, some 15, some 16] (fun i => [undef, undef, undef, undef, undef, undef, undef, undef, undef, undef, undef, undef, undef, undef, undef, undef, undef, .bool false].getD i undef) [(fun v _ => v = .int .i64 0), (fun v _ => v = .bool true), (fun v _ => v = .bool true), (fun v _ => v = .slice a5 m5 c5), (fun v _ => v = .string (text res)), (fun v _ => v = .slice fa fl fc), (fun v _ => v = .string (text first)), (fun v _ => v = .slice ma ml mc), (fun v _ => v = .int .i64 (n : Int)), (fun v _ => v = .slice ma n mc), (fun v _ => v = .string (text (more.take n))), (fun v _ => v = .string (text res)), (fun v _ => v = .bool true), (fun v _ => v = .bool true), (fun v _ => v = .bool true), (fun v _ => v = .bool true), (fun v _ => v = .bool true), (fun v _ => v = .bool true)] (by kernel_rfl) (by kernel_rfl) rfl rfl rfl ?_ ?_ ?_
          · intro g hg v X Y hX hY hv
            simp only [List.mem_cons, List.not_mem_nil, or_false] at hg
            rcases hg with rfl | rfl | rfl | rfl | rfl | rfl | rfl | rfl | rfl | rfl | rfl | rfl | rfl | rfl | rfl | rfl | rfl | rfl
            all_goals first
              | exact hv
              | exact hv.kept hY
          · simp only [flowOps, and_true]
            refine ⟨?_, ?_, ?_, ?_, ?_, ?_, ?_, ?_, ?_, ?_, ?_, ?_, ?_, ?_, ?_, ?_, ?_, ?_⟩
            · intro xs W hW hn9
              simp only [flowAct, List.zipWith_cons_cons, List.zipWith_nil_left]
              go_wp2_with (fail)
              exact ⟨rfl, _, rfl, Below.refl _ _, rfl⟩
            · intro xs W hW hn9
              simp [flowNeeds, Region.binds] at hn9
              simp only [flowAct, List.zipWith_cons_cons, List.zipWith_nil_left]
              try simp only [hn9]
              go_wp2_with (fail)
              exact ⟨rfl, _, rfl, Below.refl _ _, rfl⟩
            · intro xs W hW hn9
              simp [flowNeeds, Region.binds] at hn9
              simp only [flowAct, List.zipWith_cons_cons, List.zipWith_nil_left]
              try simp only [hn9]
              go_wp2_with (fail)
              exact ⟨rfl, _, rfl, Below.refl _ _, rfl⟩
            · intro xs W hW hn9
              simp [flowNeeds, Region.binds] at hn9
              simp only [flowAct, List.zipWith_cons_cons, List.zipWith_nil_left]
              try simp only [hn9]
              go_wp2_with (fail)
              exact ⟨rfl, _, rfl, Below.refl _ _, rfl⟩
            · intro xs W hW hn9
              simp [flowNeeds, Region.binds] at hn9
              have cv : (convert 30 9 (.slice a5 m5 c5)).run Try.prog W = .ok (.string (text res)) W := conv_bys (HY.out.below hW) Try.underlying30 Try.underlying5 Try.underlying9
              simp only [flowAct, List.zipWith_cons_cons, List.zipWith_nil_left]
              try simp only [hn9]
              go_wp2_with (fail)
              exact ⟨rfl, _, rfl, Below.refl _ _, rfl⟩
            · intro xs W hW hn9
              simp [flowNeeds, Region.binds] at hn9
              simp only [flowAct, List.zipWith_cons_cons, List.zipWith_nil_left]
              try simp only [hn9]
              go_wp2_with (fail)
              exact ⟨rfl, _, rfl, Below.refl _ _, rfl⟩
            · intro xs W hW hn9
              simp [flowNeeds, Region.binds] at hn9
              have cv : (convert 30 9 (.slice fa fl fc)).run Try.prog W = .ok (.string (text first)) W := conv_bys (HFB.out.below hW) Try.underlying30 Try.underlying5 Try.underlying9
              simp only [flowAct, List.zipWith_cons_cons, List.zipWith_nil_left]
              try simp only [hn9]
              go_wp2_with (fail)
              exact ⟨rfl, _, rfl, Below.refl _ _, rfl⟩
            · intro xs W hW hn9
              simp [flowNeeds, Region.binds] at hn9
              simp only [flowAct, List.zipWith_cons_cons, List.zipWith_nil_left]
              try simp only [hn9]
              go_wp2_with (fail)
              exact ⟨rfl, _, rfl, Below.refl _ _, rfl⟩
            · intro xs W hW hn9
              simp [flowNeeds, Region.binds] at hn9
              simp only [flowAct, List.zipWith_cons_cons, List.zipWith_nil_left]
              try simp only [hn9]
              go_wp2_with (fail)
              exact ⟨rfl, _, rfl, Below.refl _ _, rfl⟩
            · intro xs W hW hn9
              simp [flowNeeds, Region.binds] at hn9
              have hnm9 := HNM.out
              simp only [flowAct, List.zipWith_cons_cons, List.zipWith_nil_left]
              try simp only [hn9]
              go_wp2_with (fail)
              exact ⟨rfl, _, rfl, Below.refl _ _, rfl⟩
            · intro xs W hW hn9
              simp [flowNeeds, Region.binds] at hn9
              have cv : (convert 30 9 (.slice ma n mc)).run Try.prog W = .ok (.string (text (more.take n))) W := conv_bys (HMB.out.below hW) Try.underlying30 Try.underlying5 Try.underlying9
              simp only [flowAct, List.zipWith_cons_cons, List.zipWith_nil_left]
              try simp only [hn9]
              go_wp2_with (fail)
              exact ⟨rfl, _, rfl, Below.refl _ _, rfl⟩
            · intro xs W hW hn9
              simp [flowNeeds, Region.binds] at hn9
              have hs9 : ¬ 9223372036854775807 < (text first).size + (text (more.take n)).size := by
                have := HLF.out
                have e : ∀ l : List UInt8, (text l).size = l.length := fun l => by simp [text, ByteArray.size]
                rw [e, e, List.length_take]
                omega
              simp only [flowAct, List.zipWith_cons_cons, List.zipWith_nil_left]
              try simp only [hn9]
              go_wp2_with (fail)
              exact ⟨rfl, _, rfl, Below.refl _ _, show Value.string (text first ++ text (more.take n)) = .string (text res) from by rw [text_app, HRS.out]⟩
            · intro xs W hW hn9
              simp [flowNeeds, Region.binds] at hn9
              simp only [flowAct, List.zipWith_cons_cons, List.zipWith_nil_left]
              try simp only [hn9]
              go_wp2_with (fail)
              exact ⟨rfl, _, rfl, Below.refl _ _, rfl⟩
            · intro xs W hW hn9
              simp [flowNeeds, Region.binds] at hn9
              simp only [flowAct, List.zipWith_cons_cons, List.zipWith_nil_left]
              try simp only [hn9]
              go_wp2_with (fail)
              exact ⟨rfl, _, rfl, Below.refl _ _, rfl⟩
            · intro xs W hW hn9
              simp [flowNeeds, Region.binds] at hn9
              simp only [flowAct, List.zipWith_cons_cons, List.zipWith_nil_left]
              try simp only [hn9]
              go_wp2_with (fail)
              exact ⟨rfl, _, rfl, Below.refl _ _, rfl⟩
            · intro xs W hW hn9
              simp [flowNeeds, Region.binds] at hn9
              simp only [flowAct, List.zipWith_cons_cons, List.zipWith_nil_left]
              try simp only [hn9]
              go_wp2_with (go_at_call 16; (with_reducible refine (dlives_c _).mono ?_); rintro e9 w9 ⟨rfl, hb9⟩)
              exact ⟨rfl, _, rfl, hb9, rfl⟩
            · intro xs W hW hn9
              simp [flowNeeds, Region.binds] at hn9
              simp only [flowAct, List.zipWith_cons_cons, List.zipWith_nil_left]
              try simp only [hn9]
              go_wp2_with (fail)
              exact ⟨rfl, _, rfl, Below.refl _ _, rfl⟩
            · intro xs W hW hn9
              simp [flowNeeds, Region.binds] at hn9
              simp only [flowAct, List.zipWith_cons_cons, List.zipWith_nil_left]
              try simp only [hn9]
              go_wp2_with (fail)
              exact ⟨rfl, _, rfl, Below.refl _ _, rfl⟩
          · intro xs W hW hall
            simp only [flowAll, and_true, Nat.zero_add, Nat.reduceAdd] at hall
            obtain ⟨a0a, a1a, a2a, a3a, a4a, a5a, a6a, a7a, a8a, a9a, a10a, a11a, a12a, a13a, a14a, a15a, a16a, a17a⟩ := hall
            simp only [flowAct, List.zipWith_cons_cons, List.zipWith_nil_left]
            simp only [a17a]
            clear a0a a1a a2a a3a a4a a5a a6a a7a a8a a9a a10a a11a a12a a13a a14a a15a a16a a17a
            have HW := Lib.hid hW
            clear hW
            go_wp2
            go_ret
            exact ⟨rfl, HB1.out.trans ((HT14.out.b.trans (HW.out.mono HT14.out.b.size)).mono HB1.out.size)⟩
            
    · go_wp2_with (first
        | (go_at_call 15; (with_reducible refine HLT.out.mono ?_); rintro e1 w1 ⟨b1, rfl, hb1, hB1⟩; have HB1 := Lib.hid hB1; clear hB1 hb1; cases b1)
        | (go_at_call 16; (with_reducible refine (dlives_c _).mono ?_); rintro e8 w8 ⟨rfl, hb8⟩))
      all_goals
        go_ret
        exact ⟨rfl, HB1.out.trans (hb8.mono HB1.out.size)⟩
  · go_wp2_with (first
      | (go_at_call 15; (with_reducible refine HLT.out.mono ?_); rintro e1 w1 ⟨b1, rfl, hb1, hB1⟩; have HB1 := Lib.hid hB1; clear hB1 hb1; cases b1)
      | (go_at_call 16; (with_reducible refine (dlives_c _).mono ?_); rintro e8 w8 ⟨rfl, hb8⟩))
    all_goals
      go_ret
      exact ⟨rfl, HB1.out.trans (hb8.mono HB1.out.size)⟩
end Go.Proofs.Ytplanmiggeghfaa
