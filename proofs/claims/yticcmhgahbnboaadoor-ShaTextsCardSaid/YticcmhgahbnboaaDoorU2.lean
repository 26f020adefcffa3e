/-
  sha.Read and the reference's: a digest out of a text.
-/
import Derived.Test.YticcmhgahbnboaaDoorU1
import Derived.Test.YticcmhgahbnboaaDoorSY
import Derived.Great.BuildSlice
namespace Go.Proofs.YticcmhgahbnboaaDoor
open Go.RowKit Go
set_option linter.unusedVariables false

theorem results_cell_tmp {P : Program} {fn : Func} {p q : Tmp} {ty : TypeId} (h : fn.results = #[.cell p ty, .tmp q]) (tmps : Array Value) (w : World) (g : Nat) (t : TypeId) (cs : Array Value) (fr : Nat × Nat) (d : TypeDesc) (v : Value)
    (hp : tmps.getD p undef = .pointer (some ⟨g, 0, none⟩)) (hq : tmps.getD q undef = v) (hg : w.heap[g]? = some (.cells cs t fr))
    (hu : P.underlying ty = some d) (hd : (match d with | .struct _ | .array _ _ => true | _ => false) = true) (hi : (P.info? ty).map (·.size) = some cs.size) :
    (results fn tmps).run P w = .ok (.tuple #[.agg cs, v]) w := by
  have hp' : tmps[p]?.getD undef = .pointer (some ⟨g, 0, none⟩) := by simpa using hp
  have hq' : tmps[q]?.getD undef = v := by simpa using hq
  simp [results, h, hp', hq', asAddr, run_loadVar_row w g t ty cs fr d hg hu hd hi]

theorem text_at (s : List UInt8) (k : Nat) (hk : k < s.length) (W : World) : (Instr.index 9 (.string (text s)) (.int .i64 (k : Int))).run Tryd.prog W = .ok (.int .u8 ((s.getD k 0).toNat : Int)) W := by
  have hs : (text s).size = s.length := by unfold text; simp [ByteArray.size]
  rw [run_index_string (P := Tryd.prog) W 9 (text s) .i64 (k : Int) Tryd.underlying9, dif_pos (by rw [hs]; omega)]
  have e : (text s)[(k : Int).toNat]'(by rw [hs]; omega) = s.getD k 0 := by
    simp only [Int.toNat_natCast]
    rw [List.getD_eq_getElem?_getD, List.getElem?_eq_getElem hk]
    unfold text
    simp [ByteArray.getElem_eq_getElem_data]
  rw [e]
theorem or_step : ∀ (x : Fin 256) (v : Fin 16), bits .or .u8 ((x.val : Int) * 16 % 256) (v.val : Int) = (16 * (x.val : Int) + v.val) % 256 := by decide +kernel
theorem or_step' (x c : UInt8) (v : Nat) (hv : hexV c = (v : Int)) (h : v < 16) : bits .or .u8 ((x.toNat : Int) * 16 % 256) (v : Int) = ((stepD x c).toNat : Int) := by
  rw [stepD_val, hv, or_step ⟨x.toNat, x.toNat_lt⟩ ⟨v, h⟩]
  simp
theorem plus_step (x c : UInt8) (v : Nat) (hv : hexV c = (v : Int)) : (16 * (x.toNat : Int) + (v : Int)) % 256 = ((stepD x c).toNat : Int) := by
  rw [stepD_val, hv]; simp

/-- What is known while a text is read. -/
structure ReadInv (w : World) (s : List UInt8) (k : Nat) (wr : World) : Prop where
  d : RowB wr (w.heap.size + 1) 46 (rdK s k)
  o : RowB wr w.heap.size 46 (List.replicate 32 0)
  good : ∀ i, i < k → 0 ≤ hexV (s.getD i 0)
  below : Below w.heap.size w wr
theorem ReadInv.start (w : World) (s : List UInt8) : ReadInv w s 0 ((w.alloc (.cells #[.int .u8 0, .int .u8 0, .int .u8 0, .int .u8 0, .int .u8 0, .int .u8 0, .int .u8 0, .int .u8 0, .int .u8 0, .int .u8 0, .int .u8 0, .int .u8 0, .int .u8 0, .int .u8 0, .int .u8 0, .int .u8 0, .int .u8 0, .int .u8 0, .int .u8 0, .int .u8 0, .int .u8 0, .int .u8 0, .int .u8 0, .int .u8 0, .int .u8 0, .int .u8 0, .int .u8 0, .int .u8 0, .int .u8 0, .int .u8 0, .int .u8 0, .int .u8 0] 46)).alloc (.cells #[.int .u8 0, .int .u8 0, .int .u8 0, .int .u8 0, .int .u8 0, .int .u8 0, .int .u8 0, .int .u8 0, .int .u8 0, .int .u8 0, .int .u8 0, .int .u8 0, .int .u8 0, .int .u8 0, .int .u8 0, .int .u8 0, .int .u8 0, .int .u8 0, .int .u8 0, .int .u8 0, .int .u8 0, .int .u8 0, .int .u8 0, .int .u8 0, .int .u8 0, .int .u8 0, .int .u8 0, .int .u8 0, .int .u8 0, .int .u8 0, .int .u8 0, .int .u8 0] 46)) := by
  have h0 : RowB (w.alloc (.cells #[.int .u8 0, .int .u8 0, .int .u8 0, .int .u8 0, .int .u8 0, .int .u8 0, .int .u8 0, .int .u8 0, .int .u8 0, .int .u8 0, .int .u8 0, .int .u8 0, .int .u8 0, .int .u8 0, .int .u8 0, .int .u8 0, .int .u8 0, .int .u8 0, .int .u8 0, .int .u8 0, .int .u8 0, .int .u8 0, .int .u8 0, .int .u8 0, .int .u8 0, .int .u8 0, .int .u8 0, .int .u8 0, .int .u8 0, .int .u8 0, .int .u8 0, .int .u8 0] 46)) w.heap.size 46 (List.replicate 32 0) := heap_alloc_new w _
  have h1 := heap_alloc_new (w.alloc (.cells #[.int .u8 0, .int .u8 0, .int .u8 0, .int .u8 0, .int .u8 0, .int .u8 0, .int .u8 0, .int .u8 0, .int .u8 0, .int .u8 0, .int .u8 0, .int .u8 0, .int .u8 0, .int .u8 0, .int .u8 0, .int .u8 0, .int .u8 0, .int .u8 0, .int .u8 0, .int .u8 0, .int .u8 0, .int .u8 0, .int .u8 0, .int .u8 0, .int .u8 0, .int .u8 0, .int .u8 0, .int .u8 0, .int .u8 0, .int .u8 0, .int .u8 0, .int .u8 0] 46)) (.cells #[.int .u8 0, .int .u8 0, .int .u8 0, .int .u8 0, .int .u8 0, .int .u8 0, .int .u8 0, .int .u8 0, .int .u8 0, .int .u8 0, .int .u8 0, .int .u8 0, .int .u8 0, .int .u8 0, .int .u8 0, .int .u8 0, .int .u8 0, .int .u8 0, .int .u8 0, .int .u8 0, .int .u8 0, .int .u8 0, .int .u8 0, .int .u8 0, .int .u8 0, .int .u8 0, .int .u8 0, .int .u8 0, .int .u8 0, .int .u8 0, .int .u8 0, .int .u8 0] 46)
  rw [World.size_alloc] at h1
  exact ⟨h1, h0.alloc _, fun i hi => by omega, ((Below.refl _ w).alloc (Nat.le_refl _) _).alloc (by simp) _⟩
theorem ReadInv.kept {w wr wr' : World} {s : List UInt8} {k : Nat} (h : ReadInv w s k wr) (hb : Below wr.heap.size wr wr') : ReadInv w s k wr' :=
  ⟨h.d.kept hb, h.o.kept hb, h.good, h.below.trans (hb.mono h.below.size)⟩
theorem ReadInv.next {w wr : World} {s : List UInt8} {k : Nat} (h : ReadInv w s k wr) (hv : 0 ≤ hexV (s.getD k 0)) :
    ReadInv w s (k + 1) (wr.setCell ⟨w.heap.size + 1, k / 2, none⟩ (.int .u8 ((stepD ((rdK s k).getD (k / 2) 0) (s.getD k 0)).toNat : Int))) :=
  ⟨h.d.set (k / 2) _, h.o.other _ _ (by simp), fun i hi => by
    by_cases hik : i < k
    · exact h.good i hik
    · obtain rfl : i = k := by omega
      exact hv, h.below.setCell (by simp) _⟩

/-- What reading tells. -/
def ReadPost (kk : IntKind) (s : List UInt8) (w : World) (e : Ending) (w' : World) : Prop := e = .returned (.tuple #[.agg (u8v (readD s).1).toArray, .int kk (readD s).2]) ∧ Below w.heap.size w w'

attribute [-go_sem] run_index_string
set_option maxRecDepth 100000 in
set_option maxHeartbeats 1600000 in
theorem read_c (s : List UInt8) (hlim : s.length ≤ 1000000) {w : World} : Calls Tryd.prog 31 #[.string (text s)] w (ReadPost .i64 s w) := by
  have hI := ReadInv.start w s
  have HAT := Lib.hid (text_at s)
  have hsz : (text s).size = s.length := by unfold text; simp [ByteArray.size]
  obtain ⟨S, hS⟩ : ∃ S, text s = S := ⟨_, rfl⟩
  rw [hS] at HAT hsz ⊢
  obtain ⟨n, hn⟩ : ∃ n, s.length = n := ⟨_, rfl⟩
  rw [hn] at HAT hsz hlim
  have HN := Lib.hid hn
  obtain ⟨zs, hzs⟩ : ∃ l, List.replicate 32 (0 : UInt8) = l := ⟨_, rfl⟩
  have hzl : zs.length = 32 := by rw [← hzs]; rfl
  have HZS := Lib.hid hzs
  have hmz := size_dig zs hzl
  have HBU := Lib.hid (show Tryd.prog.built 46 [] = some (u8v zs).toArray by rw [← hzs]; kernel_rfl)
  have hsz32 : (u8v zs).length = 32 := by rw [u8v_length]; exact hzl
  clear hS hn hzs
  go_enter Tryd.func31, Tryd.ntmps31
  go_upto_region 2 with (fail)
  generalize ((w.alloc (.cells #[.int .u8 0, .int .u8 0, .int .u8 0, .int .u8 0, .int .u8 0, .int .u8 0, .int .u8 0, .int .u8 0, .int .u8 0, .int .u8 0, .int .u8 0, .int .u8 0, .int .u8 0, .int .u8 0, .int .u8 0, .int .u8 0, .int .u8 0, .int .u8 0, .int .u8 0, .int .u8 0, .int .u8 0, .int .u8 0, .int .u8 0, .int .u8 0, .int .u8 0, .int .u8 0, .int .u8 0, .int .u8 0, .int .u8 0, .int .u8 0, .int .u8 0, .int .u8 0] 46)).alloc (.cells #[.int .u8 0, .int .u8 0, .int .u8 0, .int .u8 0, .int .u8 0, .int .u8 0, .int .u8 0, .int .u8 0, .int .u8 0, .int .u8 0, .int .u8 0, .int .u8 0, .int .u8 0, .int .u8 0, .int .u8 0, .int .u8 0, .int .u8 0, .int .u8 0, .int .u8 0, .int .u8 0, .int .u8 0, .int .u8 0, .int .u8 0, .int .u8 0, .int .u8 0, .int .u8 0, .int .u8 0, .int .u8 0, .int .u8 0, .int .u8 0, .int .u8 0, .int .u8 0] 46)) = W1 at *
  by_cases h64 : n = 64
  · subst h64
    have HI := Lib.hid hI
    clear hI
    go_wp2
    go_loopw [13] (fun i wr => ∃ k : Nat, k ≤ 64 ∧ i = .int .i64 k ∧ ReadInv w s k wr) (fun i _ => 64 - (intOf i).toNat)
    case atStart => exact ⟨0, by omega, rfl, HI.out⟩
    case round =>
      clear HI
      obtain ⟨k, hk, rfl, hI⟩ := hrel
      by_cases hlt : k < 64
      · have hki : (k : Int) < 64 := by omega
        have hat := HAT.out k hlt
        have HNX := Lib.hid (@ReadInv.next w wr s k hI)
        have hcd := hI.d.cell (k / 2) (by rw [rdK_length]; omega)
        have hfd := hI.d.frozen (k / 2)
        unfold by8 at hcd
        obtain ⟨x, hx⟩ : ∃ x, (rdK s k).getD (k / 2) 0 = x := ⟨_, rfl⟩
        rw [hx] at hcd HNX
        have HBAD := Lib.hid (show hexV (s.getD k 0) < 0 → readD s = (List.replicate 32 0, 40) from readD_bad s k (by rw [HN.out]; exact hlt))
        obtain ⟨c, hc⟩ : ∃ c, s.getD k 0 = c := ⟨_, rfl⟩
        rw [hc] at hat HNX HBAD
        obtain ⟨q, hq⟩ : ∃ q, k / 2 = q := ⟨_, rfl⟩
        have hdv : Int.tdiv (k : Int) 2 = (q : Int) := by rw [Int.tdiv_eq_ediv_of_nonneg (by omega)]; omega
        have hq32 : (q : Int) < 32 := by omega
        rw [hq] at hcd hfd HNX
        have hvb := hexV_bd c
        have HIX := Lib.hid (fun W => index_c c W)
        have hxl := x.toNat_lt
        have HI := Lib.hid hI
        by_cases hv : 0 ≤ hexV c
        · obtain ⟨v, hvv⟩ : ∃ v : Nat, hexV c = (v : Int) := ⟨(hexV c).toNat, by omega⟩
          have HOR := Lib.hid (or_step' x c v hvv (by omega))
          have HNX2 := Lib.hid (HNX.out hv)
          rw [hvv] at hvb HIX
          have hv16 : (v : Int) ≤ 15 := hvb.2
          clear hvb hvv hv hI hx hc hq HNX HBAD
          go_wp2_with (go_at_call 48; (with_reducible refine (HIX.out _).mono ?_); rintro e w3 ⟨rfl, rfl⟩)
          rw [HOR.out]
          go_roundw
          case rel => exact ⟨k + 1, by omega, rfl, HNX2.out⟩
          case measure => simp [intOf]; omega
        · have hm1 : hexV c = -1 := by omega
          have hrd := HBAD.out (by omega)
          rw [hm1] at HIX
          have hst := hI.o.store zs (by rw [hzl]; simp)
          have HCL := Lib.hid (show RowB _ w.heap.size 46 zs from hI.o.setRow zs)
          have HBN := Lib.hid (show Below w.heap.size w (wr.setRow w.heap.size (u8v zs).toArray) from below_setRow hI.below (Nat.le_refl _) _)
          have HRD := Lib.hid (show (u8v (readD s).1).toArray = (u8v zs).toArray ∧ (readD s).2 = 40 by rw [hrd, HZS.out]; exact ⟨rfl, rfl⟩)
          clear hrd hI hx hc hq hv hm1 hvb HNX HBAD hcd hfd
          go_wp2_with (first
            | (go_at_call 48; (with_reducible refine (HIX.out _).mono ?_); rintro e w3 ⟨rfl, rfl⟩)
            | (refine wpList_buildTo rfl 46 #[] rfl (some 22) rfl (u8v zs).toArray (by simpa using HBU.out) ?_))
          refine bodyPost_ret (results_cell_tmp rfl _ _ w.heap.size 46 (u8v zs).toArray (0, 0) _ (.int .i64 40) rfl rfl HCL.out Tryd.underlying46 rfl hmz) rfl ⟨?_, HBN.out⟩
          rw [HRD.out.1, HRD.out.2]
      · obtain rfl : k = 64 := by omega
        have HRD := Lib.hid (show readD s = (rdK s 64, 0) by
          rw [rdK_all s HN.out]
          exact readD_ok s HN.out (fun i hi => hI.good i (by rw [HN.out] at hi; exact hi)))
        have hlen := rdK_length s 64
        have hD := hI.d
        have hO := hI.o
        have hB := hI.below
        obtain ⟨L, hL⟩ : ∃ L, rdK s 64 = L := ⟨_, rfl⟩
        rw [hL] at hlen hD HRD
        clear hL hI
        have hm := size_dig L hlen
        have hszL : (u8v L).length = 32 := by rw [u8v_length]; exact hlen
        have hst := hO.store L (by rw [hlen]; simp)
        have HCL := Lib.hid (show RowB _ w.heap.size 46 L from hO.setRow L)
        have HBN := Lib.hid (show Below w.heap.size w (wr.setRow w.heap.size (u8v L).toArray) from below_setRow hB (Nat.le_refl _) _)
        have HA := Lib.hid hD
        clear hD hO hB
        rw [show ((64 : Nat) : Int) = 64 from rfl]
        go_wp2_with (first
          | (refine wpList_load_row rfl 46 (.tmp 4) rfl (w.heap.size + 1) rfl 46 (u8v L).toArray (0, 0) _ HA.out Tryd.underlying46 rfl hm ?_))
        refine bodyPost_ret (results_cell_tmp rfl _ _ w.heap.size 46 (u8v L).toArray (0, 0) _ (.int .i64 0) rfl rfl HCL.out Tryd.underlying46 rfl hm) rfl ⟨?_, HBN.out⟩
        rw [HRD.out]
  · have hrd := readD_len s (by rw [HN.out]; exact h64)
    have h64i : ¬ (n : Int) = 64 := by omega
    have hst := hI.o.store zs (by rw [hzl]; simp)
    have HCL := Lib.hid (show RowB _ w.heap.size 46 zs from hI.o.setRow zs)
    have HBN := Lib.hid (show Below w.heap.size w (W1.setRow w.heap.size (u8v zs).toArray) from below_setRow hI.below (Nat.le_refl _) _)
    have HRD := Lib.hid (show (u8v (readD s).1).toArray = (u8v zs).toArray ∧ (readD s).2 = 40 by rw [hrd, HZS.out]; exact ⟨rfl, rfl⟩)
    clear hrd hI
    go_wp2_with (refine wpList_buildTo rfl 46 #[] rfl (some 10) rfl (u8v zs).toArray (by simpa using HBU.out) ?_)
    refine bodyPost_ret (results_cell_tmp rfl _ _ w.heap.size 46 (u8v zs).toArray (0, 0) _ (.int .i64 40) rfl rfl HCL.out Tryd.underlying46 rfl hmz) rfl ⟨?_, HBN.out⟩
    rw [HRD.out.1, HRD.out.2]
end Go.Proofs.YticcmhgahbnboaaDoor
