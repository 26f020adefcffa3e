/-
  num.GetText, num.PutText and the reference's: texts behind their length.
-/
import Derived.Test.YtkjpmdpljdgcjaaDoorRP
import Derived.Test.YtkjpmdpljdgcjaaDoorNG
import Derived.Test.YtkjpmdpljdgcjaaDoorNR
import Derived.Test.YtkjpmdpljdgcjaaDoorBM
import Derived.Deep.AppendSrc
namespace Go.Proofs.YtkjpmdpljdgcjaaDoor
open Go.RowKit
set_option linter.unusedVariables false
set_option maxRecDepth 20000

/-- What texts bytes begin with. -/
def textS (l : List UInt8) (most : Int) : List UInt8 × Int × Int :=
  if ¬ (getS l).2.2 = 0 then ([], 0, (getS l).2.2)
  else if most < (getS l).1 then ([], 0, 3)
  else if (l.length : Int) - (getS l).2.1 < (getS l).1 then ([], 0, 10)
  else ((l.drop (getS l).2.1.toNat).take (getS l).1.toNat, (getS l).2.1 + (getS l).1, 0)

def RetT (t : List UInt8 × Int × Int) (w : World) (e : Ending) (w' : World) : Prop := e = .returned (.tuple #[.string (text t.1), .int .i64 t.2.1, .int .i64 t.2.2]) ∧ w = w'
theorem RetT.mk {s : ByteArray} {x y : Int} {t : List UInt8 × Int × Int} {z : List UInt8} {w : World} (hs : s = text z) (h : t = (z, x, y)) : RetT t w (.returned (.tuple #[.string s, .int .i64 x, .int .i64 y])) w := by
  subst h; subst hs; exact ⟨rfl, rfl⟩

theorem text_nil : (⟨#[]⟩ : ByteArray) = text [] := rfl

set_option maxHeartbeats 800000 in
theorem gettext_c {w : World} {a : Option Addr} {n cap : Nat} {l : List UInt8} (hb : Bys w a n cap l) (most : Int) (m0 : -9223372036854775808 ≤ most) (m1 : most ≤ 9223372036854775807) :
    Calls Tryd.prog 51 #[.slice a n cap, .int .i64 most] w (RetT (textS l most) w) := by
  have hlen : l.length = n := hb.len
  have hmax := hb.max
  have hle := hb.le
  by_cases he : (getS l).2.2 = 0
  · obtain ⟨q, hq, hq1, hq2, hv0, hv1⟩ := getS_ok l he
    have hbe : ((getS l).2.2 != 0) = false := by rw [he]; rfl
    have hqi : (getS l).2.1 = (q : Int) := hq
    have hqn : q ≤ n := by omega
    obtain ⟨N, hN⟩ := Int.eq_ofNat_of_zero_le hv0
    by_cases c1 : most < (getS l).1
    · have HT := Lib.hid (show textS l most = ([], 0, 3) by unfold textS; rw [if_neg (by omega), if_pos c1])
      have hd : decide (most < (getS l).1) = true := by simpa using c1
      rw [hN] at hd hv1
      have HQ := Lib.hid hN
      clear he hq hN c1
      have hNi := HQ.out
      go_enter Tryd.func51, Tryd.ntmps51
      go_wp2_with (go_at_call 79; refine (get_c hb).mono ?_; rintro e w' ⟨rfl, rfl⟩)
      go_ret3
      exact RetT.mk text_nil HT.out
    by_cases c2 : (n : Int) - (q : Int) < (getS l).1
    · have HT := Lib.hid (show textS l most = ([], 0, 10) by unfold textS; rw [if_neg (by omega), if_neg c1, if_pos (by rw [hlen, hq]; exact c2)])
      have hd : decide (most < (getS l).1) = false := by simp; omega
      have hd2 : decide ((n : Int) - (q : Int) < (getS l).1) = true := by simpa using c2
      rw [hN] at hd hd2 hv1
      have HQ := Lib.hid hN
      clear he hq hN c1 c2
      have hNi := HQ.out
      go_enter Tryd.func51, Tryd.ntmps51
      go_wp2_with (go_at_call 79; refine (get_c hb).mono ?_; rintro e w' ⟨rfl, rfl⟩)
      go_ret3
      exact RetT.mk text_nil HT.out
    · rw [hN] at c1 c2
      have HT := Lib.hid (show textS l most = ((l.drop q).take N, (q : Int) + (N : Int), 0) by
        unfold textS; rw [if_neg (by omega), hN, if_neg c1, hlen, hq, if_neg c2, Int.toNat_natCast, Int.toNat_natCast])
      have hd : decide (most < (N : Int)) = false := by simp; omega
      have hd2 : decide ((n : Int) - (q : Int) < (N : Int)) = false := by simp; omega
      have hqN : q + N ≤ n := by omega
      have HQ := Lib.hid hN
      clear he hq hN c1 c2 hv0 hv1
      have hNi := HQ.out
      by_cases hcq : cap = q
      · obtain rfl : N = 0 := by omega
        have hm0 : 0 ≤ most := by simpa using hd
        obtain rfl : n = q := by omega
        subst hcq
        have hdr : Bys w a 0 0 [] := ⟨rfl, Nat.le_refl _, by omega, .inl rfl⟩
        have hcv := conv_bys (P := Tryd.prog) hdr Tryd.underlying59 Tryd.underlying5 Tryd.underlying9
        go_enter Tryd.func51, Tryd.ntmps51
        go_wp2_with (go_at_call 79; refine (get_c hb).mono ?_; rintro e w' ⟨rfl, rfl⟩)
        go_ret3
        exact RetT.mk rfl (by rw [HT.out, List.take_zero]; simp)
      · have hdr := (hb.drop hqn).take (show N ≤ n - q by omega)
        have hcv := conv_bys (P := Tryd.prog) hdr Tryd.underlying59 Tryd.underlying5 Tryd.underlying9
        go_enter Tryd.func51, Tryd.ntmps51
        go_wp2_with (go_at_call 79; refine (get_c hb).mono ?_; rintro e w' ⟨rfl, rfl⟩)
        go_ret3
        exact RetT.mk rfl HT.out
  · have HT := Lib.hid (show textS l most = ([], 0, (getS l).2.2) by unfold textS; rw [if_pos he])
    have hbe : ((getS l).2.2 != 0) = true := by simpa using he
    clear he
    go_enter Tryd.func51, Tryd.ntmps51
    go_wp2_with (go_at_call 79; refine (get_c hb).mono ?_; rintro e w' ⟨rfl, rfl⟩)
    go_ret3
    exact RetT.mk text_nil HT.out
set_option maxHeartbeats 800000 in
theorem rgettext_c {w : World} {a : Option Addr} {n cap : Nat} {l : List UInt8} (hb : Bys w a n cap l) (most : Int) (m0 : -9223372036854775808 ≤ most) (m1 : most ≤ 9223372036854775807) :
    Calls Tryd.prog 53 #[.slice a n cap, .int .i64 most] w (RetT (textS l most) w) := by
  have hlen : l.length = n := hb.len
  have hmax := hb.max
  have hle := hb.le
  by_cases he : (getS l).2.2 = 0
  · obtain ⟨q, hq, hq1, hq2, hv0, hv1⟩ := getS_ok l he
    have hbe : ((getS l).2.2 != 0) = false := by rw [he]; rfl
    have hqi : (getS l).2.1 = (q : Int) := hq
    have hqn : q ≤ n := by omega
    obtain ⟨N, hN⟩ := Int.eq_ofNat_of_zero_le hv0
    by_cases c1 : most < (getS l).1
    · have HT := Lib.hid (show textS l most = ([], 0, 3) by unfold textS; rw [if_neg (by omega), if_pos c1])
      have hd : decide (most < (getS l).1) = true := by simpa using c1
      rw [hN] at hd hv1
      have HQ := Lib.hid hN
      clear he hq hN c1
      have hNi := HQ.out
      go_enter Tryd.func53, Tryd.ntmps53
      go_wp2_with (go_at_call 82; refine (rget_c hb).mono ?_; rintro e w' ⟨rfl, rfl⟩)
      go_ret3
      exact RetT.mk text_nil HT.out
    by_cases c2 : (n : Int) - (q : Int) < (getS l).1
    · have HT := Lib.hid (show textS l most = ([], 0, 10) by unfold textS; rw [if_neg (by omega), if_neg c1, if_pos (by rw [hlen, hq]; exact c2)])
      have hd : decide (most < (getS l).1) = false := by simp; omega
      have hd2 : decide ((n : Int) - (q : Int) < (getS l).1) = true := by simpa using c2
      rw [hN] at hd hd2 hv1
      have HQ := Lib.hid hN
      clear he hq hN c1 c2
      have hNi := HQ.out
      go_enter Tryd.func53, Tryd.ntmps53
      go_wp2_with (go_at_call 82; refine (rget_c hb).mono ?_; rintro e w' ⟨rfl, rfl⟩)
      go_ret3
      exact RetT.mk text_nil HT.out
    · rw [hN] at c1 c2
      have HT := Lib.hid (show textS l most = ((l.drop q).take N, (q : Int) + (N : Int), 0) by
        unfold textS; rw [if_neg (by omega), hN, if_neg c1, hlen, hq, if_neg c2, Int.toNat_natCast, Int.toNat_natCast])
      have hd : decide (most < (N : Int)) = false := by simp; omega
      have hd2 : decide ((n : Int) - (q : Int) < (N : Int)) = false := by simp; omega
      have hqN : q + N ≤ n := by omega
      have HQ := Lib.hid hN
      clear he hq hN c1 c2 hv0 hv1
      have hNi := HQ.out
      by_cases hcq : cap = q
      · obtain rfl : N = 0 := by omega
        have hm0 : 0 ≤ most := by simpa using hd
        obtain rfl : n = q := by omega
        subst hcq
        have hdr : Bys w a 0 0 [] := ⟨rfl, Nat.le_refl _, by omega, .inl rfl⟩
        have hcv := conv_bys (P := Tryd.prog) hdr Tryd.underlying59 Tryd.underlying5 Tryd.underlying9
        go_enter Tryd.func53, Tryd.ntmps53
        go_wp2_with (go_at_call 82; refine (rget_c hb).mono ?_; rintro e w' ⟨rfl, rfl⟩)
        go_ret3
        exact RetT.mk rfl (by rw [HT.out, List.take_zero]; simp)
      · have hdr := (hb.drop hqn).take (show N ≤ n - q by omega)
        have hcv := conv_bys (P := Tryd.prog) hdr Tryd.underlying59 Tryd.underlying5 Tryd.underlying9
        go_enter Tryd.func53, Tryd.ntmps53
        go_wp2_with (go_at_call 82; refine (rget_c hb).mono ?_; rintro e w' ⟨rfl, rfl⟩)
        go_ret3
        exact RetT.mk rfl HT.out
  · have HT := Lib.hid (show textS l most = ([], 0, (getS l).2.2) by unfold textS; rw [if_pos he])
    have hbe : ((getS l).2.2 != 0) = true := by simpa using he
    clear he
    go_enter Tryd.func53, Tryd.ntmps53
    go_wp2_with (go_at_call 82; refine (rget_c hb).mono ?_; rintro e w' ⟨rfl, rfl⟩)
    go_ret3
    exact RetT.mk text_nil HT.out


theorem byteCells_u8v (s : ByteArray) : byteCells s = u8v s.data.toList := rfl

/-- append(v, s...), v a row of the call's own, s a string. -/
theorem run_append_text {P : Program} {w : World} {base : Nat} {t tx ty e : TypeId} {i : TypeInfo} {z : Value} (ht : P.underlying t = some (.slice e)) (hk : P.underlying tx = some .string) (hi : P.info? e = some i) (hz : i.zero = some z)
    (hsize : i.size = 1) (hby : i.bytes = 1) (hzs : z.cells.size = 1) {g cap : Nat} {k : List UInt8} (hown : OwnB w base e (.slice (some ⟨g, 0, none⟩) k.length cap) k)
    (s : ByteArray) (h63 : k.length + s.size ≤ 140737488355328) (hbase : base ≤ w.heap.size) :
    ∃ v' w', (Builtin.append_ #[t, tx] ty #[.slice (some ⟨g, 0, none⟩) k.length cap, .string s]).run P w = .ok v' w' ∧ OwnB w' base e v' (k ++ s.data.toList) ∧ w.grownBy w' (some g) := by
  have hS : Src P i.size tx (.string s) s.size (u8v s.data.toList) w := by rw [hsize]; exact Src.ofString w hk s
  have hsl : s.data.toList.length = s.size := by simp
  have hlen : (k ++ s.data.toList).length = k.length + s.size := by rw [List.length_append, hsl]
  have hown' := hown
  rcases hown'.2 with ⟨h', _⟩ | ⟨g', cap', cur, h', hbg, hg, hnc, hcm, hcs, htake⟩
  · simp at h'
  simp only [Value.slice.injEq, Option.some.injEq, Addr.mk.injEq, and_true, true_and] at h'
  obtain ⟨rfl, rfl⟩ := h'
  have hul : (u8v s.data.toList).length = s.size := by rw [u8v_length, hsl]
  by_cases hroom : k.length + s.size ≤ cap
  · have hfit : k.length * i.size + (u8v s.data.toList).length ≤ cur.size := by rw [hul, hcs, hsize]; omega
    have hst := run_storeCells_at P g (k.length * i.size) e (u8v s.data.toList) 0 cur w hg (by simpa using hfit) hS.one
    simp only [Nat.add_zero] at hst
    refine ⟨.slice (some ⟨g, 0, none⟩) (k.length + s.size) cap, w.setRow g (cur.toList.take (k.length * i.size) ++ u8v s.data.toList ++ cur.toList.drop (k.length * i.size + (u8v s.data.toList).length)).toArray, ?_, ?_, ?_⟩
    · simp [Builtin.append_, run_underlying ht, run_underlying hk, sizeOf, typeInfo, hi, hS.len, hroom, hS.cells, Addr.add_lit, hst]
    · unfold OwnB
      rw [hlen]
      refine ⟨by rw [u8v_length, hlen]; omega, .inr ⟨g, cap, _, rfl, hbg, setRow_heap w g cur _ e _ hg, hroom, hcm, ?_, ?_⟩⟩
      · simp only [List.size_toArray, List.length_append, List.length_take, List.length_drop, Array.length_toList]
        omega
      · rw [hsize, htake, u8v_append]
        have h2 : (u8v k ++ u8v s.data.toList).length = (k.length + s.size) * 1 := by rw [List.length_append, u8v_length, hul]; omega
        simp only []
        rw [← h2]
        exact List.take_left
    · exact ⟨rfl, rfl, rfl, by simp, fun j _ hj => setRow_other w g j _ (fun e => hj (by simp [e]))⟩
  · have hcells : ∀ j u, (u8v k)[j]? = some u → w.drew.cell? ((⟨g, 0, none⟩ : Addr).add j) = some u := World.ownsRow.cells (g := g) (World.ownsRow.drew hown) rfl
    have hold := run_firstCells_some (P := P) w.drew i.size k.length ⟨g, 0, none⟩ k.length cap (u8v k) (by rw [u8v_length, hsize]; omega) hcells
    have hr := run_append_grow_src (P := P) w t tx ty e i z ht hi hz (some ⟨g, 0, none⟩) k.length cap (u8v k) hold (.string s) s.size (u8v s.data.toList) hS (by omega) (by omega) (growslice_fits (by omega) (by rw [hby]; omega))
    refine ⟨_, _, hr, ?_, ⟨rfl, rfl, rfl, by simp, fun j hj _ => heap_alloc_old w.drew _ hj⟩⟩
    have hge := grownCap_ge w (k.length + s.size) cap e
    have hcl : grownCap w (k.length + s.size) cap e ≤ maxLen := grownCap_le_maxLen w (k.length + s.size) cap e (by unfold maxLen; omega)
    unfold OwnB
    rw [hlen]
    refine ⟨by rw [u8v_length, hlen]; omega, .inr ⟨w.heap.size, _, _, rfl, hbase, heap_alloc_new w.drew _, hge, hcl, ?_, ?_⟩⟩
    · simp only [Array.size_append, List.size_toArray, List.length_append, size_zeroCells, hzs, u8v_length, hsl]
      omega
    · simp only [Array.toList_append]
      rw [u8v_append]
      have h2 : (u8v k ++ u8v s.data.toList).length = (k.length + s.size) * 1 := by rw [List.length_append, u8v_length, hul]; omega
      rw [← h2]
      exact List.take_left

theorem wpList_append_text {P : Program} {w : World} {ops : Array Oper} {rest : List Oper} {o : Oper} {a : Act} {Q : Exit → Act → World → Prop} (hgd : o.guard = none) (sl x : Operand) (t tx : TypeId)
    (ho : o.op = .call { callee := .builtin .append, args := #[sl, x], argTypes := #[t, tx] })
    {base : Nat} {e : TypeId} {i : TypeInfo} {z : Value} (ht : P.underlying t = some (.slice e)) (hk : P.underlying tx = some .string) (hi : P.info? e = some i) (hz : i.zero = some z)
    (hsize : i.size = 1) (hby : i.bytes = 1) (hzs : z.cells.size = 1) {g cap : Nat} {k : List UInt8} (hs : a.eval sl = .slice (some ⟨g, 0, none⟩) k.length cap) (hown : OwnB w base e (.slice (some ⟨g, 0, none⟩) k.length cap) k)
    (s : ByteArray) (hx : a.eval x = .string s) (h63 : k.length + s.size ≤ 140737488355328) (hbase : base ≤ w.heap.size)
    (h : ∀ v' w', OwnB w' base e v' (k ++ s.data.toList) → w.grownBy w' (some g) → wpList P ops Q rest (a.put o.dst v') w') : wpList P ops Q (o :: rest) a w := by
  refine wpList_plain hgd fun K hK => ?_
  obtain ⟨v', w', hr, h2, h3⟩ := run_append_text (P := P) (ty := o.type) ht hk hi hz hsize hby hzs hown s h63 hbase
  unfold Oper.wp execOp
  simp only [ho, resolve, invoke, builtin, Sem.run_bind, Sem.run_pure, Result.andThen_ok, List.map_toArray, List.map_cons, List.map_nil, hs, hx, hr]
  exact hK _ _ (h v' w' h2 h3)
def putTextS (l s : List UInt8) : List UInt8 := l ++ numB (s.length : Int) ++ s

set_option maxHeartbeats 1600000 in
theorem puttext_c {w : World} {a : Option Addr} {m cap : Nat} {l : List UInt8} (hb : Bys w a m cap l) (s : ByteArray) (hn : m ≤ 1000000) (hs : s.size ≤ 1000000) (hT : TabW w) :
    Calls Tryd.prog 84 #[.slice a m cap, .string s] w (BytesPost (putTextS l s.data.toList) w) := by
  obtain ⟨i0, hi, hz0, hz1, hz2⟩ := info_parts Tryd.info5
  have hpos : 0 < (l ++ numB (s.size : Int)).length := by
    obtain ⟨k, h1, h2, _⟩ := sizeS_cases (n := (s.size : Int)) (by omega) (by omega)
    rw [List.length_append]; unfold numB; rw [numK_length, h1]; omega
  have hlen : (l ++ numB (s.size : Int)).length ≤ 1000008 := by
    have := numB_length (s.size : Int); have := hb.len; rw [List.length_append]; omega
  have hsl : s.data.toList.length = s.size := by simp
  have hc := put_c hb hn (s.size : Int) (by omega) (by omega) hT
  obtain ⟨K, hK⟩ : ∃ K, K = l ++ numB (s.size : Int) := ⟨_, rfl⟩
  have HK := Lib.hid (show putTextS l s.data.toList = K ++ s.data.toList by unfold putTextS; rw [hsl, hK])
  rw [← hK] at hpos hlen hc
  clear hsl hK
  have HC := Lib.hid hc
  clear hc
  go_enter Tryd.func84, Tryd.ntmps84
  go_wp2_with (first
    | (go_at_call 108; refine (HC.out).mono ?_; rintro e w1 ⟨v, rfl, hov, hbv⟩; obtain ⟨g, cv, rfl, hrow⟩ := hov.row hpos)
    | (at_builtin; refine wpList_append_text rfl (.tmp 8) (.tmp 9) 59 9 rfl Tryd.underlying59 Tryd.underlying9 hi hz0 hz1 hz2 rfl rfl hrow s rfl (by omega) hbv.size ?_; intro v2 w2 ho2 hg2))
  go_ret
  refine ⟨v2, rfl, by rw [HK.out]; exact ho2, hbv.grown hg2 hbv.size (fun k hk => ?_)⟩
  simp only [Option.some.injEq] at hk
  subst hk
  exact (hrow.lt g rfl).1

set_option maxHeartbeats 1600000 in
theorem rputtext_c {w : World} {a : Option Addr} {m cap : Nat} {l : List UInt8} (hb : Bys w a m cap l) (s : ByteArray) (hn : m ≤ 1000000) (hs : s.size ≤ 1000000) :
    Calls Tryd.prog 57 #[.slice a m cap, .string s] w (BytesPost (putTextS l s.data.toList) w) := by
  obtain ⟨i0, hi, hz0, hz1, hz2⟩ := info_parts Tryd.info5
  have hpos : 0 < (l ++ numB (s.size : Int)).length := by
    obtain ⟨k, h1, h2, _⟩ := sizeS_cases (n := (s.size : Int)) (by omega) (by omega)
    rw [List.length_append]; unfold numB; rw [numK_length, h1]; omega
  have hlen : (l ++ numB (s.size : Int)).length ≤ 1000008 := by
    have := numB_length (s.size : Int); have := hb.len; rw [List.length_append]; omega
  have hsl : s.data.toList.length = s.size := by simp
  have hc := rput_c hb hn (s.size : Int) (by omega) (by omega)
  obtain ⟨K, hK⟩ : ∃ K, K = l ++ numB (s.size : Int) := ⟨_, rfl⟩
  have HK := Lib.hid (show putTextS l s.data.toList = K ++ s.data.toList by unfold putTextS; rw [hsl, hK])
  rw [← hK] at hpos hlen hc
  clear hsl hK
  have HC := Lib.hid hc
  clear hc
  go_enter Tryd.func57, Tryd.ntmps57
  go_wp2_with (first
    | (go_at_call 87; refine (HC.out).mono ?_; rintro e w1 ⟨v, rfl, hov, hbv⟩; obtain ⟨g, cv, rfl, hrow⟩ := hov.row hpos)
    | (at_builtin; refine wpList_append_text rfl (.tmp 8) (.tmp 9) 59 9 rfl Tryd.underlying59 Tryd.underlying9 hi hz0 hz1 hz2 rfl rfl hrow s rfl (by omega) hbv.size ?_; intro v2 w2 ho2 hg2))
  go_ret
  refine ⟨v2, rfl, by rw [HK.out]; exact ho2, hbv.grown hg2 hbv.size (fun k hk => ?_)⟩
  simp only [Option.some.injEq] at hk
  subst hk
  exact (hrow.lt g rfl).1

end Go.Proofs.YtkjpmdpljdgcjaaDoor
