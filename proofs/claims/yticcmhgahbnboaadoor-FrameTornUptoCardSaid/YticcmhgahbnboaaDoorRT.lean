/-
  The reference's Rows.
-/
import Derived.Test.YticcmhgahbnboaaDoorRR
import Derived.Test.YticcmhgahbnboaaDoorRS
namespace Go.Proofs.YticcmhgahbnboaaDoor
open Go.RowKit Go
set_option linter.unusedVariables false

theorem Leaves.bytes {base : Nat} {W W' : World} (h : Leaves (fun _ => False) base W W') : SameBytes W W' :=
  fun k cs fr hk => h.same k _ hk (fun h => h) (.inr (fun cs' fr' => by simp))
theorem OwnRows.snoc {W w1 : World} {B : Nat} {v v' u : Value} {vs : List Value} {ls : List (List UInt8)} {m : List UInt8} {o : Obj} (hrow : W.ownsRow B 22 1 v vs.length vs) (hl : vs.length = ls.length)
    (hc : ∀ i, i < ls.length → OwnB W B 5 (vs.getD i undef) (ls.getD i [])) (hu : OwnB W B 5 u m) (hgrow : (W.alloc o).grownBy w1 v.ownBlock) (hown' : w1.ownsRow B 22 1 v' (vs.length + 1) (vs ++ [u])) : OwnRows w1 B v' (ls ++ [m]) := by
  have hs : SameBytes W w1 := ((Leaves.alloc W o).trans (Leaves.append (hrow.alloc _) hgrow)).bytes
  refine ⟨vs ++ [u], by rw [List.length_append]; exact hown', by simp [hl], fun i hi => ?_⟩
  rw [List.length_append, List.length_singleton] at hi
  by_cases h : i < ls.length
  · have := (hc i h).keptBytes hs
    rw [List.getD_eq_getElem?_getD, List.getElem?_append_left (by omega), List.getD_eq_getElem?_getD, List.getElem?_append_left h]
    rwa [List.getD_eq_getElem?_getD, List.getD_eq_getElem?_getD] at this
  · obtain rfl : i = ls.length := by omega
    have := hu.keptBytes hs
    rw [List.getD_eq_getElem?_getD, List.getElem?_append_right (by omega), List.getD_eq_getElem?_getD, List.getElem?_append_right (by omega), hl]
    simpa using this

/-- Where the loop stands. -/
def RowsAt (l : List UInt8) (w : World) (v : Value) (k : Nat) (wr : World) : Prop :=
  ∃ ls f, OwnRows wr w.heap.size v ls ∧ k ≤ l.length ∧ ls.length ≤ k ∧ l.length - k < f ∧ rowsS l = rowsF f l k ls ∧ Below w.heap.size w wr
theorem RowsPost.mk {l : List UInt8} {w w' : World} {v : Value} {ls : List (List UInt8)} {k : Nat} {e : Int} (h : rowsS l = (ls, k, e)) (ho : OwnRows w' w.heap.size v ls) (hb : Below w.heap.size w w') : RowsPost l w (.returned (.tuple #[v, .int .i64 (k : Int), .int .i64 e])) w' := by
  unfold RowsPost; rw [h]; exact ⟨v, rfl, ho, hb⟩
theorem OwnRows.nil (w : World) (B : Nat) : OwnRows w B (.slice none 0 0) [] := ⟨[], World.ownsRow_nil _ _ _ _, rfl, fun i hi => by simp at hi⟩
theorem ownsRow_below {W W' : World} {B s k : Nat} {e : TypeId} {v : Value} {xs : List Value} (h : W.ownsRow B e s v k xs) (hb : Below W.heap.size W W') : W'.ownsRow B e s v k xs := by
  refine ⟨h.1, ?_⟩
  rcases h.2 with hn | ⟨g, cap, cur, rfl, hB, hg, rest⟩
  · exact .inl hn
  · exact .inr ⟨g, cap, cur, rfl, hB, by rw [hb.block g (Array.getElem?_eq_some_iff.1 hg).1]; exact hg, rest⟩
theorem OwnRows.kept {w w' : World} {B : Nat} {v : Value} {ls : List (List UInt8)} (h : OwnRows w B v ls) (hb : Below w.heap.size w w') : OwnRows w' B v ls := by
  obtain ⟨vs, h1, hl, h2⟩ := h
  refine ⟨vs, ⟨h1.1, ?_⟩, hl, fun i hi => (h2 i hi).kept hb⟩
  rcases h1.2 with hn | ⟨g, cap, cur, rfl, hB, hg, rest⟩
  · exact .inl hn
  · exact .inr ⟨g, cap, cur, rfl, hB, by rw [hb.block g (Array.getElem?_eq_some_iff.1 hg).1]; exact hg, rest⟩

set_option maxRecDepth 100000 in
set_option maxHeartbeats 1600000 in
theorem rrows_c {w : World} {a : Option Addr} {n cap : Nat} {l : List UInt8} (hb : Bys w a n cap l) (hn : n ≤ 99999) :
    Calls Tryd.prog 19 #[.slice a n cap] w (RowsPost l w) := by
  obtain ⟨i0, hi, hz0, hz1, hz2⟩ := info_parts Tryd.info22
  have hle := hb.le
  have hmax := hb.max
  have hlen := hb.len
  have HLEN := Lib.hid hlen
  clear hlen
  go_enter Tryd.func19, Tryd.ntmps19
  go_wp2
  go_loopw [5, 6] (fun v i wr => ∃ k : Nat, i = .int .i64 k ∧ RowsAt l w v k wr) (fun _ i _ => n - (intOf i).toNat)
  case atStart => exact ⟨0, rfl, [], l.length + 1, OwnRows.nil _ _, by omega, by simp, by omega, rfl, Below.refl _ _⟩
  case round =>
    obtain ⟨k, rfl, ls, f, hrows, hk, hlk, hf, hrs, hbel⟩ := hrel
    rw [HLEN.out] at hk hf
    by_cases hlt : k < n
    · obtain ⟨b, off, rfl⟩ : ∃ b off, a = some ⟨b, off, none⟩ := by
        rcases hb.adr with h | ⟨b, off, h, _⟩
        · omega
        · exact ⟨b, off, h⟩
      have hdr := (hb.below hbel).drop (q := k) hk
      rw [Option.map_some, addr_add] at hdr
      have hcq : ¬ cap = k := by omega
      have hki : (k : Int) ≤ (n : Int) ∧ (k : Int) < (n : Int) := by omega
      obtain ⟨⟨m, sz, er⟩, hO⟩ : ∃ o, openS (l.drop k) = o := ⟨_, rfl⟩
      have hlk2 : (l.drop k).length = n - k := by rw [List.length_drop, HLEN.out]
      obtain ⟨f', rfl⟩ : ∃ f', f = f' + 1 := ⟨f - 1, by omega⟩
      have HC : Hid (Calls Tryd.prog 17 #[.slice (some ⟨b, off + k, none⟩) (n - k) (cap - k)] wr fun e w1 => ∃ v, e = .returned (.tuple #[v, .int .i64 sz, .int .i64 er]) ∧ OwnB w1 wr.heap.size 5 v m ∧ Below wr.heap.size wr w1) :=
        Lib.hid (by have := ropen_c hdr (by omega); unfold OpenPost at this; rw [hO] at this; exact this)
      rcases openS_cases (l.drop k) with ⟨e, he, hne⟩ | ⟨m', sz', he, h6, hkl, _⟩
      · rw [hO] at he
        injection he with he1 he2
        injection he2 with he2 he3
        subst he1; subst he2; subst he3
        have HR := Lib.hid (show rowsS l = (ls, k, er) by rw [hrs]; exact rowsF_stop (by rw [HLEN.out]; exact hlt) hO hne)
        have hb1 : (er != 0) = true := by rw [bne_iff_ne]; exact hne
        clear hO hlk2 hrs hne hdr
        go_wp2_with (go_at_call 17; refine (HC.out).mono ?_; rintro e w1 ⟨v, rfl, hov, hbv⟩)
        go_ret3
        exact RowsPost.mk HR.out (hrows.kept hbv) (hbel.trans (hbv.mono hbel.size))
      · rw [hO] at he
        injection he with he1 he2
        injection he2 with he2 he3
        subst he1; subst he2; subst he3
        rw [hlk2] at hkl
        have HR := Lib.hid (show rowsS l = rowsF f' l (k + sz') (ls ++ [m]) by rw [hrs, rowsF_next (by rw [HLEN.out]; exact hlt) hO, Int.toNat_natCast])
        obtain ⟨vs, hr1, hr2, hr3⟩ := hrows
        have HR2 := Lib.hid hr2
        have HR3 := Lib.hid hr3
        have hvl : vs.length ≤ k := by omega
        clear hO hlk2 hrs hdr hr2 hr3
        go_wp2_with (first
          | (go_at_call 17; refine (HC.out).mono ?_; rintro e w1 ⟨v, rfl, hov, hbv⟩; obtain ⟨av, nv, cv, hve, _⟩ := hov.isBys; subst hve; have hr1 : w1.ownsRow w.heap.size 22 1 _ vs.length vs := ownsRow_below hr1 hbv)
          | (at_builtin; refine wpList_append_own _ rfl _ _ 31 rfl w.heap.size 22 i0 (.slice none 0 0) 1 24 Tryd.underlying31 hi hz0 hz1 hz2 rfl (by decide) _ _ _ rfl (hr1.alloc _) ⟨w1.heap.size, 0, none⟩ 1 1 [.slice av nv cv] rfl rfl (cell_one_new _ _ _) (by simp [Value.oneCell']) (by unfold maxLen; omega) (by omega) (by have := hbv.size; have := hbel.size; simp; omega) ?_; intro v' w2 hown' hgrow _))
        go_roundw
        case rel =>
          have hb1 : Below w.heap.size w w1 := hbel.trans (hbv.mono hbel.size)
          have hs1 : SameBytes wr w1 := (KB.of_below (n₀ := wr.heap.size) (Bn := 0) (Nat.le_refl _) hbv).bytes
          exact ⟨k + sz', by go_num, ls ++ [m], f', OwnRows.snoc hr1 HR2.out (fun i hi => (HR3.out i hi).keptBytes hs1) (hov.mono hbel.size) hgrow hown', by rw [HLEN.out]; omega, by simp; omega, by rw [HLEN.out]; omega, HR.out, (hb1.alloc hb1.size _).grown hgrow (by have := hb1.size; simp; omega) (fun j hj => (World.ownsRow.lt hr1 j hj).1)⟩
        case measure => simp [intOf]; omega
    · obtain rfl : k = n := by omega
      have HR := Lib.hid (show rowsS l = (ls, k, 0) by rw [hrs]; exact rowsF_end (by rw [HLEN.out]; exact Nat.le_refl _))
      clear hrs
      go_wp2
      go_ret3
      exact RowsPost.mk HR.out hrows hbel
end Go.Proofs.YticcmhgahbnboaaDoor
