/-
  Disk: the program's Read.
-/
import Derived.Test.YtplanmiggeghfaaDA
import Derived.Shelf.Abstract
namespace Go.Proofs.Ytplanmiggeghfaa
open Go.RowKit Go Go.Sort Go.Maps Go.WideMaps
set_option linter.unusedVariables false
set_option maxRecDepth 20000

theorem infoD5 : (Try.prog.info? 5).map (fun i => (i.zero, i.size, i.bytes)) = some (some (.int .u8 0), 1, 1) := by kernel_rfl
/-- What Read leaves. -/
def ReadPost (w : World) (b : Option (List UInt8)) (n : Int) (e : Ending) (w' : World) : Prop :=
  ∃ v, e = .returned (.tuple #[v, .int .i64 n]) ∧ Below w.heap.size w w' ∧ match b with
    | none => v = .slice none 0 0
    | some l => OwnB w' w.heap.size 5 v l
set_option maxRecDepth 100000 in
set_option maxHeartbeats 6400000 in
theorem dread_c {w : World} {q : Nat} {st : Ds} {F : Nat → Prop} (hk : Dk w q st F) (nm : List UInt8) (hn : nm.length ≤ 9223372036854775807) : Calls Try.prog 19 #[.pointer (some ⟨q, 0, none⟩), .string (text nm)] w (ReadPost w (st.read nm).1 (st.read nm).2) := by
  obtain ⟨m, pv, FS, h, rfl⟩ := hk
  have HD1 := Lib.hid h
  have HLF := Lib.hid (h.lookF nm)
  have HN := Lib.hid hn
  clear h hn
  cases hon : st.on with
  | false =>
    have HON := Lib.hid hon
    have HR := Lib.hid (show st.read nm = (none, 150) by unfold Ds.read; rw [if_pos hon])
    rw [HR.out]
    clear hon
    go_enter Try.func19, Try.ntmps19
    go_wp2_with (go_at_call 59; (with_reducible refine (dfind_off HD1.out _ HON.out).mono ?_); rintro e9 w9 ⟨rfl, rfl⟩)
    go_ret2
    exact ⟨_, rfl, Below.refl _ _, rfl⟩
  | true =>
    have HON := Lib.hid hon
    cases hf : FS.find? (fun x => x.f.nm == nm) with
    | none =>
      have HF := Lib.hid hf
      have HR := Lib.hid (show st.read nm = (none, 152) by unfold Ds.read; rw [if_neg (by simp [hon]), HLF.out, hf]; rfl)
      rw [HR.out]
      have HFN := Lib.hid (dfind_none HD1.out nm HN.out HON.out HF.out)
      obtain ⟨tx, htx⟩ : ∃ s, text nm = s := ⟨_, rfl⟩
      rw [htx] at HFN ⊢
      clear htx hon hf
      go_enter Try.func19, Try.ntmps19
      go_wp2_with (go_at_call 59; (with_reducible refine HFN.out.mono ?_); rintro e9 w9 ⟨rfl, rfl⟩)
      go_ret2
      exact ⟨_, rfl, Below.refl _ _, rfl⟩
    | some x =>
      have HF := Lib.hid hf
      have HLS := Lib.hid (show lookF st.F nm = some x.f by rw [HLF.out, hf]; rfl)
      have HR := Lib.hid (show st.read nm = (some x.f.b, 0) by unfold Ds.read; rw [if_neg (by simp [hon]), HLS.out])
      rw [HR.out]
      have HFN := Lib.hid (dfind_some HD1.out nm HN.out HON.out HF.out)
      obtain ⟨-, -, hxl, -, xa, xc, hxv, hxb, hbx⟩ := HD1.out.file hf
      obtain ⟨l, hl⟩ : ∃ l, x.f.b = l := ⟨_, rfl⟩
      obtain ⟨xg, hxg⟩ : ∃ n, x.g = n := ⟨_, rfl⟩
      obtain ⟨tx, htx⟩ : ∃ s, text nm = s := ⟨_, rfl⟩
      rw [hl] at hxb hbx hxl
      rw [hxg] at hbx HFN
      rw [hl]
      rw [htx] at HFN ⊢
      clear htx hxg hl hon hf hxv
      obtain ⟨i0, hi, hz0, hz1, hz2⟩ := info_parts infoD5
      have hsz : (Try.prog.info? 5).map (·.size) = some 1 := by rw [hi]; simp [hz1]
      have k2 := (box_cs hbx).1
      have hbel0 := Below.refl w.heap.size w
      go_enter Try.func19, Try.ntmps19
      go_wp2_with (first
        | (go_at_call 59; (with_reducible refine HFN.out.mono ?_); rintro e9 w9 ⟨rfl, rfl⟩)
        | (at_make; refine wpList_make_full _ rfl _ _ 30 rfl w.heap.size 5 i0 (.int .u8 0) 1 Try.underlying30 hi hz0 hz1 .i64 .i64 _ _ l.length rfl rfl ?c1 ?c2 ?c3 ?c4 ?c5 ?_))
      case c1 => simp
      case c2 => simp
      case c3 => rw [hz2]; omega
      case c4 => unfold maxLen; omega
      case c5 => exact Nat.le_refl _
      intro w1 hown hgr
      have hbel : Below w.heap.size w w1 := (Below.refl _ _).grown hgr (Nat.le_refl _) (fun k hk => by cases hk)
      have HH := Lib.hid (show w1.heap[w.heap.size]? = some (.cells (List.replicate l.length (Value.int .u8 0)).toArray 5 (0, 0)) from heap_of_made hown)
      have hcl : (u8v l).length = l.length := u8v_length l
      have HP := Lib.hid (show 0 < (u8v l).length → ∃ ad, xa = some ad ∧ ∀ j v, (u8v l)[j]? = some v → w1.cell? (ad.add j) = some v from fun hp => (hxb.below hbel).cells (by rw [hcl] at hp; exact hp))
      have HM := Lib.hid (show (u8v l).length = Nat.min l.length l.length by rw [hcl]; exact (Nat.min_self _).symm)
      have hfit : 0 + (u8v l).length ≤ (List.replicate l.length (Value.int .u8 0)).length := by rw [hcl]; simp
      have k3 := (box_cs (heapB hbx hbel)).1
      clear hown hgr k2
      go_wp2_with (with_reducible refine wpList_copy_splice rfl (.tmp 24) (.tmp 28) 30 30 rfl 5 Try.underlying30 hsz (some ⟨w.heap.size, 0, none⟩) xa l.length l.length l.length xc rfl rfl w.heap.size 0 (List.replicate l.length (Value.int .u8 0)) 5 HH.out (u8v l) HM.out (fun hp => ⟨rfl, HP.out hp⟩) hfit (u8v_one l) w.heap.size w hbel (Nat.le_refl _) ?_; intro w4 hg4 hb4)
      go_ret2
      have ho := own_copied (k := 0) (Nat.le_refl w.heap.size) (by omega) hg4.out
      exact ⟨_, rfl, hb4, by simpa [OwnB] using ho⟩
end Go.Proofs.Ytplanmiggeghfaa
