/-
  Disk: the program's isMade, ready, find, Ops, Fails, On, Power, Arm, New.
-/
import Derived.Test.YtplanmiggeghfaaD1
namespace Go.Proofs.Ytplanmiggeghfaa
open Go.RowKit Go Go.Sort Go.Maps Go.WideMaps
set_option linter.unusedVariables false
set_option maxRecDepth 20000

theorem klawD : Keyed Try.prog 9 := string_keyed Try.underlying9
theorem key_textD (s : List UInt8) (h : s.length ≤ 9223372036854775807) : keyOf Try.prog 9 (.string (text s)) = some (.string s) := by
  have := keyOf_string_mk (P := Try.prog) (s := text s) Try.underlying9 (by
    have e : (text s).size = s.length := by simp [text, ByteArray.size]
    rw [e]; unfold maxLen; exact h)
  rw [this]
  congr 2
theorem zeroD (w : World) : (zeroValue 94).run Try.prog w = .ok (.pointer none) w := by kernel_rfl
def ptrF (FS : List Fl) (nm : List UInt8) : Value := match FS.find? (fun x => x.f.nm == nm) with
  | some x => .pointer (some ⟨x.g, 0, none⟩)
  | none => .pointer none
theorem atKeyD (nm : List UInt8) (z : DataW Unit) : ∀ FS : List Fl, (mapD FS).atKey (.string nm) z = (match FS.find? (fun x => x.f.nm == nm) with | some x => .lit (.int .i64 (x.g : Int)) | none => z)
  | [] => rfl
  | x :: r => by
    have ih := atKeyD nm z r
    unfold mapD mapL DataW.atKey at ih ⊢
    simp only [List.map_cons, List.find?_cons]
    cases hx : (x.f.nm == nm) with
    | true => simp [Lit.sameKey, hx]
    | false => simp only [Lit.sameKey, hx]; exact ih
theorem ptrElem_lit {v : Value} {g : Nat} {ps : List MemPlace} (h : ptrElem v = some (.lit (.int .i64 (g : Int)), ps)) : v = .pointer (some ⟨g, 0, none⟩) := by
  unfold ptrElem at h
  split at h
  · injection h with h; injection h with h; cases h
  · injection h with h; injection h with h; injection h with h; injection h with h h2
    have : _ = g := Int.ofNat.inj h2
    subst this; rfl
  · cases h
theorem ptrElem_nil {v : Value} {ps : List MemPlace} (h : ptrElem v = some (.nil, ps)) : v = .pointer none := by
  unfold ptrElem at h
  split at h
  · rfl
  · injection h with h; injection h with h; cases h
  · cases h
theorem DiskIn.look {W : World} {q m : Nat} {pv : Value} {FS : List Fl} {st : Ds} (h : DiskIn W q m pv FS st) (nm : List UInt8) (hn : nm.length ≤ 9223372036854775807) :
    (Instr.lookup 82 (.map (some m)) (.string (text nm)) false).run Try.prog W = .ok (ptrF FS nm) W := by
  obtain ⟨v, ps, h1, h2⟩ := h.map.lookup klawD Try.underlying82 (zeroD W) (zd := .nil) (zp := []) rfl (key_textD nm hn)
  rw [h1]
  rw [atKeyD] at h2
  unfold ptrF
  cases hf : FS.find? (fun x => x.f.nm == nm) with
  | none => rw [hf] at h2; rw [ptrElem_nil h2]
  | some x => rw [hf] at h2; rw [ptrElem_lit h2]
theorem lookF_map (nm : List UInt8) : ∀ FS : List Fl, lookF (FS.map Fl.f) nm = (FS.find? (fun x => x.f.nm == nm)).map Fl.f
  | [] => rfl
  | x :: r => by
    have ih := lookF_map nm r
    unfold lookF at ih ⊢
    simp only [List.map_cons, List.find?_cons]
    cases hx : (x.f.nm == nm) with
    | true => rfl
    | false => simp only; exact ih
theorem DiskIn.lookF {W : World} {q m : Nat} {pv : Value} {FS : List Fl} {st : Ds} (h : DiskIn W q m pv FS st) (nm : List UInt8) : lookF st.F nm = (FS.find? (fun x => x.f.nm == nm)).map Fl.f := by
  rw [← h.pr]; exact lookF_map nm FS
/-- The name of a file, and where it stands. -/
theorem find_split {FS : List Fl} {nm : List UInt8} {x : Fl} (h : FS.find? (fun x => x.f.nm == nm) = some x) : x.f.nm = nm ∧ ∃ A C, FS = A ++ x :: C := by
  have h1 := List.find?_some h
  have h2 := List.mem_of_find?_eq_some h
  obtain ⟨A, C, e⟩ := List.append_of_mem h2
  exact ⟨by simpa using h1, A, C, e⟩
theorem DiskIn.cs {W : World} {q m : Nat} {pv : Value} {FS : List Fl} {st : Ds} (h : DiskIn W q m pv FS st) : W.cell? ⟨q, 0, none⟩ = some (.map (some m)) ∧ W.cell? ⟨q, 1, none⟩ = some (.int .i64 st.room) ∧ W.cell? ⟨q, 2, none⟩ = some (.bool st.on) ∧ W.cell? ⟨q, 3, none⟩ = some (.int .i64 st.ops) ∧ W.cell? ⟨q, 4, none⟩ = some (.int .i64 st.fails) ∧ W.cell? ⟨q, 5, none⟩ = some pv := by
  refine ⟨?_, ?_, ?_, ?_, ?_, ?_⟩ <;> (rw [cell_of_row W q _ _ 85 (0, 0) h.head]; rfl)
theorem DiskIn.fz {W : World} {q m : Nat} {pv : Value} {FS : List Fl} {st : Ds} (h : DiskIn W q m pv FS st) (i : Nat) : W.frozen? ⟨q, i, none⟩ = false := frozen_of_row W q i _ 85 h.head
/-- The disk's own box turned, and nothing else of it. -/
theorem DiskIn.turn {W W' : World} {q m : Nat} {pv pv' : Value} {FS : List Fl} {st st' : Ds} (h : DiskIn W q m pv FS st) (hk : ∀ k, foot q m pv FS k → k ≠ q → W'.heap[k]? = W.heap[k]?)
    (hh : W'.heap[q]? = some (.cells #[.map (some m), .int .i64 st'.room, .bool st'.on, .int .i64 st'.ops, .int .i64 st'.fails, pv'] 85 (0, 0)))
    (hp : (st'.plan = false ∧ pv' = .pointer none) ∨ (st'.plan = true ∧ ∃ gp, pv' = .pointer (some ⟨gp, 0, none⟩) ∧ W'.heap[gp]? = some (.cells #[.int .i64 st'.pn, .int .i64 st'.keep] 108 (0, 0))))
    (hF : st'.F = st.F) (hok : st'.Ok) : DiskIn W' q m pv' FS st' := by
  obtain ⟨k1, k2, k3, k4, k5, k6⟩ := h.kinds
  exact ⟨hh, hp, ownsMap_keep h.map (hk m (.inr (.inl rfl)) (Ne.symm k1)), h.fb.keep fun x hx => ⟨hk _ (.inr (.inr (.inr ⟨x, hx, .inl rfl⟩))) (k4 x hx).1, fun k hv => hk k (.inr (.inr (.inr ⟨x, hx, .inr hv⟩))) (fun e => (k4 x hx).2.2.2.1 (e ▸ hv))⟩, by rw [hF]; exact h.pr, hok⟩
theorem foot_pv {q m : Nat} {pv pv' : Value} {FS : List Fl} {k : Nat} (h : foot q m pv' FS k) : foot q m pv FS k ∨ pv' = .pointer (some ⟨k, 0, none⟩) := by
  rcases h with h | h | h | h
  · exact .inl (.inl h)
  · exact .inl (.inr (.inl h))
  · exact .inr h
  · exact .inl (.inr (.inr (.inr h)))

theorem neqSome (x : Nat) (w : World) : (binOp .neq 82 (.map (some x)) (.map none)).run Try.prog w = .ok (.bool true) w := by kernel_rfl
theorem neqNone (w : World) : (binOp .neq 82 (.map none) (.map none)).run Try.prog w = .ok (.bool false) w := by kernel_rfl
theorem dmade_nil (w : World) : Calls Try.prog 64 #[.pointer none] w (fun e w' => e = .returned (.bool false) ∧ w = w') := by
  go_enter Try.func64, Try.ntmps64
  go_wp2
  go_ret
  exact ⟨rfl, rfl⟩
/-- A disk that no call made. -/
def UnD (W : World) (q : Nat) : Prop := W.heap[q]? = some (.cells #[.map none, .int .i64 0, .bool false, .int .i64 0, .int .i64 0, .pointer none] 85 (0, 0))
theorem dmade_un {w : World} {q : Nat} (h : UnD w q) : Calls Try.prog 64 #[.pointer (some ⟨q, 0, none⟩)] w (fun e w' => e = .returned (.bool false) ∧ w = w') := by
  have hne := neqNone
  have c0 : w.cell? ⟨q, 0, none⟩ = some (.map none) := by rw [cell_of_row w q _ _ 85 (0, 0) h]; rfl
  clear h
  go_enter Try.func64, Try.ntmps64
  go_wp2
  go_ret
  exact ⟨rfl, rfl⟩
theorem dmade_c {w : World} {q m : Nat} {pv : Value} {FS : List Fl} {st : Ds} (h : DiskIn w q m pv FS st) : Calls Try.prog 64 #[.pointer (some ⟨q, 0, none⟩)] w (fun e w' => e = .returned (.bool true) ∧ w = w') := by
  have hne := neqSome
  have c0 := h.cs.1
  clear h
  go_enter Try.func64, Try.ntmps64
  go_wp2
  go_ret
  exact ⟨rfl, rfl⟩
theorem dops_nil (w : World) : Calls Try.prog 58 #[.pointer none] w (fun e w' => e = .returned (.int .i64 0) ∧ w = w') := by
  go_enter Try.func58, Try.ntmps58
  go_wp2_with (first
    | (go_at_call 64; (with_reducible refine (dmade_nil _).mono ?_); rintro e9 w9 ⟨rfl, rfl⟩))
  go_ret
  exact ⟨rfl, rfl⟩
theorem dops_un {w : World} {q : Nat} (h : UnD w q) : Calls Try.prog 58 #[.pointer (some ⟨q, 0, none⟩)] w (fun e w' => e = .returned (.int .i64 0) ∧ w = w') := by
  have HU := Lib.hid h
  clear h
  go_enter Try.func58, Try.ntmps58
  go_wp2_with (first
    | (go_at_call 64; (with_reducible refine (dmade_un HU.out).mono ?_); rintro e9 w9 ⟨rfl, rfl⟩))
  go_ret
  exact ⟨rfl, rfl⟩
theorem dops_c {w : World} {q m : Nat} {pv : Value} {FS : List Fl} {st : Ds} (h : DiskIn w q m pv FS st) : Calls Try.prog 58 #[.pointer (some ⟨q, 0, none⟩)] w (fun e w' => e = .returned (.int .i64 st.ops) ∧ w = w') := by
  obtain ⟨c0, c1, c2, c3, c4, c5⟩ := h.cs
  have HD := Lib.hid h
  clear h
  go_enter Try.func58, Try.ntmps58
  go_wp2_with (first
    | (go_at_call 64; (with_reducible refine (dmade_c HD.out).mono ?_); rintro e9 w9 ⟨rfl, rfl⟩))
  go_ret
  exact ⟨rfl, rfl⟩
theorem dfails_nil (w : World) : Calls Try.prog 33 #[.pointer none] w (fun e w' => e = .returned (.int .i64 0) ∧ w = w') := by
  go_enter Try.func33, Try.ntmps33
  go_wp2_with (first
    | (go_at_call 64; (with_reducible refine (dmade_nil _).mono ?_); rintro e9 w9 ⟨rfl, rfl⟩))
  go_ret
  exact ⟨rfl, rfl⟩
theorem dfails_un {w : World} {q : Nat} (h : UnD w q) : Calls Try.prog 33 #[.pointer (some ⟨q, 0, none⟩)] w (fun e w' => e = .returned (.int .i64 0) ∧ w = w') := by
  have HU := Lib.hid h
  clear h
  go_enter Try.func33, Try.ntmps33
  go_wp2_with (first
    | (go_at_call 64; (with_reducible refine (dmade_un HU.out).mono ?_); rintro e9 w9 ⟨rfl, rfl⟩))
  go_ret
  exact ⟨rfl, rfl⟩
theorem dfails_c {w : World} {q m : Nat} {pv : Value} {FS : List Fl} {st : Ds} (h : DiskIn w q m pv FS st) : Calls Try.prog 33 #[.pointer (some ⟨q, 0, none⟩)] w (fun e w' => e = .returned (.int .i64 st.fails) ∧ w = w') := by
  obtain ⟨c0, c1, c2, c3, c4, c5⟩ := h.cs
  have HD := Lib.hid h
  clear h
  go_enter Try.func33, Try.ntmps33
  go_wp2_with (first
    | (go_at_call 64; (with_reducible refine (dmade_c HD.out).mono ?_); rintro e9 w9 ⟨rfl, rfl⟩))
  go_ret
  exact ⟨rfl, rfl⟩
theorem don_nil (w : World) : Calls Try.prog 47 #[.pointer none] w (fun e w' => e = .returned (.bool false) ∧ w = w') := by
  go_enter Try.func47, Try.ntmps47
  go_wp2_with (first
    | (go_at_call 64; (with_reducible refine (dmade_nil _).mono ?_); rintro e9 w9 ⟨rfl, rfl⟩))
  go_ret
  exact ⟨rfl, rfl⟩
theorem don_un {w : World} {q : Nat} (h : UnD w q) : Calls Try.prog 47 #[.pointer (some ⟨q, 0, none⟩)] w (fun e w' => e = .returned (.bool false) ∧ w = w') := by
  have HU := Lib.hid h
  clear h
  go_enter Try.func47, Try.ntmps47
  go_wp2_with (first
    | (go_at_call 64; (with_reducible refine (dmade_un HU.out).mono ?_); rintro e9 w9 ⟨rfl, rfl⟩))
  go_ret
  exact ⟨rfl, rfl⟩
theorem don_c {w : World} {q m : Nat} {pv : Value} {FS : List Fl} {st : Ds} (h : DiskIn w q m pv FS st) : Calls Try.prog 47 #[.pointer (some ⟨q, 0, none⟩)] w (fun e w' => e = .returned (.bool st.on) ∧ w = w') := by
  obtain ⟨c0, c1, c2, c3, c4, c5⟩ := h.cs
  have HD := Lib.hid h
  clear h
  go_enter Try.func47, Try.ntmps47
  go_wp2_with (first
    | (go_at_call 64; (with_reducible refine (dmade_c HD.out).mono ?_); rintro e9 w9 ⟨rfl, rfl⟩))
  go_ret
  exact ⟨rfl, rfl⟩
theorem dready_nil (w : World) : Calls Try.prog 61 #[.pointer none] w (fun e w' => e = .returned (.int .i64 1) ∧ w = w') := by
  go_enter Try.func61, Try.ntmps61
  go_wp2_with (first
    | (go_at_call 64; (with_reducible refine (dmade_nil _).mono ?_); rintro e9 w9 ⟨rfl, rfl⟩))
  go_ret
  exact ⟨rfl, rfl⟩
theorem dready_un {w : World} {q : Nat} (h : UnD w q) : Calls Try.prog 61 #[.pointer (some ⟨q, 0, none⟩)] w (fun e w' => e = .returned (.int .i64 1) ∧ w = w') := by
  have HU := Lib.hid h
  clear h
  go_enter Try.func61, Try.ntmps61
  go_wp2_with (first
    | (go_at_call 64; (with_reducible refine (dmade_un HU.out).mono ?_); rintro e9 w9 ⟨rfl, rfl⟩))
  go_ret
  exact ⟨rfl, rfl⟩
theorem dready_c {w : World} {q m : Nat} {pv : Value} {FS : List Fl} {st : Ds} (h : DiskIn w q m pv FS st) (b : Bool) (hb : st.on = b) : Calls Try.prog 61 #[.pointer (some ⟨q, 0, none⟩)] w (fun e w' => e = .returned (.int .i64 (if b = true then 0 else 150)) ∧ w = w') := by
  obtain ⟨c0, c1, c2, c3, c4, c5⟩ := h.cs
  have HD := Lib.hid h
  clear h
  rw [hb] at c2
  clear hb
  cases b
  all_goals
    go_enter Try.func61, Try.ntmps61
    go_wp2_with (go_at_call 64; (with_reducible refine (dmade_c HD.out).mono ?_); rintro e9 w9 ⟨rfl, rfl⟩)
    go_ret
    exact ⟨rfl, rfl⟩
theorem dfind_nil (w : World) (s : ByteArray) : Calls Try.prog 59 #[.pointer none, .string s] w (fun e w' => e = .returned (.tuple #[.pointer none, .int .i64 1]) ∧ w = w') := by
  go_enter Try.func59, Try.ntmps59
  go_wp2_with (first
    | (go_at_call 61; (with_reducible refine (dready_nil _).mono ?_); rintro e9 w9 ⟨rfl, rfl⟩))
  go_ret2
  exact ⟨rfl, rfl⟩
theorem dfind_un {w : World} {q : Nat} (h : UnD w q) (s : ByteArray) : Calls Try.prog 59 #[.pointer (some ⟨q, 0, none⟩), .string s] w (fun e w' => e = .returned (.tuple #[.pointer none, .int .i64 1]) ∧ w = w') := by
  have HU := Lib.hid h
  clear h
  go_enter Try.func59, Try.ntmps59
  go_wp2_with (first
    | (go_at_call 61; (with_reducible refine (dready_un HU.out).mono ?_); rintro e9 w9 ⟨rfl, rfl⟩))
  go_ret2
  exact ⟨rfl, rfl⟩
theorem dfind_off {w : World} {q m : Nat} {pv : Value} {FS : List Fl} {st : Ds} (h : DiskIn w q m pv FS st) (s : ByteArray) (hon : st.on = false) : Calls Try.prog 59 #[.pointer (some ⟨q, 0, none⟩), .string s] w (fun e w' => e = .returned (.tuple #[.pointer none, .int .i64 150]) ∧ w = w') := by
  have HD := Lib.hid h
  have HON := Lib.hid hon
  clear h hon
  go_enter Try.func59, Try.ntmps59
  go_wp2_with (go_at_call 61; (with_reducible refine (dready_c HD.out false HON.out).mono ?_); rintro e9 w9 ⟨rfl, rfl⟩)
  go_ret2
  exact ⟨rfl, rfl⟩
theorem dfind_none {w : World} {q m : Nat} {pv : Value} {FS : List Fl} {st : Ds} (h : DiskIn w q m pv FS st) (nm : List UInt8) (hn : nm.length ≤ 9223372036854775807) (hon : st.on = true) (hl : FS.find? (fun x => x.f.nm == nm) = none) : Calls Try.prog 59 #[.pointer (some ⟨q, 0, none⟩), .string (text nm)] w (fun e w' => e = .returned (.tuple #[.pointer none, .int .i64 152]) ∧ w = w') := by
  have hrun := h.look nm hn
  unfold ptrF at hrun
  rw [hl] at hrun
  simp only at hrun
  obtain ⟨s, hs⟩ : ∃ s, text nm = s := ⟨_, rfl⟩
  rw [hs] at hrun ⊢
  have c0 := h.cs.1
  have HD := Lib.hid h
  have HON := Lib.hid hon
  clear h hon hl hs hn
  go_enter Try.func59, Try.ntmps59
  go_wp2_with (go_at_call 61; (with_reducible refine (dready_c HD.out true HON.out).mono ?_); rintro e9 w9 ⟨rfl, rfl⟩)
  go_ret2
  exact ⟨rfl, rfl⟩
theorem dfind_some {w : World} {q m : Nat} {pv : Value} {FS : List Fl} {st : Ds} (h : DiskIn w q m pv FS st) (nm : List UInt8) (hn : nm.length ≤ 9223372036854775807) (hon : st.on = true) {x : Fl} (hl : FS.find? (fun x => x.f.nm == nm) = some x) : Calls Try.prog 59 #[.pointer (some ⟨q, 0, none⟩), .string (text nm)] w (fun e w' => e = .returned (.tuple #[.pointer (some ⟨x.g, 0, none⟩), .int .i64 0]) ∧ w = w') := by
  have hrun := h.look nm hn
  unfold ptrF at hrun
  rw [hl] at hrun
  simp only at hrun
  obtain ⟨s, hs⟩ : ∃ s, text nm = s := ⟨_, rfl⟩
  rw [hs] at hrun ⊢
  have c0 := h.cs.1
  have HD := Lib.hid h
  have HON := Lib.hid hon
  clear h hon hl hs hn
  go_enter Try.func59, Try.ntmps59
  go_wp2_with (go_at_call 61; (with_reducible refine (dready_c HD.out true HON.out).mono ?_); rintro e9 w9 ⟨rfl, rfl⟩)
  go_ret2
  exact ⟨rfl, rfl⟩
theorem dpower_nil (w : World) : Calls Try.prog 24 #[.pointer none] w (fun e w' => e = .returned (.int .i64 1) ∧ w = w') := by
  go_enter Try.func24, Try.ntmps24
  go_wp2_with (go_at_call 64; (with_reducible refine (dmade_nil _).mono ?_); rintro e9 w9 ⟨rfl, rfl⟩)
  go_ret
  exact ⟨rfl, rfl⟩
theorem dpower_un {w : World} {q : Nat} (h : UnD w q) : Calls Try.prog 24 #[.pointer (some ⟨q, 0, none⟩)] w (fun e w' => e = .returned (.int .i64 1) ∧ w = w') := by
  have HU := Lib.hid h
  clear h
  go_enter Try.func24, Try.ntmps24
  go_wp2_with (go_at_call 64; (with_reducible refine (dmade_un HU.out).mono ?_); rintro e9 w9 ⟨rfl, rfl⟩)
  go_ret
  exact ⟨rfl, rfl⟩
theorem dpower_c {w : World} {q : Nat} {st : Ds} {F : Nat → Prop} (hk : Dk w q st F) : Calls Try.prog 24 #[.pointer (some ⟨q, 0, none⟩)] w (DPost q F (.int .i64 0) st.power w) := by
  obtain ⟨m, pv, FS, h, rfl⟩ := hk
  obtain ⟨c0, c1, c2, c3, c4, c5⟩ := h.cs
  have f2 := h.fz 2
  have HD := Lib.hid h
  clear h
  go_enter Try.func24, Try.ntmps24
  go_wp2_with (go_at_call 64; (with_reducible refine (dmade_c HD.out).mono ?_); rintro e9 w9 ⟨rfl, rfl⟩)
  go_ret
  have hd := HD.out
  refine ⟨rfl, _, ⟨m, pv, FS, hd.turn (st' := st.power) (fun k hk hne => heap_setCell_other _ _ _ _ hne) ?_ ?_ rfl ⟨hd.ok.len, hd.ok.each, hd.ok.asc, hd.ok.pn, hd.ok.room⟩, rfl⟩, Trn.refl.set (.inl (.inl rfl)), fun k hk => .inl hk⟩
  · rw [heap_setCell_same w q 2 _ 85 _ hd.head]; rfl
  · rcases hd.plan with h1 | ⟨h1, gp, h2, h3⟩
    · exact .inl h1
    · exact .inr ⟨h1, gp, h2, (heap_setCell_other w _ _ _ (fun e => hd.kinds.2.1 (by rw [h2, e]))).trans h3⟩
theorem darm_nil (n k : Int) (w : World) : Calls Try.prog 54 #[.pointer none, .int .i64 n, .int .i64 k] w (fun e w' => e = .returned (.int .i64 1) ∧ w = w') := by
  go_enter Try.func54, Try.ntmps54
  go_wp2_with (go_at_call 61; (with_reducible refine (dready_nil _).mono ?_); rintro e9 w9 ⟨rfl, rfl⟩)
  go_ret
  exact ⟨rfl, rfl⟩
theorem darm_un {w : World} {q : Nat} (h : UnD w q) (n k : Int) : Calls Try.prog 54 #[.pointer (some ⟨q, 0, none⟩), .int .i64 n, .int .i64 k] w (fun e w' => e = .returned (.int .i64 1) ∧ w = w') := by
  have HU := Lib.hid h
  clear h
  go_enter Try.func54, Try.ntmps54
  go_wp2_with (go_at_call 61; (with_reducible refine (dready_un HU.out).mono ?_); rintro e9 w9 ⟨rfl, rfl⟩)
  go_ret
  exact ⟨rfl, rfl⟩
theorem dk_same {w : World} {q : Nat} {st : Ds} {F : Nat → Prop} (hk : Dk w q st F) (v : Value) : DPost q F v st w (.returned v) w := ⟨rfl, F, hk, Trn.refl, fun k hk => .inl hk⟩
theorem dk_below {w w' : World} {q : Nat} {st : Ds} {F : Nat → Prop} (hk : Dk w q st F) (hb : Below w.heap.size w w') (v : Value) : DPost q F v st w (.returned v) w' := ⟨rfl, F, hk.below hb, Trn.of hb, fun k hk => .inl hk⟩
theorem darm_c {w : World} {q : Nat} {st : Ds} {F : Nat → Prop} (hk : Dk w q st F) (n k : Int) (hn : n ≤ 9223372036854775807) : Calls Try.prog 54 #[.pointer (some ⟨q, 0, none⟩), .int .i64 n, .int .i64 k] w (DPost q F (.int .i64 (st.arm n k).1) (st.arm n k).2 w) := by
  have HKK := Lib.hid hk
  obtain ⟨m, pv, FS, h, rfl⟩ := hk
  have HD := Lib.hid h
  cases hon : st.on with
  | false =>
    have e : st.arm n k = (150, st) := by unfold Ds.arm; rw [if_pos hon]
    rw [e]
    have HON := Lib.hid hon
    clear h hon e
    go_enter Try.func54, Try.ntmps54
    go_wp2_with (go_at_call 61; (with_reducible refine (dready_c HD.out false HON.out).mono ?_); rintro e9 w9 ⟨rfl, rfl⟩)
    go_ret
    exact dk_same HKK.out _
  | true =>
    have HON := Lib.hid hon
    by_cases h0 : n < 0
    · have e : st.arm n k = (2, st) := by unfold Ds.arm; rw [if_neg (by simp [hon]), if_pos h0]
      rw [e]
      clear h hon e
      go_enter Try.func54, Try.ntmps54
      go_wp2_with (go_at_call 61; (with_reducible refine (dready_c HD.out true HON.out).mono ?_); rintro e9 w9 ⟨rfl, rfl⟩)
      go_ret
      exact dk_same HKK.out _
    · have e : st.arm n k = (0, { st with plan := true, pn := n, keep := k }) := by unfold Ds.arm; rw [if_neg (by simp [hon]), if_neg h0]
      rw [e]
      have HB := Lib.hid (alloc_below w (.cells #[.int .i64 n, .int .i64 k] 108))
      have HG := Lib.hid (heap_alloc_new w (.cells #[.int .i64 n, .int .i64 k] 108))
      have hd2 := h.below HB.out
      have c5 := hd2.cs.2.2.2.2.2
      have f5 := hd2.fz 5
      have HD2 := Lib.hid hd2
      have HN := Lib.hid (show 0 ≤ n ∧ n ≤ 9223372036854775807 from ⟨by omega, hn⟩)
      have HLT := Lib.hid (show q < w.heap.size from h.lt (.inl rfl))
      clear h hon e hd2 hn
      go_enter Try.func54, Try.ntmps54
      go_wp2_with (go_at_call 61; (with_reducible refine (dready_c HD.out true HON.out).mono ?_); rintro e9 w9 ⟨rfl, rfl⟩)
      go_ret
      have hd := HD2.out
      refine ⟨rfl, _, ⟨m, .pointer (some ⟨w.heap.size, 0, none⟩), FS, hd.turn (st' := { st with plan := true, pn := n, keep := k }) (fun j hj hne => heap_setCell_other _ _ _ _ hne) ?_ (.inr ⟨rfl, _, rfl, ?_⟩) rfl ⟨hd.ok.len, hd.ok.each, hd.ok.asc, HN.out, hd.ok.room⟩, rfl⟩, (Trn.of HB.out).set (.inl (.inl rfl)), fun j hj => ?_⟩
      · rw [heap_setCell_same _ q 5 _ 85 _ hd.head]; rfl
      · exact (heap_setCell_other _ _ _ _ (by have := HLT.out; simp; omega)).trans HG.out
      · rcases foot_pv (pv := pv) hj with h1 | h1
        · exact .inl h1
        · injection h1 with h1; injection h1 with h1; injection h1 with h1
          exact .inr (by omega)
theorem mapD_made (w : World) : (w.alloc (.map #[] 0)).ownsMap Try.prog 9 ptrElem w.heap.size 0 (mapD []) := World.ownsMap_made w Try.prog 9 ptrElem
def Ds.new (room : Int) : Ds := ⟨room, [], true, 0, 0, false, 0, 0⟩
theorem dnew_bad (room : Int) (w : World) (h : room < 0 ∨ 1073741824 < room) : Calls Try.prog 11 #[.int .i64 room] w (fun e w' => e = .returned (.pointer none) ∧ w = w') := by
  by_cases h0 : room < 0
  · clear h
    go_enter Try.func11, Try.ntmps11
    go_wp2
    go_ret
    exact ⟨rfl, rfl⟩
  · have h1 : 1073741824 < room := by omega
    clear h
    go_enter Try.func11, Try.ntmps11
    go_wp2
    go_ret
    exact ⟨rfl, rfl⟩
theorem dnew_c (room : Int) (w : World) (h0 : 0 ≤ room) (h1 : room ≤ 1073741824) : Calls Try.prog 11 #[.int .i64 room] w (fun e w' => ∃ q, e = .returned (.pointer (some ⟨q, 0, none⟩)) ∧ ∃ F, Dk w' q (Ds.new room) F ∧ (∀ k, F k → w.heap.size ≤ k) ∧ Below w.heap.size w w') := by
  have n0 : ¬ room < 0 := by omega
  have n1 : ¬ 1073741824 < room := by omega
  have hmm := @run_makeMap Try.prog
  have HR := Lib.hid (And.intro h0 h1)
  clear h0 h1
  go_enter Try.func11, Try.ntmps11
  go_wp2
  go_ret
  have hb := second_below w (.map #[] 0) (.cells #[.map (some w.heap.size), .int .i64 room, .bool true, .int .i64 0, .int .i64 0, .pointer none] 85)
  have hm := ownsMap_keep (mapD_made w) (Below.heap_alloc (w.alloc (.map #[] 0)) (.cells #[.map (some w.heap.size), .int .i64 room, .bool true, .int .i64 0, .int .i64 0, .pointer none] 85) w.heap.size (by simp))
  have hh := heap_alloc_new (w.alloc (.map #[] 0)) (.cells #[.map (some w.heap.size), .int .i64 room, .bool true, .int .i64 0, .int .i64 0, .pointer none] 85)
  rw [World.size_alloc] at hh
  refine ⟨w.heap.size + 1, rfl, foot (w.heap.size + 1) w.heap.size (.pointer none) [], ⟨w.heap.size, .pointer none, [], ⟨hh, .inl ⟨rfl, rfl⟩, hm, ⟨fun x hx => (nomatch hx), fun x hx => (nomatch hx), List.Pairwise.nil⟩, rfl, ⟨by simp [Ds.new], fun f hf => (nomatch hf), List.Pairwise.nil, by simp [Ds.new], HR.out⟩⟩, rfl⟩, fun k hk => ?_, hb⟩
  rcases hk with hk | hk | hk | ⟨x, hx, -⟩
  · omega
  · omega
  · cases hk
  · cases hx
end Go.Proofs.Ytplanmiggeghfaa
