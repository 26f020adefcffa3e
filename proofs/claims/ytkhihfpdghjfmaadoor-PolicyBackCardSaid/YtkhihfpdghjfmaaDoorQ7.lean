/-
  Policy: the reference's Encode and cut.
-/
import Derived.Test.YtkhihfpdghjfmaaDoorQ6
namespace Go.Proofs.YtkhihfpdghjfmaaDoor
open Go.RowKit Go Go.Sort
set_option linter.unusedVariables false
set_option maxRecDepth 20000

/-- Own bytes, and an error. -/
def EncPost (t : List UInt8) (x : Int) (w : World) (e : Ending) (w' : World) : Prop := ∃ v, e = .returned (.tuple #[v, .int .i64 x]) ∧ OwnB w' w.heap.size 5 v t ∧ Below w.heap.size w w'

set_option maxHeartbeats 1600000 in
theorem rpencode_c {w : World} {a : Option Addr} {n cap : Nat} {l : List Grp} (hl : Grs w a n cap l) (hs : ∀ g ∈ l, g.1.length ≤ 9223372036854775807) :
    Calls Tryd.prog 21 #[.slice a n cap] w (EncPost (if pgoodS l = 0 then pbytesS l else []) (pgoodS l) w) := by
  have G := rpgood_c hl hs
  have hln := hl.len
  have hsch := @schema_names l
  have HL := Lib.hid hl
  obtain ⟨e, he⟩ : ∃ e, pgoodS l = e := ⟨_, rfl⟩
  rw [he] at G hsch ⊢
  have HG := Lib.hid G
  clear hl G he
  by_cases h0 : e = 0
  · subst h0
    obtain ⟨h1, h4, hnm⟩ := hsch rfl
    have hn4 : n ≤ 4 := by omega
    have hn12 : ∀ g ∈ l, g.1.length ≤ 12 ∧ (g.2 = 1 ∨ g.2 = 2) := fun g hg => ⟨(name_len (hnm g hg).1).2, (hnm g hg).2⟩
    have HT := Lib.hid (fun W (h : Below w.heap.size w W) => rpbytes_c (HL.out.below h) hn4 hn12)
    rw [if_pos rfl]
    clear hsch hnm hn12
    go_enter Tryd.func21, Tryd.ntmps21
    go_wp2_with (first
      | (go_at_call 19; (with_reducible refine (HG.out).mono ?_); rintro e w1 ⟨rfl, hb1⟩)
      | (go_at_call 47; (with_reducible refine (HT.out _ hb1).mono ?_); rintro e w2 ⟨v, rfl, ho2, hb2⟩))
    go_ret2
    exact ⟨_, rfl, ho2.mono hb1.size, hb1.trans (hb2.mono hb1.size)⟩
  · have hne : (e != 0) = true := by simpa using h0
    rw [if_neg h0]
    clear h0 hsch
    go_enter Tryd.func21, Tryd.ntmps21
    go_wp2_with (go_at_call 19; (with_reducible refine (HG.out).mono ?_); rintro e w1 ⟨rfl, hb1⟩)
    go_ret2
    exact ⟨_, rfl, World.ownsRow_nil _ _ _ _, hb1⟩

/-- A text ahead of a sign, and behind it. -/
def cutS (c : UInt8) : List UInt8 → List UInt8 × List UInt8 × Bool
  | [] => ([], [], false)
  | x :: r => if x = c then ([], r, true) else (x :: (cutS c r).1, (cutS c r).2.1, (cutS c r).2.2)
theorem cutS_at (c : UInt8) : ∀ (s : List UInt8) (k : Nat), k < s.length → (∀ x ∈ s.take k, x ≠ c) → s.getD k 0 = c → cutS c s = (s.take k, s.drop (k + 1), true)
  | [], k, h, _, _ => by simp at h
  | x :: r, 0, h, _, e => by
    have : x = c := e
    subst this
    simp [cutS]
  | x :: r, k + 1, h, ha, e => by
    have hx : x ≠ c := ha x (by simp)
    have := cutS_at c r k (by simpa using h) (fun y hy => ha y (by simp [hy])) e
    unfold cutS
    rw [if_neg hx, this]
    rfl
theorem cutS_none (c : UInt8) : ∀ (s : List UInt8), (∀ x ∈ s, x ≠ c) → cutS c s = (s, [], false)
  | [], _ => rfl
  | x :: r, h => by
    unfold cutS
    rw [if_neg (h x (by simp)), cutS_none c r fun y hy => h y (by simp [hy])]
theorem slice_head (s : List UInt8) (k : Nat) (h : k ≤ s.length) (W : World) : (Instr.slice 9 (.string (text s)) none (some (.int .i64 (k : Int))) none).run Tryd.prog W = .ok (.string (text (s.take k))) W := by
  rw [run_slice_string_h W 9 (text s) Tryd.underlying9 .i64 k (by omega) (by rw [text_len]; omega)]
  congr 2
  unfold text
  ext1
  simp
theorem slice_tail (s : List UInt8) (k : Nat) (h : k ≤ s.length) (W : World) : (Instr.slice 9 (.string (text s)) (some (.int .i64 (k : Int))) none none).run Tryd.prog W = .ok (.string (text (s.drop k))) W := by
  rw [run_slice_string_l W 9 (text s) Tryd.underlying9 .i64 k (by omega) (by rw [text_len]; omega), text_len]
  congr 2
  unfold text
  ext1
  simp
  exact List.take_of_length_le (by simp)

attribute [-go_sem] run_index_string run_slice_string_h run_slice_string_l run_slice_string_from_if run_slice_string_to_if
set_option maxHeartbeats 1600000 in
theorem rcut_c (s : List UInt8) (c : UInt8) (ci : Int) (hci : ci = (c.toNat : Int)) (hmax : s.length ≤ 9223372036854775806) (w : World) :
    Calls Tryd.prog 56 #[.string (text s), .int .u8 ci] w (fun e w' => e = .returned (.tuple #[.string (text (cutS c s).1), .string (text (cutS c s).2.1), .bool (cutS c s).2.2]) ∧ Below w.heap.size w w') := by
  have hsz : ((text s).size : Int) = s.length := by rw [text_len]
  have HX := Lib.hid (fun k h => index_str s k h)
  have HA := Lib.hid (fun k h => slice_head s k h)
  have HB := Lib.hid (fun k h => slice_tail s k h)
  have HC := Lib.hid (fun k h1 h2 h3 => cutS_at c s k h1 h2 h3)
  have HN := Lib.hid (cutS_none c s)
  have H8 := Lib.hid (fun k (h : by8 s k = ci) => show s.getD k 0 = c from by
    unfold by8 at h; rw [hci] at h; exact UInt8.toNat_inj.1 (by omega))
  have H9 := Lib.hid (fun k (h : ¬ by8 s k = ci) (e : s.getD k 0 = c) => h (by unfold by8; rw [hci, e]))
  obtain ⟨S, hS⟩ : ∃ S, text s = S := ⟨_, rfl⟩
  have HS := Lib.hid hS
  rw [hS] at hsz HX HA HB ⊢
  obtain ⟨L, hL⟩ : ∃ L, s.length = L := ⟨_, rfl⟩
  have HL := Lib.hid hL
  rw [hL] at hsz
  have hL2 : (L : Int) ≤ 9223372036854775806 := by omega
  clear hS hmax hL hci
  go_enter Tryd.func56, Tryd.ntmps56
  go_wp2
  go_loopw [7] (fun i wr => wr = w ∧ ∃ k : Nat, k ≤ L ∧ i = .int .i64 k ∧ ∀ x ∈ s.take k, x ≠ c) (fun i _ => L - (intOf i).toNat)
  case atStart => exact ⟨rfl, 0, by omega, rfl, by simp⟩
  case round =>
    obtain ⟨rfl, k, hk, rfl, hall⟩ := hrel
    have HAL := Lib.hid hall
    clear hall
    by_cases hlt : k < L
    · have hki : (k : Int) < (L : Int) := by omega
      have hx := HX.out k (by rw [HL.out]; exact hlt)
      obtain ⟨d, hd⟩ : ∃ d, by8 s k = d := ⟨_, rfl⟩
      rw [hd] at hx
      by_cases hdc : d = ci
      · have e1 := HA.out k (by rw [HL.out]; omega)
        have e2 := HB.out (k + 1) (by rw [HL.out]; omega)
        have hk1 : ((k + 1 : Nat) : Int) = (k : Int) + 1 := by omega
        rw [hk1] at e2
        have HR := Lib.hid (HC.out k (by rw [HL.out]; exact hlt) HAL.out (H8.out k (by rw [hd]; exact hdc)))
        obtain ⟨T1, hT1⟩ : ∃ q, text (s.take k) = q := ⟨_, rfl⟩
        obtain ⟨T2, hT2⟩ : ∃ q, text (s.drop (k + 1)) = q := ⟨_, rfl⟩
        rw [hT1] at e1
        rw [hT2] at e2
        have H1 := Lib.hid hT1
        have H2 := Lib.hid hT2
        have hdcb : (d == ci) = true := by simpa using hdc
        clear hd hT1 hT2 hk1 hdc
        go_wp2
        refine wp_region_flow [none, none, none, none, some 7, some 8, some 9, none, none, none, none, none, none, none, none, none, none, none, none, some 0, some 1, some 2, some 3, some 4, some 5, some 6, none] (fun i => [u19, u20, u21, u22, u23, u24, u25, u4, u5, u6].getD i undef) [(fun v _ => v = .string S), (fun v _ => v = .int .i64 (k : Int)), (fun v _ => v = .string T1), (fun v _ => v = .string S), (fun v _ => v = .int .i64 (k : Int)), (fun v _ => v = .int .i64 ((k : Int) + 1)), (fun v _ => v = .string T2), (fun v _ => v = .string T1), (fun v _ => v = .string T2), (fun v _ => v = .bool true)] (by kernel_rfl) (by kernel_rfl) rfl rfl rfl ?_ ?_ ?_
        · intro g hg v X Y hX hY hv
          simp only [List.mem_cons, List.not_mem_nil, or_false] at hg
          rcases hg with rfl | rfl | rfl | rfl | rfl | rfl | rfl | rfl | rfl | rfl
          all_goals exact hv
        · simp only [flowOps, and_true]
          refine ⟨?_, ?_, ?_, ?_, ?_, ?_, ?_, ?_, ?_, ?_⟩
          · intro xs W hW hn
            simp only [flowAct, List.zipWith_cons_cons, List.zipWith_nil_left]
            go_wp2_with (fail)
            exact ⟨rfl, _, rfl, Below.refl _ _, rfl⟩
          · intro xs W hW hn
            simp only [flowAct, List.zipWith_cons_cons, List.zipWith_nil_left]
            go_wp2_with (fail)
            exact ⟨rfl, _, rfl, Below.refl _ _, rfl⟩
          · intro xs W hW hn
            simp [flowNeeds, Region.binds] at hn
            simp only [flowAct, List.zipWith_cons_cons, List.zipWith_nil_left]
            try simp only [hn]
            go_wp2_with (fail)
            exact ⟨rfl, _, rfl, Below.refl _ _, rfl⟩
          · intro xs W hW hn
            simp only [flowAct, List.zipWith_cons_cons, List.zipWith_nil_left]
            go_wp2_with (fail)
            exact ⟨rfl, _, rfl, Below.refl _ _, rfl⟩
          · intro xs W hW hn
            simp only [flowAct, List.zipWith_cons_cons, List.zipWith_nil_left]
            go_wp2_with (fail)
            exact ⟨rfl, _, rfl, Below.refl _ _, rfl⟩
          · intro xs W hW hn
            simp [flowNeeds, Region.binds] at hn
            simp only [flowAct, List.zipWith_cons_cons, List.zipWith_nil_left]
            try simp only [hn]
            go_wp2_with (fail)
            exact ⟨rfl, _, rfl, Below.refl _ _, rfl⟩
          · intro xs W hW hn
            simp [flowNeeds, Region.binds] at hn
            simp only [flowAct, List.zipWith_cons_cons, List.zipWith_nil_left]
            try simp only [hn]
            go_wp2_with (fail)
            exact ⟨rfl, _, rfl, Below.refl _ _, rfl⟩
          · intro xs W hW hn
            simp [flowNeeds, Region.binds] at hn
            simp only [flowAct, List.zipWith_cons_cons, List.zipWith_nil_left]
            try simp only [hn]
            go_wp2_with (fail)
            exact ⟨rfl, _, rfl, Below.refl _ _, rfl⟩
          · intro xs W hW hn
            simp [flowNeeds, Region.binds] at hn
            simp only [flowAct, List.zipWith_cons_cons, List.zipWith_nil_left]
            try simp only [hn]
            go_wp2_with (fail)
            exact ⟨rfl, _, rfl, Below.refl _ _, rfl⟩
          · intro xs W hW hn
            simp only [flowAct, List.zipWith_cons_cons, List.zipWith_nil_left]
            go_wp2_with (fail)
            exact ⟨rfl, _, rfl, Below.refl _ _, rfl⟩
        · intro xs W hW hall
          simp only [flowAll, and_true, Nat.zero_add, Nat.reduceAdd] at hall
          obtain ⟨-, -, -, -, -, -, -, e7, e8, e9⟩ := hall
          simp only [flowAct, List.zipWith_cons_cons, List.zipWith_nil_left, e7, e8, e9]
          go_wp2
          go_ret3
          exact ⟨by rw [HR.out]; simp only [H1.out, H2.out]; rfl, hW⟩
      · have HNE := Lib.hid (H9.out k (by rw [hd]; exact hdc))
        have hdcb : (d == ci) = false := by simpa using hdc
        clear hd hdc
        go_wp2
        go_roundw
        case rel =>
          refine ⟨trivial, k + 1, by omega, rfl, ?_⟩
          intro x hxm
          have hks : k < s.length := by rw [HL.out]; exact hlt
          rw [List.take_succ_eq_append_getElem hks, List.mem_append] at hxm
          rcases hxm with h | h
          · exact HAL.out x h
          · simp only [List.mem_singleton] at h
            subst h
            intro e
            apply HNE.out
            rw [List.getD_eq_getElem?_getD, List.getElem?_eq_getElem hks]
            exact e
        case measure => simp [intOf]; omega
    · obtain rfl : k = L := by omega
      have HR := Lib.hid (HN.out (by have := HAL.out; rwa [List.take_of_length_le (by rw [HL.out]; omega)] at this))
      clear HAL
      go_wp2
      go_ret3
      exact ⟨by rw [HR.out, HS.out]; rfl, Below.refl _ _⟩
end Go.Proofs.YtkhihfpdghjfmaaDoor
