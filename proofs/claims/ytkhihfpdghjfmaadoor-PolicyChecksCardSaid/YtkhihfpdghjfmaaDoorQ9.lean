/-
  Policy: the reference's Parse.
-/
import Derived.Test.YtkhihfpdghjfmaaDoorQ8
namespace Go.Proofs.YtkhihfpdghjfmaaDoor
open Go.RowKit Go Go.Sort
set_option linter.unusedVariables false
set_option maxRecDepth 20000

def splitS : List UInt8 → List (List UInt8)
  | [] => [[]]
  | x :: r => if x = 44 then [] :: splitS r else match splitS r with
    | [] => [[x]]
    | h :: t => (x :: h) :: t
theorem split_cut : ∀ s : List UInt8, splitS s = (cutS 44 s).1 :: (if (cutS 44 s).2.2 = true then splitS (cutS 44 s).2.1 else [])
  | [] => rfl
  | x :: r => by
    have e1 : splitS (x :: r) = if x = 44 then [] :: splitS r else match splitS r with
      | [] => [[x]]
      | h :: t => (x :: h) :: t := rfl
    have e2 : cutS 44 (x :: r) = if x = 44 then ([], r, true) else (x :: (cutS 44 r).1, (cutS 44 r).2.1, (cutS 44 r).2.2) := rfl
    rw [e1, e2]
    by_cases hx : x = 44
    · rw [if_pos hx, if_pos hx]; simp
    · rw [if_neg hx, if_neg hx, split_cut r]
theorem cut_len (c : UInt8) : ∀ s : List UInt8, (cutS c s).1.length ≤ s.length ∧ (cutS c s).2.1.length + (if (cutS c s).2.2 = true then 1 else 0) ≤ s.length
  | [] => ⟨Nat.le_refl _, Nat.le_refl _⟩
  | x :: r => by
    have ih := cut_len c r
    unfold cutS
    by_cases hx : x = c
    · rw [if_pos hx]; simp
    · rw [if_neg hx]
      simp only [List.length_cons]
      omega
def codeS (word : List UInt8) : Int := if word = [108, 97, 115, 116] then 1 else if word = [100, 101, 108, 101, 116, 101] then 2 else 0
def grpS (one : List UInt8) : Grp := ((cutS 61 one).1, codeS (cutS 61 one).2.1)
def pparseL (s : List UInt8) : List Grp := (splitS s).map grpS
def moreG (m : Bool) (r : List UInt8) : List Grp := if m = true then pparseL r else []
theorem parse_step (r one beh name word : List UInt8) (is is2 : Bool) (h1 : cutS 44 r = (one, beh, is)) (h2 : cutS 61 one = (name, word, is2)) : pparseL r = (name, codeS word) :: moreG is beh := by
  unfold pparseL moreG
  rw [split_cut r, h1]
  simp only [List.map_cons, grpS, h2]
  cases is <;> rfl
theorem split_len : ∀ (n : Nat) (s : List UInt8), s.length ≤ n → ∀ x ∈ splitS s, x.length ≤ s.length
  | n, s, hn, x, hx => by
    have hc := cut_len 44 s
    rw [split_cut s] at hx
    rcases List.mem_cons.1 hx with rfl | h
    · exact hc.1
    · by_cases hm : (cutS 44 s).2.2 = true
      · rw [if_pos hm] at h hc
        cases n with
        | zero => omega
        | succ n =>
          have := split_len n _ (by omega) x h
          omega
      · rw [if_neg hm] at h; cases h
theorem parse_len (s : List UInt8) : ∀ g ∈ pparseL s, g.1.length ≤ s.length := by
  intro g hg
  unfold pparseL at hg
  obtain ⟨x, hx, rfl⟩ := List.mem_map.1 hg
  have h1 := split_len _ s (Nat.le_refl _) x hx
  have h2 := (cut_len 61 x).1
  show (cutS 61 x).1.length ≤ _
  omega
def pparseS (s : List UInt8) : List Grp × Int := if 100 < s.length then ([], 11) else if pgoodS (pparseL s) = 0 ∧ ptextS (pparseL s) = s then (pparseL s, 0) else ([], 11)
/-- A list of groups of its own, and an error. -/
def GrpsPost (t : List Grp × Int) (w : World) (e : Ending) (w' : World) : Prop := ∃ v, e = .returned (.tuple #[v, .int .i64 t.2]) ∧ OwnG w' w.heap.size v t.1 ∧ Below w.heap.size w w'
def leftS (m r : Value) : Nat := match m, r with
  | .bool true, .string s => s.size + 1
  | _, _ => 0

set_option maxHeartbeats 3200000 in
theorem rpparse_c (s : List UInt8) (hmax : s.length ≤ 9223372036854775806) (w : World) : Calls Tryd.prog 28 #[.string (text s)] w (GrpsPost (pparseS s) w) := by
  have hsz : ((text s).size : Int) = s.length := by rw [text_len]
  have HV := Lib.hid (show pparseS s = if 100 < s.length then ([], 11) else if pgoodS (pparseL s) = 0 ∧ ptextS (pparseL s) = s then (pparseL s, 0) else ([], 11) from rfl)
  by_cases hL : 100 < s.length
  · have hLi : (100 : Int) < (s.length : Int) := by omega
    have HR := Lib.hid (show pparseS s = ([], 11) by rw [HV.out, if_pos hL])
    clear hL hmax HV
    go_enter Tryd.func28, Tryd.ntmps28
    go_wp2
    go_ret2
    rw [HR.out]
    exact ⟨_, rfl, OwnG.nil _ _, Below.refl _ _⟩
  · have hLi : ¬ (100 : Int) < (s.length : Int) := by omega
    have HL := Lib.hid hL
    rw [if_neg hL] at HV
    have HPL := Lib.hid (parse_len s)
    clear hL hmax
    go_enter Tryd.func28, Tryd.ntmps28
    go_upto_region 6 with (fail)
    go_loopw [4, 5, 6] (fun v r m wr => ∃ (acc : List Grp) (rs : List UInt8) (b : Bool), r = .string (text rs) ∧ m = .bool b ∧ OwnG wr w.heap.size v acc ∧ acc ++ moreG b rs = pparseL s ∧ rs.length ≤ 100 ∧ acc.length + (if b = true then rs.length + 1 else 0) ≤ 101 ∧ Below w.heap.size w wr) (fun _ r m _ => leftS m r)
    case atStart => exact ⟨[], s, true, rfl, rfl, OwnG.nil _ _, rfl, by have := HL.out; omega, by have := HL.out; simp; omega, Below.refl _ _⟩
    case round =>
      obtain ⟨acc, rs, b, rfl, rfl, ho, hac, hrl, hal, hB⟩ := hrel
      cases b with
      | true =>
        obtain ⟨⟨one, beh, is⟩, hc1⟩ : ∃ q, cutS 44 rs = q := ⟨_, rfl⟩
        obtain ⟨⟨name, word, is2⟩, hc2⟩ : ∃ q, cutS 61 one = q := ⟨_, rfl⟩
        have hst := parse_step rs one beh name word is is2 hc1 hc2
        have hl1 := cut_len 44 rs
        have hl2 := cut_len 61 one
        rw [hc1] at hl1
        rw [hc2] at hl2
        simp only at hl1 hl2
        rw [if_pos rfl] at hal
        have C1 := fun W => rcut_c rs 44 44 rfl (by omega) W
        have C2 := fun W => rcut_c one 61 61 rfl (by omega) W
        rw [hc1] at C1
        rw [hc2] at C2
        simp only at C1 C2
        have HC1 := Lib.hid C1
        have HC2 := Lib.hid C2
        have hfin : (acc ++ [(name, codeS word)]) ++ moreG is beh = pparseL s := by rw [← hac, List.append_assoc]; show acc ++ ((name, codeS word) :: moreG is beh) = acc ++ pparseL rs; rw [hst]
        have hb100 : beh.length ≤ 100 := by omega
        have hal2 : (acc ++ [(name, codeS word)]).length + (if is = true then beh.length + 1 else 0) ≤ 101 := by
          rw [List.length_append]; simp only [List.length_cons, List.length_nil]; cases is <;> simp at hl1 ⊢ <;> omega
        have hmeas : leftS (.bool is) (.string (text beh)) < leftS (.bool true) (.string (text rs)) := by
          cases is <;> simp [leftS, text_len] at hl1 ⊢ <;> omega
        have hacl : acc.length ≤ 1000000000 := by omega
        have HF := Lib.hid hfin
        have HB1 := Lib.hid hb100
        have HA := Lib.hid hal2
        have HM := Lib.hid hmeas
        have HO := Lib.hid ho
        have HB := Lib.hid hB
        have HAC := Lib.hid hacl
        clear hfin hb100 hal2 hmeas hacl C1 C2 hc1 hc2 hst hl1 hl2 hal hrl hac ho hB
        have hw1 : ((text word).toList == [108, 97, 115, 116]) = decide (word = [108, 97, 115, 116]) := by rw [text_list, Bool.eq_iff_iff]; simp
        have hw2 : ((text word).toList == [100, 101, 108, 101, 116, 101]) = decide (word = [100, 101, 108, 101, 116, 101]) := by rw [text_list, Bool.eq_iff_iff]; simp
        by_cases hwa : word = [108, 97, 115, 116]
        · have hwb : ¬ word = [100, 101, 108, 101, 116, 101] := by rw [hwa]; decide
          have HCO := Lib.hid (show codeS word = 1 by unfold codeS; rw [if_pos hwa])
          rw [decide_eq_true hwa] at hw1
          rw [decide_eq_false hwb] at hw2
          clear hwa hwb
          rw [HCO.out] at HF HA
          go_wp2_with (first
            | (go_at_call 56; (with_reducible refine (HC1.out _).mono ?_); rintro e w1 ⟨rfl, hb1⟩)
            | (go_at_call 56; (with_reducible refine (HC2.out _).mono ?_); rintro e w2 ⟨rfl, hb2⟩; have ho2 := (HO.out.kept hb1).kept hb2; have hs2 := Nat.le_trans HB.out.size (Nat.le_trans hb1.size hb2.size))
            | (at_builtin; go_loud (refine wpList_append_grp rfl (.tmp 35) (.tmp 39) rfl rfl ho2 name rfl rfl HAC.out hs2 ?_; intro v3 w3 ho3 hg3)))
          go_roundw
          case rel => exact ⟨_, beh, is, rfl, rfl, ho3, HF.out, HB1.out, HA.out, (((HB.out.trans (hb1.mono HB.out.size)).trans (hb2.mono (Nat.le_trans HB.out.size hb1.size))).alloc hs2 _).grown hg3 (by simp; omega) (fun k hk => (ho2.lt k hk).1)⟩
          case measure => exact HM.out
        · by_cases hwb : word = [100, 101, 108, 101, 116, 101]
          · have HCO := Lib.hid (show codeS word = 2 by unfold codeS; rw [if_neg hwa, if_pos hwb])
            rw [decide_eq_false hwa] at hw1
            rw [decide_eq_true hwb] at hw2
            clear hwa hwb
            rw [HCO.out] at HF HA
            go_wp2_with (first
              | (go_at_call 56; (with_reducible refine (HC1.out _).mono ?_); rintro e w1 ⟨rfl, hb1⟩)
              | (go_at_call 56; (with_reducible refine (HC2.out _).mono ?_); rintro e w2 ⟨rfl, hb2⟩; have ho2 := (HO.out.kept hb1).kept hb2; have hs2 := Nat.le_trans HB.out.size (Nat.le_trans hb1.size hb2.size))
              | (at_builtin; go_loud (refine wpList_append_grp rfl (.tmp 35) (.tmp 39) rfl rfl ho2 name rfl rfl HAC.out hs2 ?_; intro v3 w3 ho3 hg3)))
            go_roundw
            case rel => exact ⟨_, beh, is, rfl, rfl, ho3, HF.out, HB1.out, HA.out, (((HB.out.trans (hb1.mono HB.out.size)).trans (hb2.mono (Nat.le_trans HB.out.size hb1.size))).alloc hs2 _).grown hg3 (by simp; omega) (fun k hk => (ho2.lt k hk).1)⟩
            case measure => exact HM.out
          · have HCO := Lib.hid (show codeS word = 0 by unfold codeS; rw [if_neg hwa, if_neg hwb])
            rw [decide_eq_false hwa] at hw1
            rw [decide_eq_false hwb] at hw2
            clear hwa hwb
            rw [HCO.out] at HF HA
            go_wp2_with (first
              | (go_at_call 56; (with_reducible refine (HC1.out _).mono ?_); rintro e w1 ⟨rfl, hb1⟩)
              | (go_at_call 56; (with_reducible refine (HC2.out _).mono ?_); rintro e w2 ⟨rfl, hb2⟩; have ho2 := (HO.out.kept hb1).kept hb2; have hs2 := Nat.le_trans HB.out.size (Nat.le_trans hb1.size hb2.size))
              | (at_builtin; go_loud (refine wpList_append_grp rfl (.tmp 35) (.tmp 39) rfl rfl ho2 name rfl rfl HAC.out hs2 ?_; intro v3 w3 ho3 hg3)))
            go_roundw
            case rel => exact ⟨_, beh, is, rfl, rfl, ho3, HF.out, HB1.out, HA.out, (((HB.out.trans (hb1.mono HB.out.size)).trans (hb2.mono (Nat.le_trans HB.out.size hb1.size))).alloc hs2 _).grown hg3 (by simp; omega) (fun k hk => (ho2.lt k hk).1)⟩
            case measure => exact HM.out
      | false =>
        obtain rfl : acc = pparseL s := by rw [← hac]; simp [moreG]
        obtain ⟨a, cap, rfl, hg⟩ := ho.grs
        have hsl : s.length ≤ 100 := by have := HL.out; omega
        have hnm : ∀ g ∈ pparseL s, g.1.length ≤ 9223372036854775807 := fun g hgm => by have := HPL.out g hgm; omega
        have G := rpgood_c hg hnm
        have hsch := @schema_names (pparseL s)
        have HG0 := Lib.hid hg
        have HO := Lib.hid ho
        have HB := Lib.hid hB
        have hle := hg.le
        have hmx := hg.max
        obtain ⟨lp, hlp⟩ : ∃ q, pparseL s = q := ⟨_, rfl⟩
        rw [hlp] at G hsch HG0 HO HV hle ⊢
        obtain ⟨ln, hln⟩ : ∃ q, lp.length = q := ⟨_, rfl⟩
        have HLN := Lib.hid hln
        rw [hln] at G hsch HG0 HO hle ⊢
        obtain ⟨e, he⟩ : ∃ e, pgoodS lp = e := ⟨_, rfl⟩
        rw [he] at G hsch HV
        have HG := Lib.hid G
        clear ho hB hac hrl hal hg hnm G hlp he hsl HPL
        by_cases h0 : e = 0
        · subst h0
          obtain ⟨h1, h4, hnm⟩ := hsch rfl
          have hn12 : ∀ g ∈ lp, g.1.length ≤ 12 := fun g hg => (name_len (hnm g hg).1).2
          have HT := Lib.hid (fun W (h : Below wr.heap.size wr W) => rptext_c (HG0.out.below h) h4 hn12)
          have hcmp := text_same (ptextS lp) s
          by_cases hts : ptextS lp = s
          · have HR := Lib.hid (show pparseS s = (lp, 0) by rw [HV.out, if_pos ⟨rfl, hts⟩])
            rw [decide_eq_true hts] at hcmp
            clear hsch hnm hn12 hts HV
            go_wp2_with (first
              | (go_at_call 19; (with_reducible refine (HG.out).mono ?_); rintro e w1 ⟨rfl, hb1⟩)
              | (go_at_call 53; (with_reducible refine (HT.out _ hb1).mono ?_); rintro e w2 ⟨rfl, hb2⟩))
            go_ret2
            rw [HR.out]
            exact ⟨_, rfl, (HO.out.kept hb1).kept hb2, (HB.out.trans (hb1.mono HB.out.size)).trans (hb2.mono (Nat.le_trans HB.out.size hb1.size))⟩
          · have HR := Lib.hid (show pparseS s = ([], 11) by rw [HV.out, if_neg (fun h => hts h.2)])
            rw [decide_eq_false hts] at hcmp
            clear hsch hnm hn12 hts HV
            go_wp2_with (first
              | (go_at_call 19; (with_reducible refine (HG.out).mono ?_); rintro e w1 ⟨rfl, hb1⟩)
              | (go_at_call 53; (with_reducible refine (HT.out _ hb1).mono ?_); rintro e w2 ⟨rfl, hb2⟩))
            go_ret2
            rw [HR.out]
            exact ⟨_, rfl, OwnG.nil _ _, (HB.out.trans (hb1.mono HB.out.size)).trans (hb2.mono (Nat.le_trans HB.out.size hb1.size))⟩
        · have hne : (e != 0) = true := by simpa using h0
          have HR := Lib.hid (show pparseS s = ([], 11) by rw [HV.out, if_neg (fun h => h0 h.1)])
          clear hsch HV h0
          go_wp2_with (go_at_call 19; (with_reducible refine (HG.out).mono ?_); rintro e w1 ⟨rfl, hb1⟩)
          go_ret2
          rw [HR.out]
          exact ⟨_, rfl, OwnG.nil _ _, HB.out.trans (hb1.mono HB.out.size)⟩
end Go.Proofs.YtkhihfpdghjfmaaDoor
