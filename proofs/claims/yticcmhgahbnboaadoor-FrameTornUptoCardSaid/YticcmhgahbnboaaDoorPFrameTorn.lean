/-
  Proved: gemel/gemellaw03.FrameTorn answers true for every list of byte slices and every int that together hold at most 1048576 values and letters, and leaves its arguments as they were; the two tables of math/bits that its row lists hold what the program's text lays (the card ties them to a pruned copy of the project).
-/
import Derived.Test.YticcmhgahbnboaaDoorCards
import Derived.Test.YticcmhgahbnboaaDoorTie
import Derived.WalkKit
import Derived.ProofKit
import Derived.OpenShut
import Derived.ShutString
import Derived.ChangeOld
import Derived.Below
import Derived.SizedLaws
import Derived.Deep.DeepHandedRow
import Derived.Test.YticcmhgahbnboaaDoorTb
import Derived.Test.YticcmhgahbnboaaDoorTW
namespace Go.Proofs.YticcmhgahbnboaaDoor.frameTorn
open Go.ChangeShapes Go.WideShapes Go.ChangeAt Go.RowKit Go.Deep
set_option linter.unusedVariables false

theorem own : ownKnob Tryd.prog.godebug = none := by kernel_rfl
theorem laidOut : laidOutB Tryd.prog = true := by kernel_rfl

theorem bulk_lits {H : Type} (k : IntKind) (zs : List Int) : zs.length ≤ Rows.uptoBulkAll (lits k zs : List (DataW H)) := by
  induction zs with
  | nil => simp [lits]
  | cons z zs ih =>
    show zs.length + 1 ≤ Rows.uptoBulk _ + Rows.uptoBulkAll (lits k zs)
    simp only [Rows.uptoBulk]; omega
theorem bulk_append {H : Type} (l r : List (DataW H)) : Rows.uptoBulkAll (l ++ r) = Rows.uptoBulkAll l + Rows.uptoBulkAll r := by
  induction l with
  | nil => simp [Rows.uptoBulkAll]
  | cons x l ih => simp only [List.cons_append, Rows.uptoBulkAll, ih]; omega
theorem bulk_row {H : Type} (k : IntKind) (A : Option Addr) (L : Nat) (zs : List Int) (hL : L ≤ zs.length) (hA : A = none → L = 0) : L + 1 ≤ Rows.uptoBulk (intRow k A L zs : DataW H) := by
  cases A with
  | none => rw [hA rfl]; simp [intRow, Rows.uptoBulk]
  | some a =>
    have h := bulk_lits (H := H) k (zs.take L)
    rw [List.length_take] at h
    simp only [intRow, Rows.uptoBulk]
    omega
theorem bulk_rows {H : Type} (k : IntKind) (A : Nat → Option Addr) (L : Nat → Nat) (Z : Nat → List Int) (n : Nat) (h : ∀ r, r < n → L r ≤ (Z r).length ∧ (A r = none → L r = 0)) :
    ((List.range n).map L).sum + n ≤ Rows.uptoBulkAll ((List.range n).map fun r => (intRow k (A r) (L r) (Z r) : DataW H)) := by
  induction n with
  | zero => simp
  | succ n ih =>
    have h1 := ih (fun r hr => h r (by omega))
    obtain ⟨h2, h3⟩ := h n (by omega)
    have h4 := bulk_row (H := H) k (A n) (L n) (Z n) h2 h3
    rw [List.range_succ, List.map_append, List.sum_append, List.map_append, bulk_append]
    simp only [List.map_cons, List.map_nil, List.sum_cons, List.sum_nil, Rows.uptoBulkAll]
    omega
theorem lenSum_eq (bs : List (List UInt8)) (n : Nat) (L : Nat → Nat) (hn : bs.length = n) (h : ∀ r, r < n → (bs.getD r []).length = L r) : lenSum bs = ((List.range n).map L).sum := by
  unfold lenSum
  congr 1
  apply List.ext_getElem (by simp [hn])
  intro i h1 h2
  simp at h1 h2
  have := h i (by omega)
  rw [List.getD_eq_getElem?_getD, List.getElem?_eq_getElem h1, Option.getD_some] at this
  simp [this]

set_option maxRecDepth 100000 in
theorem contract (H : Type) (enc : TypeId × Value → H) (W : World) (base : Nat) (args : Array Value) (ds gs : List (DataW H)) (before : List MemPlace)
    (hval0 : ∀ (j : Nat) t v, Tryd.f7.params[j]? = some t → args[j]? = some v → Value.okWide Tryd.prog W .any base t v)
    (hW : DataW.Whole enc Tryd.prog Tryd.f7.params.toList Rows.frameTornSpec.vars false W args.toList ds gs before)
    (hk : Rows.uptoBulkAll ds ≤ 1048576)
    (hL : laidMetH Tryd.prog Rows.frameTornUptoRow.laid W) :
    Calls Tryd.prog 7 args W fun e W' => ∃ v, e = .returned v ∧ Rows.frameTornSpec.post enc Tryd.prog Tryd.f7 false true false false W args v W' := by
  have hT : TabW W := tabW_of_laid hL
  have hval : ∀ (j : Nat) t v, Tryd.f7.params[j]? = some t → args[j]? = some v → Value.okWide Tryd.prog W .any base t v := hval0
  have hW' := hW
  obtain ⟨p, q, hA0, hV, rfl, hfz, hnd⟩ := hW
  have hA : DataW.TrodAll enc Tryd.prog W 0 (fun _ => true) true Tryd.f7.params.toList args.toList ds p := hA0
  rw [Tryd.params7] at hA hval
  obtain ⟨v0, vs0, d0, ds0, p0, q0, hargs, rfl, rfl, h0, r0⟩ := trodAll_cons hA
  obtain ⟨v1, vs1, d1, ds1, p1, q1, rfl, rfl, rfl, h1, r1⟩ := trodAll_cons r0
  obtain ⟨rfl, rfl, rfl⟩ := trodAll_nil r1
  obtain rfl : args = #[v0, v1] := by cases args; simp_all
  obtain ⟨rfl, rfl⟩ := trodVars_none hV
  obtain ⟨a0, len0, cap0, rfl⟩ := okWide_slice Tryd.underlying31 (hval 0 31 v0 rfl rfl)
  have k0 := h0
  have lt0 : ∀ x ∈ p0, x.block < W.heap.size := by obtain ⟨m, hm⟩ := k0; exact DataW.trod_lt m _ _ _ hm
  obtain ⟨bs, hbs, _, hd, hdn⟩ := rws_of_open h0
  obtain ⟨a1, rfl, rfl, rfl, w1⟩ := open_int Tryd.underlying3 (hval 1 3 v1 rfl rfl) h1
  clear hA0 hval0
  have hsum : lenSum bs + len0 ≤ 1048576 := by
    simp only [Rows.uptoBulkAll] at hk
    rcases hd with hd | ⟨A, L, Z, spare, hd, hr⟩
    · obtain rfl := hdn hd
      obtain rfl := List.eq_nil_of_length_eq_zero hbs.len
      simp [lenSum]
    · rw [hd] at hk
      have := bulk_rows (H := H) .u8 A L Z len0 (fun r hr' => ⟨(hr r hr').1, (hr r hr').2.2⟩)
      rw [lenSum_eq bs len0 L hbs.len (fun r hr' => (hr r hr').2.1)]
      simp only [Rows.uptoBulk] at hk
      omega
  have hi := i64_of_wf w1
  refine (torn_walk hT hbs hsum a1 hi.1 hi.2).mono fun e W' ⟨he, bel⟩ => ?_
  subst he
  exact ⟨_, rfl, _, _, _, [], _, [], hW', trodAll_mk1 (shut_bool Tryd.underlying4 _), (trodAll_cons_mk (Below.trod laidOut (by kernel_rfl) (of_decide_eq_true (by kernel_rfl)) k0 bel lt0) (trodAll_cons_mk (shut_int Tryd.underlying3 w1) trodAll_mk0)), rfl, bel.frame _, fun h => by cases h⟩

theorem laid_met (os : Os) : laidMet Tryd.prog Rows.frameTornUptoRow.laid ((laidWorld os).forCall (fun _ _ => 0) ⟨#[], #[.slice none 0 0, .int .i64 0], []⟩).memory :=
  laidMet_of_run' 8 (by kernel_rfl) (by kernel_rfl)
theorem reads (os : Os) {H : Type} (enc : TypeId × Value → H) : ∃ places, DataW.whole enc Tryd.prog ((laidWorld os).forCall (fun _ _ => 0) ⟨#[], #[.slice none 0 0, .int .i64 0], []⟩).memory Tryd.f7.params.toList Rows.frameTornSpec.vars false (#[.slice none 0 0, .int .i64 0] : Array Value).toList 8 = some ([.nil, .lit (.int .i64 0)], [], places) :=
  ⟨[], by kernel_rfl⟩

set_option maxRecDepth 100000 in
theorem lifted (os : Os) (started : os.Started) (H : Type) (enc : TypeId × Value → H) (F : Stop.Interp) :
    ReturnsInHanded {} Tryd.checked os 7 .any ((Rows.OpenSpec.upto Rows.frameTornSpec).preRow enc Tryd.prog Tryd.f7 Rows.frameTornUptoRow.domain false Rows.frameTornUptoRow.laid) (((Rows.OpenSpec.upto Rows.frameTornSpec).at F).post enc Tryd.prog Tryd.f7 false true false false) := by
  obtain ⟨places, hx⟩ := reads os enc
  refine returnsInHanded_of_row (C := Tryd.checked) (s := Rows.OpenSpec.upto Rows.frameTornSpec) own started (by kernel_rfl) Tryd.func7
    (witness_row_at (enc := enc) (C := Tryd.checked) false (laidWorld os) #[.slice none 0 0, .int .i64 0] rfl (by kernel_rfl) (by kernel_rfl) (by kernel_rfl)
      (OpenSpec.preRow_of_cond 8 hx (by kernel_rfl) (fun k hk => by cases hk; kernel_rfl) (by kernel_rfl) (laid_met os))) ?_
  intro W base args ds gs before hval hW hc1 hc2 hsz hL _ _
  have hk := of_decide_eq_true (hc2 _ rfl)
  rw [bulk_append] at hk
  exact contract H enc W base args ds gs before hval hW (by omega) hL

theorem said : Rows.FrameTornUptoSaid :=
  OpenClaim.holds_of_cond 7 Tryd.f7 rfl rfl rfl rfl rfl rfl rfl ⟨rfl, rfl, rfl, rfl, rfl⟩ rfl rfl rfl rfl rfl (by kernel_rfl) Tryd.func7 (by kernel_rfl)
    (of_decide_eq_true (by kernel_rfl)) (by unfold Func.isWrapper; first | (rw [if_pos (by decide +kernel)]; kernel_rfl) | (rw [if_neg (by decide +kernel)]; exact ⟨rfl, rfl⟩))
    (fun os started H enc _ F => by rw [OpenClaim.pre_eq_preRow]; exact lifted os started H enc F)

theorem plain (f : FuncId) (fn : Func) (hf : Tryd.pinned.checked.prog.funcNamed "gemel/gemellaw03.FrameTorn" = some f) (hfn : Tryd.pinned.checked.prog.funcs[f]? = some fn) :
    false = Tryd.pinned.checked.prog.looks [] ∧ ∀ (j : Nat) t, fn.params[j]? = some t → Tryd.pinned.checked.prog.wantsStandIn t = false := by
  obtain rfl : f = 7 := Option.some.inj ((show Tryd.prog.funcNamed "gemel/gemellaw03.FrameTorn" = some 7 by kernel_rfl).symm.trans hf) |>.symm
  obtain rfl : fn = Tryd.f7 := (Option.some.inj (Tryd.func7.symm.trans hfn)).symm
  refine ⟨by kernel_rfl, fun j t ht => ?_⟩
  rw [Tryd.params7] at ht
  have hm := Array.mem_of_getElem? ht
  simp at hm
  first
    | (obtain rfl := hm; exact (show Tryd.prog.wantsStandIn _ = false by kernel_rfl))
    | (rcases hm with rfl | rfl <;> exact (show Tryd.prog.wantsStandIn _ = false by kernel_rfl))
    | (rcases hm with rfl | rfl | rfl <;> exact (show Tryd.prog.wantsStandIn _ = false by kernel_rfl))

theorem proved : Rows.FrameTornUptoCardSaid :=
  Claim7.holds_tied_plain_at .later [] _ _ _ _ said (fun _ h => by cases h) (by kernel_rfl) (fun _ h => by cases h) frameTornUpto_row_tie rfl ⟨rfl, rfl⟩ (by kernel_rfl) rfl plain (by kernel_rfl)
#print axioms proved
end Go.Proofs.YticcmhgahbnboaaDoor.frameTorn
