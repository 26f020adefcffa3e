/-
  A REGION THAT DRAWS ITS ORDER INSIDE A FENCE (in a round of a range over a function, or in its iterator): the head's operations are told once each, whatever relation of worlds outlasts them; a forced tail stands behind it. No program is named here.
-/
import Derived.Test.YtkjpmdpljdgcjaaDT
import Derived.OrdersIn
import Derived.TacticsIn
namespace Go.Proofs.Ytkjpmdpljdgcjaa
open Go Go.RowKit
set_option linter.unusedVariables false

section
variable {F : Fence} {m : Nat} {P : Program} {ops : Array Oper} {md : Region.Mode}

theorem uponIn_weak {o : Oper} {a : Act} {K K' : Act → World → Prop} {Q Q' : Exit → Act → World → Prop} (hK : ∀ a w, K a w → K' a w) (hQ : ∀ e a w, Q e a w → e = .normal) (r : Result Next) (h : o.uponIn F m P a K Q r) : o.uponIn F m P a K' Q' r := by
  cases r with
  | ok x w' =>
    cases x with
    | value v => exact hK _ _ h
    | skip => exact hK _ _ h
    | defer d => exact hK _ _ h
    | enter f args => 
      refine ⟨h.1, CallsIn.mono h.2 fun e w'' he => ?_⟩
      cases e with
      | returned v => exact hK _ _ he
      | panicked c => exact absurd (hQ _ _ _ he) (by simp)
      | outgrown => exact absurd (hQ _ _ _ he.choose_spec.choose_spec) (by simp)
    | row r args => exact ⟨h.1, RowsIn.mono h.2 fun v w'' he => hK _ _ he⟩
    | round l f tmps assign body => 
      refine ⟨h.1, RoundIn.mono h.2 fun e w'' he => ?_⟩
      cases e with
      | returned v => exact hK _ _ he
      | panicked c => exact absurd (hQ _ _ _ he) (by simp)
      | outgrown => exact absurd (hQ _ _ _ he.choose_spec.choose_spec) (by simp)
    | _ => exact h
  | halt x w' =>
    cases x with
    | panic v => exact absurd (hQ _ _ _ h) (by simp)
    | _ => exact h
theorem wpOpIn_of_one {i : Nat} {o : Oper} {a : Act} {w : World} {K : Act → World → Prop} {Q Q' : Exit → Act → World → Prop} (ho : ops[i]? = some o) (hK : ∀ a w, Q' .normal a w → K a w) (hQ : ∀ e a w, Q' e a w → e = .normal)
    (h : wpListIn F m P ops Q' [o] a w) : wpOpIn F m P ops Q i K a w := by
  unfold wpOpIn
  simp only [ho]
  unfold wpListIn at h
  split
  · rename_i hw
    rw [if_pos hw] at h
    exact ⟨h.1, uponIn_weak (fun a w h => hK a w h) hQ _ h.2⟩
  · rename_i hw
    rw [if_neg hw] at h
    exact ⟨h.1, hK _ _ h.2⟩
theorem wpAnyIn_of_seq {n : Nat} {Q' : Exit → Act → World → Prop} : ∀ (l : List Oper) (k : Nat) (listed : Array Bool) (a : Act) (w : World), (∀ j, l[j]? = ops[k + j]?) →
    Region.seqB md ops l.length k listed = true → wpListIn F n P ops Q' l a w → wpAnyIn F n P md ops Q' l.length listed a w
  | [], _, _, _, _, _, hB, h => ⟨by simpa [Region.seqB] using hB, h⟩
  | o :: l, k, listed, a, w, hl, hB, h => by
    have h0 : ops[k]? = some o := by simpa using (hl 0).symm
    simp only [List.length_cons, Region.seqB, Bool.and_eq_true, decide_eq_true_eq] at hB
    refine ⟨fun h1 => (by rw [hB.1] at h1; cases h1), fun i hi => ?_⟩
    rw [hB.1] at hi
    have hik : i = k := by simpa using hi
    subst hik
    have hw : wpOpIn F n P ops Q' i (wpListIn F n P ops Q' l) a w := by unfold wpOpIn; simp only [h0]; exact h
    exact wpOpIn_mono (fun a' w' h' => wpAnyIn_of_seq l (i + 1) _ a' w' (fun j => by have := hl (j + 1); simpa [Nat.add_assoc, Nat.add_comm 1 j] using this) hB.2 h') hw

theorem wpAnyIn_flow_tail {Q : Exit → Act → World → Prop} (act : (Nat → Value) → Act) (R : World → World → Prop) (G : Nat → Value → World → Prop) (Fr : Nat → Prop) (w0 : World) (n : Nat) (l : List Oper) (hl : l.toArray = ops)
    (hn : n < ops.size) (hs : Region.sinkB md ops n = true) (hc : Region.chainB md ops n = true) (hseq : Region.seqB md ops (ops.size - n) n (headDone n (ops.size - n)) = true)
    (hR : ∀ a b c, R a b → R b c → R a c) (hG : ∀ i v w w', R w0 w → R w w' → G i v w → G i v w')
    (hwf : ∀ i o, ops[i]? = some o → i < n → ∀ e ∈ o.after, Region.binds md e = true → e.on < i)
    (hput : ∀ i o xs v, ops[i]? = some o → i < n → (act xs).put o.dst v = act (fun j => if j = i then v else xs j))
    (hop : ∀ i o, ops[i]? = some o → i < n → ∀ xs w, R w0 w → (∀ e ∈ o.after, Region.binds md e = true → G e.on (xs e.on) w) → wpListIn F m P ops (FlowEndF (act xs) o R G Fr i w) [o] (act xs) w)
    (hend : ∀ xs w, R w0 w → (∀ i, i < n → G i (xs i) w) → (∀ i j, i < n → j < n → i ≠ j → Fr i → Fr j → xs i ≠ xs j) → wpListIn F m P ops Q (l.drop n) (act xs) w) :
    ∀ (f : Nat) (listed : Array Bool) (xs : Nat → Value) (w : World), R w0 w → HeadInv md ops n listed → listed.toList.count false = f → (∀ i, i < n → listed.getD i true = true → G i (xs i) w) →
      (∀ i j, i < n → j < n → i ≠ j → Fr i → Fr j → listed.getD i true = true → listed.getD j true = true → xs i ≠ xs j) → wpAnyIn F m P md ops Q f listed (act xs) w := by
  intro f
  induction f with
  | zero =>
    intro listed xs w hw inv hcn hg hfr
    exfalso
    have hsz := inv.size
    have h1 := inv.tail n (Nat.le_refl _) hn
    have h2 : n < listed.size := by omega
    simp only [Array.getD_eq_getD_getElem?, Array.getElem?_eq_getElem h2, Option.getD_some] at h1
    have : false ∈ listed.toList := by rw [← h1]; simp
    have := List.count_pos_iff.2 this
    omega
  | succ f ih =>
    intro listed xs w hw inv hcn hg hfr
    have hsz := inv.size
    by_cases hall : ∀ i, i < n → listed.getD i true = true
    · have hd := headDone_of hn inv hall
      have hcount : (headDone n (ops.size - n)).toList.count false = ops.size - n := by
        simp [headDone, List.count_replicate]
      rw [hd, hcount] at hcn
      have hlen : (l.drop n).length = ops.size - n := by rw [← hl]; simp
      have := wpAnyIn_of_seq (F := F) (n := m) (P := P) (md := md) (ops := ops) (Q' := Q) (l.drop n) n (headDone n (ops.size - n)) (act xs) w (fun j => by rw [← hl]; simp [List.getElem?_drop]) (by rw [hlen]; exact hseq) (hend xs w hw (fun i hi => hg i hi (hall i hi)) fun i j hi hj hne fi fj => hfr i j hi hj hne fi fj (hall i hi) (hall j hj))
      rw [hlen] at this
      rw [hd]
      rw [hcn] at this ⊢
      exact this
    · have hex : ∃ i, i < n ∧ listed.getD i true = false := by
        apply Classical.byContradiction
        intro hne
        apply hall
        intro i hi
        cases hx : listed.getD i true with
        | true => rfl
        | false => exact absurd ⟨i, hi, hx⟩ hne
      refine ⟨fun hr => ?_, fun i hi => ?_⟩
      · exfalso
        apply hall
        intro i
        induction i using Nat.strongRecOn with
        | _ i ihi =>
          intro hi
          cases hlx : listed.getD i true with
          | true => rfl
          | false =>
            have hio : i < ops.size := by omega
            have : i ∈ Region.ready md ops listed := by
              refine mem_ready.2 ⟨hlx, ops[i], by simp [hio], fun e he hb => ?_⟩
              have hlt := hwf i ops[i] (by simp [hio]) hi e he hb
              have h1 := ihi e.on hlt (by omega)
              have h2 : e.on < listed.size := by omega
              simp only [Array.getD_eq_getD_getElem?, Array.getElem?_eq_getElem h2, Option.getD_some] at h1 ⊢
              exact h1
            rw [hr] at this
            cases this
      · obtain ⟨i0, hi0, hx0⟩ := hex
        have hin : i < n := Nat.lt_of_not_le fun h => tail_waits hs hc hn inv (n - i0) i0 rfl hi0 hx0 i h hi
        obtain ⟨hun, o, ho, hdep⟩ := mem_ready.1 hi
        have hilt := (Array.getElem?_eq_some_iff.1 ho).1
        refine wpOpIn_of_one ho (fun a' w' h => ?_) (fun e a' w' h => h.1) (hop i o ho hin xs w hw fun e he hb => ?_)
        · obtain ⟨_, v, rfl, hww, hv, hfv⟩ := h
          rw [hput i o xs v ho hin]
          refine ih _ _ w' (hR _ _ _ hw hww) (inv.set hi hin) ?_ (fun j hj hlj => ?_) fun j k hj hk hne fj fk lj lk => ?_
          · have h2 : i < listed.size := by omega
            have h3 : listed[i] = false := by simpa [Array.getD_eq_getD_getElem?, Array.getElem?_eq_getElem h2] using hun
            have := count_set_one listed.toList i (by simp [h2, h3])
            rw [Array.toList_setIfInBounds]
            omega
          · by_cases hji : j = i
            · subst hji
              simpa using hv
            · rw [getD_set_ne true (Ne.symm hji)] at hlj
              simp only [if_neg hji]
              exact hG j _ w w' hw hww (hg j hj hlj)
          · by_cases hji : j = i
            · subst hji
              rw [getD_set_ne true hne] at lk
              simp only [if_neg (Ne.symm hne)]
              exact (hfv fj k fk _ (hg k hk lk)).symm
            · rw [getD_set_ne true (Ne.symm hji)] at lj
              by_cases hki : k = i
              · subst hki
                simp only [if_neg hne]
                exact hfv fk j fj _ (hg j hj lj)
              · rw [getD_set_ne true (Ne.symm hki)] at lk
                simp only [if_neg hji, if_neg hki]
                exact hfr j k hj hk hne fj fk lj lk
        · have h1 := hdep e he hb
          have hlt := hwf i o ho hin e he hb
          refine hg e.on (by omega) ?_
          have h3 : e.on < listed.size := by omega
          simp only [Array.getD_eq_getD_getElem?, Array.getElem?_eq_getElem h3, Option.getD_some] at h1 ⊢
          exact h1

def flowOpsI (F : Fence) (m : Nat) (P : Program) (md : Region.Mode) (ops : Array Oper) (a : Act) (srcs : List (Option Nat)) (Gs : List (Value → World → Prop)) (Fr : Nat → Prop) (R : World → World → Prop) (w0 : World) : List Oper → Nat → Prop
  | [], _ => True
  | o :: l, k => (∀ xs w, R w0 w → flowNeeds md Gs xs w o.after.toList → wpListIn F m P ops (FlowEndF (flowAct a srcs xs) o R (fun i => Gs.getD i fun _ _ => True) Fr k w) [o] (flowAct a srcs xs) w) ∧ flowOpsI F m P md ops a srcs Gs Fr R w0 l (k + 1)
theorem flowOpsI_get {a : Act} {srcs : List (Option Nat)} {Gs : List (Value → World → Prop)} {Fr : Nat → Prop} {R : World → World → Prop} {w0 : World} : ∀ (l : List Oper) (k : Nat), flowOpsI F m P md ops a srcs Gs Fr R w0 l k → ∀ i o, l[i]? = some o →
    ∀ xs w, R w0 w → flowNeeds md Gs xs w o.after.toList → wpListIn F m P ops (FlowEndF (flowAct a srcs xs) o R (fun i => Gs.getD i fun _ _ => True) Fr (k + i) w) [o] (flowAct a srcs xs) w
  | [], _, _, i, o, h => by simp at h
  | o' :: l, k, hh, 0, o, h => by
    obtain rfl : o' = o := by simpa using h
    exact hh.1
  | o' :: l, k, hh, i + 1, o, h => by
    have := flowOpsI_get l (k + 1) hh.2 i o (by simpa using h)
    rwa [show k + 1 + i = k + (i + 1) by omega] at this

theorem wpIn_region_flow {id : Nat} {Q : Exit → Act → World → Prop} {l : List Oper} {a : Act} {w : World} (R : World → World → Prop) (n : Nat) (srcs : List (Option Nat)) (xs0 : Nat → Value) (Gs : List (Value → World → Prop)) (Fr : Nat → Prop) (hm : P.follows .mixedOrders = true)
    (hB : flowTB .any l.toArray n srcs = true) (hT : (decide (n < l.toArray.size) && Region.sinkB .any l.toArray n && Region.chainB .any l.toArray n && Region.seqB .any l.toArray (l.toArray.size - n) n (headDone n (l.toArray.size - n))) = true)
    (hl : a.tmps.size = srcs.length) (h0 : flowAct a srcs xs0 = a) (hn : Gs.length = n)
    (hR : ∀ a b c, R a b → R b c → R a c) (hR0 : R w { w with drawn := w.drawn + 1 }) (hG : ∀ g ∈ Gs, ∀ v x y, R w x → R x y → g v x → g v y)
    (hops : flowOpsI F m P .any l.toArray a srcs Gs Fr R w (l.take n) 0)
    (hend : ∀ xs w', R w w' → flowAll xs w' Gs 0 → (∀ i j, i < n → j < n → i ≠ j → Fr i → Fr j → xs i ≠ xs j) → wpListIn F m P l.toArray Q (l.drop n) (flowAct a srcs xs) w') : (Code.region id l.toArray true).wpIn F m P Q a w := by
  simp only [Bool.and_eq_true, decide_eq_true_eq] at hT
  obtain ⟨⟨⟨t1, t2⟩, t3⟩, t4⟩ := hT
  have hB' := flowTB_take hB
  have tk : ∀ i o, l.toArray[i]? = some o → i < n → (l.take n).toArray[i]? = some o := fun i o ho hi => by
    simp only [List.getElem?_toArray] at ho ⊢
    rw [List.getElem?_take, if_pos hi]
    exact ho
  refine wpIn_region_any hm ?_
  have := wpAnyIn_flow_tail (F := F) (m := m) (P := P) (ops := l.toArray) (md := .any) (Q := Q) (flowAct a srcs) R (fun i => Gs.getD i fun _ _ => True) Fr w n l rfl t1 t2 t3 t4
    hR (fun i v x y h1 h2 h3 => ?_) (fun i o ho hi => (flowB_spec hB' (tk i o ho hi)).1) (fun i o xs v ho hi => flowAct_put hB' hl (tk i o ho hi) xs v)
    (fun i o ho hi xs x hx hn => by
      have := flowOpsI_get (l.take n) 0 hops i o (by simpa using tk i o ho hi) xs x hx (flowNeeds_of _ fun e he hb => hn e (by simpa using he) hb)
      rwa [Nat.zero_add] at this)
    (fun xs x hx hg hf => hend xs x hx (flowAll_of Gs 0 fun i hi => by rw [Nat.zero_add]; exact hg i (by omega)) hf)
    l.toArray.size (Array.replicate l.toArray.size false) xs0 { w with drawn := w.drawn + 1 } hR0
    ⟨by simp, fun j oj hj hl => (by rw [getD_replicate_false] at hl; cases hl), fun t _ ht => by
      rw [Array.getD_eq_getD_getElem?, Array.getElem?_eq_getElem (by simpa using ht)]; simp⟩ (by simp) (fun i hi hl => by
      exfalso
      rw [Array.getD_eq_getD_getElem?, Array.getElem?_eq_getElem (by simp at t1 ⊢; omega)] at hl
      simp at hl) (fun i j hi hj hne fi fj li lj => by
      exfalso
      rw [Array.getD_eq_getD_getElem?, Array.getElem?_eq_getElem (by simp at t1 ⊢; omega)] at li
      simp at li)
  · rwa [h0] at this
  · by_cases hi : i < Gs.length
    · have hm := List.getElem_mem hi
      rw [List.getD_eq_getElem?_getD, List.getElem?_eq_getElem hi] at h3 ⊢
      exact hG _ hm v x y h1 h2 h3
    · rw [List.getD_eq_getElem?_getD, List.getElem?_eq_none (by omega)]
      trivial
end
end Go.Proofs.Ytkjpmdpljdgcjaa
