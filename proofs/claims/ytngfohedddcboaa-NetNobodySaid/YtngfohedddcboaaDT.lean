/-
  A REGION THAT DRAWS ITS ORDER, whose head's operations are told once each (as in DF), with a forced tail behind it (stores, appends). No program is named here.
-/
import Derived.Test.YtngfohedddcboaaDF
namespace Go.Proofs.Ytngfohedddcboaa
open Go Go.RowKit
set_option linter.unusedVariables false

section
variable {P : Program} {ops : Array Oper} {md : Region.Mode}

theorem count_set_one (l : List Bool) (i : Nat) (h : l[i]? = some false) : (l.set i true).count false + 1 = l.count false := by
  induction l generalizing i with
  | nil => simp at h
  | cons b l ih =>
    cases i with
    | zero =>
      have : b = false := by simpa using h
      subst this
      simp
    | succ i =>
      have := ih i (by simpa using h)
      cases b <;> simp <;> omega

def headDone (n m : Nat) : Array Bool := Array.replicate n true ++ Array.replicate m false
theorem headDone_of {n : Nat} {listed : Array Bool} (hn : n < ops.size) (inv : HeadInv md ops n listed) (hall : ∀ i, i < n → listed.getD i true = true) : listed = headDone n (ops.size - n) := by
  have hs := inv.size
  apply Array.ext
  · simp [headDone]; omega
  · intro i h1 h2
    by_cases hi : i < n
    · have := hall i hi
      simp only [Array.getD_eq_getD_getElem?, Array.getElem?_eq_getElem h1, Option.getD_some] at this
      rw [this]
      simp [headDone, hi]
    · have := inv.tail i (by omega) (by omega)
      simp only [Array.getD_eq_getD_getElem?, Array.getElem?_eq_getElem h1, Option.getD_some] at this
      rw [this]
      simp [headDone, Array.getElem_append, hi]

/-- How one operation of the head ends; those of 'Fr' leave what none of the others of 'Fr' has. -/
def FlowEndF (a : Act) (o : Oper) (R : World → World → Prop) (G : Nat → Value → World → Prop) (Fr : Nat → Prop) (i : Nat) (w : World) (e : Exit) (a' : Act) (w' : World) : Prop :=
  e = .normal ∧ ∃ v, a' = a.put o.dst v ∧ R w w' ∧ G i v w' ∧ (Fr i → ∀ j, Fr j → ∀ u, G j u w → u ≠ v)

theorem wpAny_flow_tail {Q : Exit → Act → World → Prop} (act : (Nat → Value) → Act) (R : World → World → Prop) (G : Nat → Value → World → Prop) (Fr : Nat → Prop) (w0 : World) (n : Nat) (l : List Oper) (hl : l.toArray = ops)
    (hn : n < ops.size) (hs : Region.sinkB md ops n = true) (hc : Region.chainB md ops n = true) (hseq : Region.seqB md ops (ops.size - n) n (headDone n (ops.size - n)) = true)
    (hR : ∀ a b c, R a b → R b c → R a c) (hG : ∀ i v w w', R w0 w → R w w' → G i v w → G i v w')
    (hwf : ∀ i o, ops[i]? = some o → i < n → ∀ e ∈ o.after, Region.binds md e = true → e.on < i)
    (hput : ∀ i o xs v, ops[i]? = some o → i < n → (act xs).put o.dst v = act (fun j => if j = i then v else xs j))
    (hop : ∀ i o, ops[i]? = some o → i < n → ∀ xs w, R w0 w → (∀ e ∈ o.after, Region.binds md e = true → G e.on (xs e.on) w) → wpList P ops (FlowEndF (act xs) o R G Fr i w) [o] (act xs) w)
    (hend : ∀ xs w, R w0 w → (∀ i, i < n → G i (xs i) w) → (∀ i j, i < n → j < n → i ≠ j → Fr i → Fr j → xs i ≠ xs j) → wpList P ops Q (l.drop n) (act xs) w) :
    ∀ (f : Nat) (listed : Array Bool) (xs : Nat → Value) (w : World), R w0 w → HeadInv md ops n listed → listed.toList.count false = f → (∀ i, i < n → listed.getD i true = true → G i (xs i) w) →
      (∀ i j, i < n → j < n → i ≠ j → Fr i → Fr j → listed.getD i true = true → listed.getD j true = true → xs i ≠ xs j) → wpAny P md ops Q f listed (act xs) w := by
  intro f
  induction f with
  | zero =>
    intro listed xs w hw inv hcn hg hfr
    exfalso
    have hsz := inv.size
    have h1 := inv.tail n (Nat.le_refl _) hn
    have h2 : n < listed.size := by omega
    simp only [Array.getD_eq_getD_getElem?, Array.getElem?_eq_getElem h2, Option.getD_some] at h1
    have : false ∈ listed.toList := by rw [← h1]; simp
    have := List.count_pos_iff.2 this
    omega
  | succ f ih =>
    intro listed xs w hw inv hcn hg hfr
    have hsz := inv.size
    by_cases hall : ∀ i, i < n → listed.getD i true = true
    · have hd := headDone_of hn inv hall
      have hcount : (headDone n (ops.size - n)).toList.count false = ops.size - n := by
        simp [headDone, List.count_replicate]
      rw [hd, hcount] at hcn
      have hlen : (l.drop n).length = ops.size - n := by rw [← hl]; simp
      have := wpAny_of_seq (P := P) (md := md) (ops := ops) (Q' := Q) (l.drop n) n (headDone n (ops.size - n)) (act xs) w (fun j => by rw [← hl]; simp [List.getElem?_drop]) (by rw [hlen]; exact hseq) (hend xs w hw (fun i hi => hg i hi (hall i hi)) fun i j hi hj hne fi fj => hfr i j hi hj hne fi fj (hall i hi) (hall j hj))
      rw [hlen] at this
      rw [hd]
      rw [hcn] at this ⊢
      exact this
    · have hex : ∃ i, i < n ∧ listed.getD i true = false := by
        apply Classical.byContradiction
        intro hne
        apply hall
        intro i hi
        cases hx : listed.getD i true with
        | true => rfl
        | false => exact absurd ⟨i, hi, hx⟩ hne
      refine ⟨fun hr => ?_, fun i hi => ?_⟩
      · exfalso
        apply hall
        intro i
        induction i using Nat.strongRecOn with
        | _ i ihi =>
          intro hi
          cases hlx : listed.getD i true with
          | true => rfl
          | false =>
            have hio : i < ops.size := by omega
            have : i ∈ Region.ready md ops listed := by
              refine mem_ready.2 ⟨hlx, ops[i], by simp [hio], fun e he hb => ?_⟩
              have hlt := hwf i ops[i] (by simp [hio]) hi e he hb
              have h1 := ihi e.on hlt (by omega)
              have h2 : e.on < listed.size := by omega
              simp only [Array.getD_eq_getD_getElem?, Array.getElem?_eq_getElem h2, Option.getD_some] at h1 ⊢
              exact h1
            rw [hr] at this
            cases this
      · obtain ⟨i0, hi0, hx0⟩ := hex
        have hin : i < n := Nat.lt_of_not_le fun h => tail_waits hs hc hn inv (n - i0) i0 rfl hi0 hx0 i h hi
        obtain ⟨hun, o, ho, hdep⟩ := mem_ready.1 hi
        have hilt := (Array.getElem?_eq_some_iff.1 ho).1
        refine wpOp_of_one ho (fun a' w' h => ?_) (fun e a' w' h => h.1) (hop i o ho hin xs w hw fun e he hb => ?_)
        · obtain ⟨_, v, rfl, hww, hv, hfv⟩ := h
          rw [hput i o xs v ho hin]
          refine ih _ _ w' (hR _ _ _ hw hww) (inv.set hi hin) ?_ (fun j hj hlj => ?_) fun j k hj hk hne fj fk lj lk => ?_
          · have h2 : i < listed.size := by omega
            have h3 : listed[i] = false := by simpa [Array.getD_eq_getD_getElem?, Array.getElem?_eq_getElem h2] using hun
            have := count_set_one listed.toList i (by simp [h2, h3])
            rw [Array.toList_setIfInBounds]
            omega
          · by_cases hji : j = i
            · subst hji
              simpa using hv
            · rw [getD_set_ne true (Ne.symm hji)] at hlj
              simp only [if_neg hji]
              exact hG j _ w w' hw hww (hg j hj hlj)
          · by_cases hji : j = i
            · subst hji
              rw [getD_set_ne true hne] at lk
              simp only [if_neg (Ne.symm hne)]
              exact (hfv fj k fk _ (hg k hk lk)).symm
            · rw [getD_set_ne true (Ne.symm hji)] at lj
              by_cases hki : k = i
              · subst hki
                simp only [if_neg hne]
                exact hfv fk j fj _ (hg j hj lj)
              · rw [getD_set_ne true (Ne.symm hki)] at lk
                simp only [if_neg hji, if_neg hki]
                exact hfr j k hj hk hne fj fk lj lk
        · have h1 := hdep e he hb
          have hlt := hwf i o ho hin e he hb
          refine hg e.on (by omega) ?_
          have h3 : e.on < listed.size := by omega
          simp only [Array.getD_eq_getD_getElem?, Array.getElem?_eq_getElem h3, Option.getD_some] at h1 ⊢
          exact h1

def flowTB (md : Region.Mode) (ops : Array Oper) (n : Nat) (srcs : List (Option Nat)) : Bool :=
  (List.range n).all fun i => ((ops[i]?).map (fun o => (o.after.all fun e => !Region.binds md e || decide (e.on < i)) &&
    (List.range srcs.length).all fun s => decide ((srcs.getD s none = some i) ↔ (o.dst = some s)))).getD true
theorem flowTB_take {l : List Oper} {n : Nat} {srcs : List (Option Nat)} (h : flowTB md l.toArray n srcs = true) : flowB md (l.take n).toArray srcs = true := by
  refine List.all_eq_true.2 fun i hi => ?_
  have hlt : i < (l.take n).length := by simpa using List.mem_range.1 hi
  have h1 := List.all_eq_true.1 h i (List.mem_range.2 (by simp at hlt; omega))
  have e : (l.take n).toArray[i]? = l.toArray[i]? := by simp [List.getElem?_take]; intro hh; simp at hlt; omega
  rw [e]
  exact h1

def flowOpsF (P : Program) (md : Region.Mode) (ops : Array Oper) (a : Act) (srcs : List (Option Nat)) (Gs : List (Value → World → Prop)) (Fr : Nat → Prop) (w0 : World) : List Oper → Nat → Prop
  | [], _ => True
  | o :: l, k => (∀ xs w, Below w0.heap.size w0 w → flowNeeds md Gs xs w o.after.toList → wpList P ops (FlowEndF (flowAct a srcs xs) o (fun x y => Below x.heap.size x y) (fun i => Gs.getD i fun _ _ => True) Fr k w) [o] (flowAct a srcs xs) w) ∧ flowOpsF P md ops a srcs Gs Fr w0 l (k + 1)
theorem flowOpsF_get {a : Act} {srcs : List (Option Nat)} {Gs : List (Value → World → Prop)} {Fr : Nat → Prop} {w0 : World} : ∀ (l : List Oper) (k : Nat), flowOpsF P md ops a srcs Gs Fr w0 l k → ∀ i o, l[i]? = some o →
    ∀ xs w, Below w0.heap.size w0 w → flowNeeds md Gs xs w o.after.toList → wpList P ops (FlowEndF (flowAct a srcs xs) o (fun x y => Below x.heap.size x y) (fun i => Gs.getD i fun _ _ => True) Fr (k + i) w) [o] (flowAct a srcs xs) w
  | [], _, _, i, o, h => by simp at h
  | o' :: l, k, hh, 0, o, h => by
    obtain rfl : o' = o := by simpa using h
    exact hh.1
  | o' :: l, k, hh, i + 1, o, h => by
    have := flowOpsF_get l (k + 1) hh.2 i o (by simpa using h)
    rwa [show k + 1 + i = k + (i + 1) by omega] at this

theorem wp_region_flow_tail {id : Nat} {Q : Exit → Act → World → Prop} {l : List Oper} {a : Act} {w : World} (n : Nat) (srcs : List (Option Nat)) (xs0 : Nat → Value) (Gs : List (Value → World → Prop)) (Fr : Nat → Prop) (hm : P.follows .mixedOrders = true)
    (hB : flowTB .any l.toArray n srcs = true) (hT : (decide (n < l.toArray.size) && Region.sinkB .any l.toArray n && Region.chainB .any l.toArray n && Region.seqB .any l.toArray (l.toArray.size - n) n (headDone n (l.toArray.size - n))) = true)
    (hl : a.tmps.size = srcs.length) (h0 : flowAct a srcs xs0 = a) (hn : Gs.length = n)
    (hG : ∀ g ∈ Gs, ∀ v x y, Below w.heap.size w x → Below x.heap.size x y → g v x → g v y)
    (hops : flowOpsF P .any l.toArray a srcs Gs Fr w (l.take n) 0)
    (hend : ∀ xs w', Below w.heap.size w w' → flowAll xs w' Gs 0 → (∀ i j, i < n → j < n → i ≠ j → Fr i → Fr j → xs i ≠ xs j) → wpList P l.toArray Q (l.drop n) (flowAct a srcs xs) w') : (Code.region id l.toArray true).wp P Q a w := by
  simp only [Bool.and_eq_true, decide_eq_true_eq] at hT
  obtain ⟨⟨⟨t1, t2⟩, t3⟩, t4⟩ := hT
  have hB' := flowTB_take hB
  have tk : ∀ i o, l.toArray[i]? = some o → i < n → (l.take n).toArray[i]? = some o := fun i o ho hi => by
    simp only [List.getElem?_toArray] at ho ⊢
    rw [List.getElem?_take, if_pos hi]
    exact ho
  refine wp_region_any hm ?_
  have := wpAny_flow_tail (P := P) (ops := l.toArray) (md := .any) (Q := Q) (flowAct a srcs) (fun x y => Below x.heap.size x y) (fun i => Gs.getD i fun _ _ => True) Fr w n l rfl t1 t2 t3 t4
    (fun a b c h1 h2 => h1.trans (h2.mono h1.size)) (fun i v x y h1 h2 h3 => ?_) (fun i o ho hi => (flowB_spec hB' (tk i o ho hi)).1) (fun i o xs v ho hi => flowAct_put hB' hl (tk i o ho hi) xs v)
    (fun i o ho hi xs x hx hn => by
      have := flowOpsF_get (l.take n) 0 hops i o (by simpa using tk i o ho hi) xs x hx (flowNeeds_of _ fun e he hb => hn e (by simpa using he) hb)
      rwa [Nat.zero_add] at this)
    (fun xs x hx hg hf => hend xs x hx (flowAll_of Gs 0 fun i hi => by rw [Nat.zero_add]; exact hg i (by omega)) hf)
    l.toArray.size (Array.replicate l.toArray.size false) xs0 { w with drawn := w.drawn + 1 } ⟨rfl, rfl, rfl, Nat.le_refl _, fun _ _ => rfl⟩
    ⟨by simp, fun j oj hj hl => (by rw [getD_replicate_false] at hl; cases hl), fun t _ ht => by
      rw [Array.getD_eq_getD_getElem?, Array.getElem?_eq_getElem (by simpa using ht)]; simp⟩ (by simp) (fun i hi hl => by
      exfalso
      rw [Array.getD_eq_getD_getElem?, Array.getElem?_eq_getElem (by simp at t1 ⊢; omega)] at hl
      simp at hl) (fun i j hi hj hne fi fj li lj => by
      exfalso
      rw [Array.getD_eq_getD_getElem?, Array.getElem?_eq_getElem (by simp at t1 ⊢; omega)] at li
      simp at li)
  · rwa [h0] at this
  · by_cases hi : i < Gs.length
    · have hm := List.getElem_mem hi
      rw [List.getD_eq_getElem?_getD, List.getElem?_eq_getElem hi] at h3 ⊢
      exact hG _ hm v x y h1 h2 h3
    · rw [List.getD_eq_getElem?_getD, List.getElem?_eq_none (by omega)]
      trivial
end
end Go.Proofs.Ytngfohedddcboaa
