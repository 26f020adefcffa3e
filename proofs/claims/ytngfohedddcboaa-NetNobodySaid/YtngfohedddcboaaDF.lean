/-
  A REGION THAT DRAWS ITS ORDER, whatever its operations do: each of them told once, by what it needs of those it waits for and by what it leaves; what is told must outlast the others. No program is named here.
-/
import Derived.Test.YtngfohedddcboaaHT
namespace Go.Proofs.Ytngfohedddcboaa
open Go Go.RowKit
set_option linter.unusedVariables false

section
variable {P : Program} {ops : Array Oper} {md : Region.Mode}

theorem upon_weak {o : Oper} {a : Act} {K K' : Act → World → Prop} {Q Q' : Exit → Act → World → Prop} (hK : ∀ a w, K a w → K' a w) (hQ : ∀ e a w, Q e a w → e = .normal) (r : Result Next) (h : o.upon P a K Q r) : o.upon P a K' Q' r := by
  cases r with
  | ok n w' =>
    cases n with
    | value v => exact hK _ _ h
    | skip => exact hK _ _ h
    | defer d => exact hK _ _ h
    | enter f args =>
      refine Calls.mono h fun e w'' he => ?_
      cases e with
      | returned v => exact hK _ _ he
      | panicked c => exact absurd (hQ _ _ _ he) (by simp)
      | outgrown => exact absurd (hQ _ _ _ he.choose_spec.choose_spec) (by simp)
    | row r args => exact Rows.mono h fun v w'' he => hK _ _ he
    | _ => exact h
  | halt x w' =>
    cases x with
    | panic v => exact absurd (hQ _ _ _ h) (by simp)
    | _ => exact h
theorem wpOp_of_one {i : Nat} {o : Oper} {a : Act} {w : World} {K : Act → World → Prop} {Q Q' : Exit → Act → World → Prop} (ho : ops[i]? = some o) (hK : ∀ a w, Q' .normal a w → K a w) (hQ : ∀ e a w, Q' e a w → e = .normal)
    (h : wpList P ops Q' [o] a w) : wpOp P ops Q i K a w := by
  unfold wpOp
  simp only [ho]
  unfold wpList at h
  split
  · rename_i hw
    rw [if_pos hw] at h
    rcases h with h | ⟨_, a', w', h⟩
    · left
      exact upon_weak (fun a w h => hK a w h) hQ _ h
    · exact absurd (hQ _ _ _ h) (by simp)
  · rename_i hw
    rw [if_neg hw] at h
    exact hK _ _ h

/-- How one operation ends. -/
def FlowEnd (a : Act) (o : Oper) (R : World → World → Prop) (g : Value → World → Prop) (w : World) (e : Exit) (a' : Act) (w' : World) : Prop :=
  e = .normal ∧ ∃ v, a' = a.put o.dst v ∧ R w w' ∧ g v w'

theorem count_set_lt (l : List Bool) (i : Nat) (h : l[i]? = some false) : (l.set i true).count false < l.count false := by
  induction l generalizing i with
  | nil => simp at h
  | cons b l ih =>
    cases i with
    | zero =>
      have : b = false := by simpa using h
      subst this
      simp
    | succ i =>
      have := ih i (by simpa using h)
      cases b <;> simp <;> omega

theorem wpAny_flow {Q : Exit → Act → World → Prop} (act : (Nat → Value) → Act) (R : World → World → Prop) (G : Nat → Value → World → Prop) (w0 : World)
    (hR : ∀ a b c, R a b → R b c → R a c) (hG : ∀ i v w w', R w0 w → R w w' → G i v w → G i v w')
    (hwf : ∀ i o, ops[i]? = some o → ∀ e ∈ o.after, Region.binds md e = true → e.on < i)
    (hput : ∀ i o xs v, ops[i]? = some o → (act xs).put o.dst v = act (fun j => if j = i then v else xs j))
    (hop : ∀ i o, ops[i]? = some o → ∀ xs w, R w0 w → (∀ e ∈ o.after, Region.binds md e = true → G e.on (xs e.on) w) → wpList P ops (FlowEnd (act xs) o R (G i) w) [o] (act xs) w)
    (hend : ∀ xs w, R w0 w → (∀ i, i < ops.size → G i (xs i) w) → Q .normal (act xs) w) :
    ∀ (f : Nat) (listed : Array Bool) (xs : Nat → Value) (w : World), R w0 w → listed.size = ops.size → listed.toList.count false ≤ f → (∀ i, i < ops.size → listed.getD i true = true → G i (xs i) w) → wpAny P md ops Q f listed (act xs) w := by
  have hnone : ∀ (listed : Array Bool), listed.size = ops.size → Region.ready md ops listed = [] → ∀ i, i < ops.size → listed.getD i true = true := by
    intro listed hs hr i
    induction i using Nat.strongRecOn with
    | _ i ih =>
      intro hi
      cases hl : listed.getD i true with
      | true => rfl
      | false =>
        have : i ∈ Region.ready md ops listed := by
          refine mem_ready.2 ⟨hl, ops[i], by simp [hi], fun e he hb => ?_⟩
          have hlt := hwf i ops[i] (by simp [hi]) e he hb
          have h1 := ih e.on hlt (by omega)
          have h2 : e.on < listed.size := by omega
          simp only [Array.getD_eq_getD_getElem?, Array.getElem?_eq_getElem h2, Option.getD_some] at h1 ⊢
          exact h1
        rw [hr] at this
        cases this
  intro f
  induction f with
  | zero =>
    intro listed xs w hw hs hc hg
    have hall : ∀ i, i < ops.size → listed.getD i true = true := by
      intro i hi
      cases hl : listed.getD i true with
      | true => rfl
      | false =>
        have h2 : i < listed.size := by omega
        have h3 : listed[i] = false := by simpa [Array.getD_eq_getD_getElem?, Array.getElem?_eq_getElem h2] using hl
        have : false ∈ listed.toList := by rw [← h3]; simp
        have := List.count_pos_iff.2 this
        omega
    refine ⟨?_, hend xs w hw fun i hi => hg i hi (hall i hi)⟩
    cases hr : Region.ready md ops listed with
    | nil => rfl
    | cons i r =>
      have hm : i ∈ Region.ready md ops listed := by rw [hr]; simp
      obtain ⟨hun, o, ho, _⟩ := mem_ready.1 hm
      have := hall i (Array.getElem?_eq_some_iff.1 ho).1
      rw [hun] at this
      cases this
  | succ f ih =>
    intro listed xs w hw hs hc hg
    refine ⟨fun hr => hend xs w hw fun i hi => hg i hi (hnone listed hs hr i hi), fun i hi => ?_⟩
    obtain ⟨hun, o, ho, hall⟩ := mem_ready.1 hi
    have hilt := (Array.getElem?_eq_some_iff.1 ho).1
    refine wpOp_of_one ho (fun a' w' h => ?_) (fun e a' w' h => h.1) (hop i o ho xs w hw fun e he hb => ?_)
    · obtain ⟨_, v, rfl, hww, hv⟩ := h
      rw [hput i o xs v ho]
      refine ih _ _ w' (hR _ _ _ hw hww) (by simpa using hs) ?_ fun j hj hl => ?_
      · have h2 : i < listed.size := by omega
        have h3 : listed[i] = false := by simpa [Array.getD_eq_getD_getElem?, Array.getElem?_eq_getElem h2] using hun
        have := count_set_lt listed.toList i (by simp [h2, h3])
        rw [Array.toList_setIfInBounds]
        omega
      · by_cases hji : j = i
        · subst hji
          simpa using hv
        · rw [getD_set_ne true (Ne.symm hji)] at hl
          simp only [if_neg hji]
          exact hG j _ w w' hw hww (hg j hj hl)
    · have h1 := hall e he hb
      have h2 : e.on < ops.size := by have := hwf i o ho e he hb; omega
      refine hg e.on h2 ?_
      have h3 : e.on < listed.size := by omega
      simp only [Array.getD_eq_getD_getElem?, Array.getElem?_eq_getElem h3, Option.getD_some] at h1 ⊢
      exact h1

/-- What is known of the slots: those that the region writes have the values 'xs'. -/
def flowAct (a : Act) (srcs : List (Option Nat)) (xs : Nat → Value) : Act :=
  { a with tmps := (List.zipWith (fun t s => match s with | some i => xs i | none => t) a.tmps.toList srcs).toArray }
def flowB (md : Region.Mode) (ops : Array Oper) (srcs : List (Option Nat)) : Bool :=
  (List.range ops.size).all fun i => ((ops[i]?).map (fun o => (o.after.all fun e => !Region.binds md e || decide (e.on < i)) &&
    (List.range srcs.length).all fun s => decide ((srcs.getD s none = some i) ↔ (o.dst = some s)))).getD true
theorem flowB_spec {srcs : List (Option Nat)} (h : flowB md ops srcs = true) {i : Nat} {o : Oper} (ho : ops[i]? = some o) :
    (∀ e ∈ o.after, Region.binds md e = true → e.on < i) ∧ ∀ s, s < srcs.length → (srcs.getD s none = some i ↔ o.dst = some s) := by
  have h1 := List.all_eq_true.1 h i (List.mem_range.2 (Array.getElem?_eq_some_iff.1 ho).1)
  simp only [ho, Option.map_some, Option.getD_some, Bool.and_eq_true] at h1
  refine ⟨fun e he hb => ?_, fun s hs => ?_⟩
  · have h2 := (Array.all_eq_true_iff_forall_mem.1 h1.1) e he
    simpa [hb] using h2
  · have h2 := List.all_eq_true.1 h1.2 s (List.mem_range.2 hs)
    simpa using h2
theorem flowAct_put {a : Act} {srcs : List (Option Nat)} (hB : flowB md ops srcs = true) (hl : a.tmps.size = srcs.length) {i : Nat} {o : Oper} (ho : ops[i]? = some o) (xs : Nat → Value) (v : Value) :
    (flowAct a srcs xs).put o.dst v = flowAct a srcs (fun j => if j = i then v else xs j) := by
  have hs := (flowB_spec hB ho).2
  have key : ∀ (d : Option Tmp), o.dst = d → (match d with | some d => { flowAct a srcs xs with tmps := (flowAct a srcs xs).tmps.setIfInBounds d v } | none => flowAct a srcs xs) = flowAct a srcs (fun j => if j = i then v else xs j) := by
    intro d hd
    cases d with
    | none =>
      simp only [flowAct]
      congr 2
      apply List.ext_getElem?
      intro s
      simp only [List.getElem?_zipWith]
      by_cases hlt : s < srcs.length
      · have h1 := hs s hlt
        rw [hd] at h1
        have h2 : ¬ srcs.getD s none = some i := fun h => by cases h1.1 h
        rw [List.getElem?_eq_getElem hlt]
        rw [List.getD_eq_getElem?_getD, List.getElem?_eq_getElem hlt] at h2
        simp only [Option.getD_some] at h2
        cases a.tmps.toList[s]? with
        | none => rfl
        | some t =>
          cases hx : srcs[s] with
          | none => rfl
          | some j =>
            rw [hx] at h2
            have : j ≠ i := fun h => h2 (by rw [h])
            simp [this]
      · rw [List.getElem?_eq_none (l := srcs) (by omega)]
        cases a.tmps.toList[s]? <;> rfl
    | some d =>
      simp only [flowAct, List.setIfInBounds_toArray]
      congr 2
      apply List.ext_getElem?
      intro s
      by_cases hlt : s < srcs.length
      · have h1 := hs s hlt
        rw [hd] at h1
        have hta : s < a.tmps.toList.length := by simpa [hl] using hlt
        rw [List.getD_eq_getElem?_getD, List.getElem?_eq_getElem hlt] at h1
        simp only [Option.getD_some] at h1
        by_cases hsd : d = s
        · subst hsd
          rw [List.getElem?_set_self (by rw [List.length_zipWith]; exact Nat.lt_min.2 ⟨hta, hlt⟩)]
          rw [List.getElem?_zipWith, List.getElem?_eq_getElem hlt, List.getElem?_eq_getElem hta]
          simp [h1.2 rfl]
        · rw [List.getElem?_set_ne hsd]
          simp only [List.getElem?_zipWith, List.getElem?_eq_getElem hlt, List.getElem?_eq_getElem hta]
          cases hx : srcs[s] with
          | none => rfl
          | some j =>
            rw [hx] at h1
            have : j ≠ i := fun h => hsd (by have := h1.1 (by rw [h]); simpa using this)
            simp [this]
      · rw [List.getElem?_eq_none (by simp; omega), List.getElem?_eq_none (by simp; omega)]
  have := key o.dst rfl
  unfold Act.put
  exact this

def flowNeeds (md : Region.Mode) (Gs : List (Value → World → Prop)) (xs : Nat → Value) (w : World) : List Edge → Prop
  | [] => True
  | e :: l => (Region.binds md e = true → (Gs.getD e.on fun _ _ => True) (xs e.on) w) ∧ flowNeeds md Gs xs w l
def flowOps (P : Program) (md : Region.Mode) (ops : Array Oper) (a : Act) (srcs : List (Option Nat)) (Gs : List (Value → World → Prop)) (w0 : World) : List Oper → Nat → Prop
  | [], _ => True
  | o :: l, k => (∀ xs w, Below w0.heap.size w0 w → flowNeeds md Gs xs w o.after.toList → wpList P ops (FlowEnd (flowAct a srcs xs) o (fun x y => Below x.heap.size x y) (Gs.getD k fun _ _ => True) w) [o] (flowAct a srcs xs) w) ∧ flowOps P md ops a srcs Gs w0 l (k + 1)
def flowAll (xs : Nat → Value) (w : World) : List (Value → World → Prop) → Nat → Prop
  | [], _ => True
  | g :: l, k => g (xs k) w ∧ flowAll xs w l (k + 1)
theorem flowNeeds_of {Gs : List (Value → World → Prop)} {xs : Nat → Value} {w : World} : ∀ (l : List Edge), (∀ e ∈ l, Region.binds md e = true → (Gs.getD e.on fun _ _ => True) (xs e.on) w) → flowNeeds md Gs xs w l
  | [], _ => trivial
  | e :: l, h => ⟨h e (by simp), flowNeeds_of l fun e' he => h e' (by simp [he])⟩
theorem flowOps_get {a : Act} {srcs : List (Option Nat)} {Gs : List (Value → World → Prop)} {w0 : World} : ∀ (l : List Oper) (k : Nat), flowOps P md ops a srcs Gs w0 l k → ∀ i o, l[i]? = some o →
    ∀ xs w, Below w0.heap.size w0 w → flowNeeds md Gs xs w o.after.toList → wpList P ops (FlowEnd (flowAct a srcs xs) o (fun x y => Below x.heap.size x y) (Gs.getD (k + i) fun _ _ => True) w) [o] (flowAct a srcs xs) w
  | [], _, _, i, o, h => by simp at h
  | o' :: l, k, hh, 0, o, h => by
    obtain rfl : o' = o := by simpa using h
    exact hh.1
  | o' :: l, k, hh, i + 1, o, h => by
    have := flowOps_get l (k + 1) hh.2 i o (by simpa using h)
    rwa [show k + 1 + i = k + (i + 1) by omega] at this
theorem flowAll_of {xs : Nat → Value} {w : World} : ∀ (l : List (Value → World → Prop)) (k : Nat), (∀ i, i < l.length → (l.getD i fun _ _ => True) (xs (k + i)) w) → flowAll xs w l k
  | [], _, _ => trivial
  | g :: l, k, h => ⟨by simpa using h 0 (by simp), flowAll_of l (k + 1) fun i hi => by
      have := h (i + 1) (by simpa using hi)
      rw [show k + 1 + i = k + (i + 1) by omega]
      simpa using this⟩
theorem wp_region_flow {id : Nat} {Q : Exit → Act → World → Prop} {l : List Oper} {a : Act} {w : World} (srcs : List (Option Nat)) (xs0 : Nat → Value) (Gs : List (Value → World → Prop)) (hm : P.follows .mixedOrders = true)
    (hB : flowB .any l.toArray srcs = true) (hl : a.tmps.size = srcs.length) (h0 : flowAct a srcs xs0 = a) (hn : Gs.length = l.length)
    (hG : ∀ g ∈ Gs, ∀ v x y, Below w.heap.size w x → Below x.heap.size x y → g v x → g v y)
    (hops : flowOps P .any l.toArray a srcs Gs w l 0)
    (hend : ∀ xs w', Below w.heap.size w w' → flowAll xs w' Gs 0 → Q .normal (flowAct a srcs xs) w') : (Code.region id l.toArray true).wp P Q a w := by
  refine wp_region_any hm ?_
  have := wpAny_flow (P := P) (ops := l.toArray) (md := .any) (Q := Q) (flowAct a srcs) (fun x y => Below x.heap.size x y) (fun i => Gs.getD i fun _ _ => True) w
    (fun a b c h1 h2 => h1.trans (h2.mono h1.size)) (fun i v x y h1 h2 h3 => ?_) (fun i o ho => (flowB_spec hB ho).1) (fun i o xs v ho => flowAct_put hB hl ho xs v)
    (fun i o ho xs x hx hn => by
      have := flowOps_get l 0 hops i o (by simpa using ho) xs x hx (flowNeeds_of _ fun e he hb => hn e (by simpa using he) hb)
      rwa [Nat.zero_add] at this)
    (fun xs x hx hg => hend xs x hx (flowAll_of Gs 0 fun i hi => by rw [Nat.zero_add]; exact hg i (by simpa using (by omega : i < l.length))))
    l.toArray.size (Array.replicate l.toArray.size false) xs0 { w with drawn := w.drawn + 1 } ⟨rfl, rfl, rfl, Nat.le_refl _, fun _ _ => rfl⟩ (by simp) (by simp) (fun i hi hl => by
      exfalso
      rw [Array.getD_eq_getD_getElem?, Array.getElem?_eq_getElem (by simpa using hi)] at hl
      simp at hl)
  · rwa [h0] at this
  · by_cases hi : i < Gs.length
    · have hm := List.getElem_mem hi
      rw [List.getD_eq_getElem?_getD, List.getElem?_eq_getElem hi] at h3 ⊢
      exact hG _ hm v x y h1 h2 h3
    · rw [List.getD_eq_getElem?_getD, List.getElem?_eq_none (by omega)]
      trivial
end
end Go.Proofs.Ytngfohedddcboaa
