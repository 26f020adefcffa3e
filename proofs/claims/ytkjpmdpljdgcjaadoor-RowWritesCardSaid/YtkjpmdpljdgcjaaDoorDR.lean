/-
  A REGION THAT DRAWS ITS ORDER, as in DF, for whatever relation of worlds outlasts its operations (so also for stores into what lay there). No program is named here.
-/
import Derived.Test.YtkjpmdpljdgcjaaDoorDF
namespace Go.Proofs.YtkjpmdpljdgcjaaDoor
open Go Go.RowKit
set_option linter.unusedVariables false

section
variable {P : Program} {ops : Array Oper} {md : Region.Mode}

def flowOpsR (P : Program) (md : Region.Mode) (ops : Array Oper) (a : Act) (srcs : List (Option Nat)) (Gs : List (Value → World → Prop)) (R : World → World → Prop) (w0 : World) : List Oper → Nat → Prop
  | [], _ => True
  | o :: l, k => (∀ xs w, R w0 w → flowNeeds md Gs xs w o.after.toList → wpList P ops (FlowEnd (flowAct a srcs xs) o R (Gs.getD k fun _ _ => True) w) [o] (flowAct a srcs xs) w) ∧ flowOpsR P md ops a srcs Gs R w0 l (k + 1)
theorem flowOpsR_get {a : Act} {srcs : List (Option Nat)} {Gs : List (Value → World → Prop)} {R : World → World → Prop} {w0 : World} : ∀ (l : List Oper) (k : Nat), flowOpsR P md ops a srcs Gs R w0 l k → ∀ i o, l[i]? = some o →
    ∀ xs w, R w0 w → flowNeeds md Gs xs w o.after.toList → wpList P ops (FlowEnd (flowAct a srcs xs) o R (Gs.getD (k + i) fun _ _ => True) w) [o] (flowAct a srcs xs) w
  | [], _, _, i, o, h => by simp at h
  | o' :: l, k, hh, 0, o, h => by
    obtain rfl : o' = o := by simpa using h
    exact hh.1
  | o' :: l, k, hh, i + 1, o, h => by
    have := flowOpsR_get l (k + 1) hh.2 i o (by simpa using h)
    rwa [show k + 1 + i = k + (i + 1) by omega] at this
theorem wp_region_flowR {id : Nat} {Q : Exit → Act → World → Prop} {l : List Oper} {a : Act} {w : World} (R : World → World → Prop) (srcs : List (Option Nat)) (xs0 : Nat → Value) (Gs : List (Value → World → Prop)) (hm : P.follows .mixedOrders = true)
    (hB : flowB .any l.toArray srcs = true) (hl : a.tmps.size = srcs.length) (h0 : flowAct a srcs xs0 = a) (hn : Gs.length = l.length)
    (hR : ∀ a b c, R a b → R b c → R a c) (hR0 : R w { w with drawn := w.drawn + 1 })
    (hG : ∀ g ∈ Gs, ∀ v x y, R w x → R x y → g v x → g v y)
    (hops : flowOpsR P .any l.toArray a srcs Gs R w l 0)
    (hend : ∀ xs w', R w w' → flowAll xs w' Gs 0 → Q .normal (flowAct a srcs xs) w') : (Code.region id l.toArray true).wp P Q a w := by
  refine wp_region_any hm ?_
  have := wpAny_flow (P := P) (ops := l.toArray) (md := .any) (Q := Q) (flowAct a srcs) R (fun i => Gs.getD i fun _ _ => True) w
    hR (fun i v x y h1 h2 h3 => ?_) (fun i o ho => (flowB_spec hB ho).1) (fun i o xs v ho => flowAct_put hB hl ho xs v)
    (fun i o ho xs x hx hn => by
      have := flowOpsR_get l 0 hops i o (by simpa using ho) xs x hx (flowNeeds_of _ fun e he hb => hn e (by simpa using he) hb)
      rwa [Nat.zero_add] at this)
    (fun xs x hx hg => hend xs x hx (flowAll_of Gs 0 fun i hi => by rw [Nat.zero_add]; exact hg i (by simpa using (by omega : i < l.length))))
    l.toArray.size (Array.replicate l.toArray.size false) xs0 { w with drawn := w.drawn + 1 } hR0 (by simp) (by simp) (fun i hi hl => by
      exfalso
      rw [Array.getD_eq_getD_getElem?, Array.getElem?_eq_getElem (by simpa using hi)] at hl
      simp at hl)
  · rwa [h0] at this
  · by_cases hi : i < Gs.length
    · have hm := List.getElem_mem hi
      rw [List.getD_eq_getElem?_getD, List.getElem?_eq_getElem hi] at h3 ⊢
      exact hG _ hm v x y h1 h2 h3
    · rw [List.getD_eq_getElem?_getD, List.getElem?_eq_none (by omega)]
      trivial
end
end Go.Proofs.YtkjpmdpljdgcjaaDoor
