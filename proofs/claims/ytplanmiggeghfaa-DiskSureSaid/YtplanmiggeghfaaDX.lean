/-
  Disk: the program's laws: DiskRefused.
-/
import Derived.Test.YtplanmiggeghfaaDW
import Derived.Shelf.Abstract
namespace Go.Proofs.Ytplanmiggeghfaa
open Go.RowKit Go Go.Sort Go.Maps Go.WideMaps
set_option linter.unusedVariables false
set_option maxRecDepth 20000

theorem used_ins (f : Fi) : ∀ F, usedF (insF f F) = f.b.length + usedF F
  | [] => rfl
  | y :: r => by
    unfold insF
    split
    · rfl
    · have := used_ins f r
      unfold usedF at this ⊢
      simp only [List.map_cons, List.sum_cons] at this ⊢
      omega
theorem used_del (nm : List UInt8) : ∀ F, usedF (delF nm F) ≤ usedF F
  | [] => Nat.le_refl _
  | y :: r => by
    have := used_del nm r
    unfold usedF delF at this ⊢
    rw [List.filter_cons]
    split
    · simp only [List.map_cons, List.sum_cons]; omega
    · simp only [List.map_cons, List.sum_cons]; omega
theorem set_none (nm : List UInt8) (g : Fi → Fi) {F : List Fi} (h : ∀ x ∈ F, x.nm ≠ nm) : setF nm g F = F := by
  unfold setF
  have : F.map (fun f => if f.nm = nm then g f else f) = F.map id := List.map_congr_left fun x hx => by rw [if_neg (h x hx)]; rfl
  rw [this, List.map_id]
theorem used_set (nm : List UInt8) (g : Fi → Fi) (c : Nat) (hg : ∀ f, (g f).b.length ≤ f.b.length + c) : ∀ F : List Fi, F.Pairwise (fun a b => a.nm ≠ b.nm) → usedF (setF nm g F) ≤ usedF F + c
  | [], _ => Nat.zero_le _
  | y :: r, h => by
    rw [List.pairwise_cons] at h
    by_cases hy : y.nm = nm
    · have e : setF nm g (y :: r) = g y :: r := by
        have := set_none nm g (F := r) (fun x hx hn => h.1 x hx (hy.trans hn.symm))
        unfold setF at this ⊢
        rw [List.map_cons, this, if_pos hy]
      rw [e]
      have := hg y
      unfold usedF
      simp only [List.map_cons, List.sum_cons]
      omega
    · have e : setF nm g (y :: r) = y :: setF nm g r := by
        unfold setF
        rw [List.map_cons, if_neg hy]
      rw [e]
      have := used_set nm g c hg r h.2
      unfold usedF at this ⊢
      simp only [List.map_cons, List.sum_cons]
      omega
/-- What holds of a disk in whose work no power fails. -/
structure Calm (st : Ds) : Prop where
  on : st.on = true
  plan : st.plan = false
  room : st.room = 300
  used : usedF st.F ≤ 300
  asc : st.F.Pairwise (fun a b => a.nm ≠ b.nm)
/-- What an operation makes of it. -/
def Step (st : Ds) (p : Int × Ds) : Prop := (p.1 = 0 ∧ p.2.on = true ∧ p.2.plan = false ∧ p.2.room = 300 ∧ usedF p.2.F ≤ 300 ∧ p.2.ops = wr64 (st.ops + 1)) ∨ (p.1 ≠ 0 ∧ p.2 = st)
theorem step_opd {st : Ds} (h : Calm st) (gd ga : List Fi → List Fi) (hu : usedF (gd st.F) ≤ 300) : Step st (st.opd gd ga) := by
  unfold Ds.opd
  rw [if_neg (by rw [h.plan]; simp)]
  exact .inl ⟨rfl, h.on, h.plan, h.room, hu, rfl⟩
theorem step_make {st : Ds} (h : Calm st) (nm : List UInt8) : Step st (st.make nm) := by
  unfold Ds.make
  rw [if_neg (by rw [h.on]; simp)]
  split
  · exact .inr ⟨by simp, rfl⟩
  · split
    · exact .inr ⟨by simp, rfl⟩
    · split
      · exact .inr ⟨by simp, rfl⟩
      · exact step_opd h _ _ (by rw [used_ins]; have := h.used; simp; omega)
theorem step_append {st : Ds} (h : Calm st) (nm l : List UInt8) : Step st (st.append nm l) := by
  unfold Ds.append
  rw [if_neg (by rw [h.on]; simp)]
  split
  · exact .inr ⟨by simp, rfl⟩
  · split
    · exact .inr ⟨by simp, rfl⟩
    · split
      · exact .inr ⟨by simp, rfl⟩
      · rename_i hr
        rw [h.room] at hr
        refine step_opd h _ _ ?_
        have := used_set nm (fun f => ⟨f.nm, f.b ++ l, f.su⟩) l.length (fun f => by simp) st.F h.asc
        omega
theorem step_sync {st : Ds} (h : Calm st) (nm : List UInt8) : Step st (st.sync nm) := by
  unfold Ds.sync
  rw [if_neg (by rw [h.on]; simp)]
  split
  · exact .inr ⟨by simp, rfl⟩
  · have := used_set nm (fun f => ⟨f.nm, f.b, f.b.length⟩) 0 (fun f => by simp) st.F h.asc
    exact step_opd h _ _ (by have := h.used; omega)
theorem step_cut {st : Ds} (h : Calm st) (nm : List UInt8) (n : Int) : Step st (st.cut nm n) := by
  unfold Ds.cut
  rw [if_neg (by rw [h.on]; simp)]
  split
  · exact .inr ⟨by simp, rfl⟩
  · split
    · exact .inr ⟨by simp, rfl⟩
    · have := used_set nm (fun f => ⟨f.nm, f.b.take n.toNat, min f.su n.toNat⟩) 0 (fun f => by simp; omega) st.F h.asc
      exact step_opd h _ _ (by have := h.used; omega)
theorem step_drop {st : Ds} (h : Calm st) (nm : List UInt8) : Step st (st.drop nm) := by
  unfold Ds.drop
  rw [if_neg (by rw [h.on]; simp)]
  split
  · exact .inr ⟨by simp, rfl⟩
  · exact step_opd h _ _ (by have := used_del nm st.F; have := h.used; omega)
theorem Lv.asc {w0 w : World} {q : Nat} {st : Ds} (h : Lv w0 w q st) : st.F.Pairwise (fun a b => a.nm ≠ b.nm) := by
  obtain ⟨F, ⟨m, pv, FS, h1, -⟩, -⟩ := h
  exact h1.ok.asc.imp less_ne
theorem lv_names {w0 w : World} {q : Nat} {st : Ds} (h : Lv w0 w q st) : Calls Try.prog 32 #[.pointer (some ⟨q, 0, none⟩)] w (fun e w' => ∃ v, e = .returned v ∧ Tx w' v (st.F.map Fi.nm) ∧ Lv w0 w' q st ∧ Below w.heap.size w w') := by
  have hL := h
  obtain ⟨F, ⟨m, pv, FS, h1, -⟩, -⟩ := h
  exact (dnames_c h1).mono fun e w' ⟨v, he, ho, hb⟩ => ⟨v, he, ho.tx, hL.keep hb, hb⟩
end Go.Proofs.Ytplanmiggeghfaa
