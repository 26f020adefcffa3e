/-
  Policy: what the document says of groups, as plain mathematics; lists of groups in memory.
-/
import Derived.Test.YtkjpmdpljdgcjaaDoorV0
import Derived.Test.YtkjpmdpljdgcjaaDoorBM
import Derived.Test.YtkjpmdpljdgcjaaDoorPM
namespace Go.Proofs.YtkjpmdpljdgcjaaDoor
open Go.RowKit Go Go.Sort
set_option linter.unusedVariables false

abbrev Grp := List UInt8 × Int
def nameS (s : List UInt8) : Bool := s.all (fun c => decide (97 ≤ c.toNat ∧ c.toNat ≤ 122)) && decide (1 ≤ s.length ∧ s.length ≤ 12)
def goodFrom (ahead : List Grp) : List Grp → Int
  | [] => 0
  | g :: r => if ¬ (nameS g.1 = true ∧ (g.2 = 1 ∨ g.2 = 2)) then 2 else if ahead.any (fun h => h.1 == g.1) then 70 else goodFrom (ahead ++ [g]) r
def pgoodS (l : List Grp) : Int := if l.length = 0 then 2 else if 4 < l.length then 3 else goodFrom [] l
def findFrom (name : List UInt8) : Nat → List Grp → Int × Int
  | _, [] => (0, 70)
  | i, g :: r => if g.1 = name then ((i : Int), 0) else findFrom name (i + 1) r
def pfindS (l : List Grp) (name : List UInt8) : Int × Int := if pgoodS l = 0 then findFrom name 0 l else (0, pgoodS l)
def pofS (l : List Grp) (k : Int) : Int × Int := if pgoodS l = 0 then (if k < 0 ∨ (l.length : Int) ≤ k then (0, 70) else ((l.getD k.toNat ([], 0)).2, 0)) else (0, pgoodS l)
def oneB (g : Grp) : List UInt8 := numB (g.1.length : Int) ++ g.1 ++ numB g.2
def pbytesS (l : List Grp) : List UInt8 := numB (l.length : Int) ++ l.flatMap oneB
def wordS (p : Int) : List UInt8 := if p = 1 then [108, 97, 115, 116] else [100, 101, 108, 101, 116, 101]
def oneT (g : Grp) : List UInt8 := g.1 ++ [61] ++ wordS g.2
def ptextS (l : List Grp) : List UInt8 := match l with
  | [] => []
  | g :: r => oneT g ++ r.flatMap (fun h => 44 :: oneT h)

/-- A list of groups that lies in memory. -/
structure Grs (w : World) (a : Option Addr) (n cap : Nat) (l : List Grp) : Prop where
  len : l.length = n
  le : n ≤ cap
  max : cap ≤ 9223372036854775807
  adr : cap = 0 ∨ ∃ b off, a = some ⟨b, off, none⟩ ∧ ∀ i, i < n → w.cell? ⟨b, off + i * 2, none⟩ = some (.string (text (l.getD i ([], 0)).1)) ∧ w.cell? ⟨b, off + i * 2 + 1, none⟩ = some (.int .i64 (l.getD i ([], 0)).2)
theorem Grs.below {w w' : World} {a : Option Addr} {n cap : Nat} {l : List Grp} (h : Grs w a n cap l) (hb : Below w.heap.size w w') : Grs w' a n cap l := by
  refine ⟨h.len, h.le, h.max, ?_⟩
  rcases h.adr with h4 | ⟨b, off, rfl, hc⟩
  · exact .inl h4
  · refine .inr ⟨b, off, rfl, fun i hi => ?_⟩
    obtain ⟨h1, h2⟩ := hc i hi
    exact ⟨by rw [hb.cell (World.block_lt_of_cell? w _ h1)]; exact h1, by rw [hb.cell (World.block_lt_of_cell? w _ h2)]; exact h2⟩
/-- What a group's place holds, in every world in which nothing of the old is turned. -/
theorem Grs.at {w : World} {a : Option Addr} {n cap : Nat} {l : List Grp} (h : Grs w a n cap l) {k : Nat} (hk : k < n) :
    ∃ b off, a = some ⟨b, off, none⟩ ∧ ∀ W, Below w.heap.size w W → W.cell? ⟨b, off + k * 2, none⟩ = some (.string (text (l.getD k ([], 0)).1)) ∧ W.cell? ⟨b, off + k * 2 + 1, none⟩ = some (.int .i64 (l.getD k ([], 0)).2) := by
  have := h.le
  rcases h.adr with h4 | ⟨b, off, rfl, hc⟩
  · omega
  · exact ⟨b, off, rfl, fun W hb => ⟨by rw [hb.cell (World.block_lt_of_cell? w _ (hc k hk).1)]; exact (hc k hk).1, by rw [hb.cell (World.block_lt_of_cell? w _ (hc k hk).2)]; exact (hc k hk).2⟩⟩
end Go.Proofs.YtkjpmdpljdgcjaaDoor
