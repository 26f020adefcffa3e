/-
  Cell: what the document says of writes and of bytes, as plain mathematics.
-/
import Derived.Test.YtkjpmdpljdgcjaaDoorKA
import Derived.Test.YtkjpmdpljdgcjaaDoorTX
namespace Go.Proofs.YtkjpmdpljdgcjaaDoor
open Go.RowKit Go Go.Sort
set_option linter.unusedVariables false
set_option maxRecDepth 20000

/-- A cell. -/
structure Cl where
  n : Int
  s : Int
  a : Int
  b : Int
  g : Bool
  t : List UInt8
  d : Int
  e : Int
def Cl.zero : Cl := ⟨0, 0, 0, 0, false, [], 0, 0⟩
def Cl.arr (c : Cl) : Array Value := #[.int .i64 c.n, .int .i64 c.s, .int .i64 c.a, .int .i64 c.b, .bool c.g, .string (text c.t), .int .i64 c.d, .int .i64 c.e]
def Cl.good (p : Int) (c : Cl) : Bool := cgoodS p c.n c.s c.a c.b c.g c.t c.d c.e
def Cl.wrote (c : Cl) : Bool := wroteS c.n c.s c.a c.b c.g c.t

/-- Whether a write may be. -/
def argS (p n s a b : Int) (g : Bool) (t : List UInt8) : Bool := (p == 1 || p == 2) && (whenS n s && (vgood a b && !(g && !(t == []))))
def cofS (p n s a b : Int) (g : Bool) (t : List UInt8) : Cl × Int :=
  if argS p n s a b g t = true then (if 64 < t.length then (Cl.zero, 3) else if ((p == 2) && g) = true then (⟨0, 0, 0, 0, false, [], a, b⟩, 0) else (⟨n, s, a, b, g, t, 0, 0⟩, 0)) else (Cl.zero, 2)

/-- The first number of a cell's bytes. -/
def sumS (w g z : Bool) : Int := (if w then 1 else 0) + (if g then 2 else 0) + (if z then 0 else 4)
def Cl.sum (c : Cl) : Int := sumS c.wrote c.g (zeroS c.d c.e)
def layS (l : List UInt8) (c : Cl) : List UInt8 :=
  let o1 := l ++ numB c.sum
  let o2 := if c.wrote = true then (let o := vputS (sputS o1 c.n c.s) c.a c.b; if c.g = true then o else putTextS o c.t) else o1
  if zeroS c.d c.e = true then o2 else vputS o2 c.d c.e
def cputS (l : List UInt8) (p : Int) (c : Cl) : List UInt8 := if c.good p = true then layS l c else l

theorem sput_app (l m : List UInt8) (n s : Int) : sputS (l ++ m) n s = l ++ sputS m n s := by unfold sputS; split <;> simp
theorem vput_app (l m : List UInt8) (a b : Int) : vputS (l ++ m) a b = l ++ vputS m a b := by unfold vputS; split <;> simp
theorem putText_app (l m t : List UInt8) : putTextS (l ++ m) t = l ++ putTextS m t := by unfold putTextS; simp
theorem lay_app (l : List UInt8) (c : Cl) : layS l c = l ++ layS [] c := by
  unfold layS
  have h1 := sput_app l ([] ++ numB c.sum) c.n c.s
  simp only [List.nil_append] at h1 ⊢
  cases c.wrote <;> cases c.g <;> cases zeroS c.d c.e <;> simp [h1, vput_app, putText_app]
theorem cput_app (l : List UInt8) (p : Int) (c : Cl) : cputS l p c = l ++ cputS [] p c := by
  unfold cputS
  split
  · exact lay_app l c
  · simp

/-- What bytes begin with: the first number, the parts that are told of, how many bytes. -/
def deadR (l : List UInt8) (k : Nat) (c : Cl) : Option (Cl × Nat) :=
  if (vgetS (l.drop k)).2.2 = 0 then some ({ c with d := (vgetS (l.drop k)).1.1, e := (vgetS (l.drop k)).1.2 }, k + (vgetS (l.drop k)).2.1.toNat) else none
def textR (l : List UInt8) (k : Nat) (c : Cl) : Option (Cl × Nat) :=
  if (textS (l.drop k) 64).2.2 = 0 then some ({ c with t := (textS (l.drop k) 64).1 }, k + (textS (l.drop k) 64).2.1.toNat) else none
def vecR (l : List UInt8) (k : Nat) (c : Cl) : Option (Cl × Nat) :=
  if (vgetS (l.drop k)).2.2 = 0 then some ({ c with a := (vgetS (l.drop k)).1.1, b := (vgetS (l.drop k)).1.2 }, k + (vgetS (l.drop k)).2.1.toNat) else none
def stampR (l : List UInt8) (k : Nat) (c : Cl) : Option (Cl × Nat) :=
  if (sgetS (l.drop k)).2.2 = 0 then some ({ c with n := (sgetS (l.drop k)).1.1, s := (sgetS (l.drop k)).1.2 }, k + (sgetS (l.drop k)).2.1.toNat) else none
def bit (x : Int) (j : Int) : Bool := x / j % 2 == 1
def Cl.gone (g : Bool) : Cl := ⟨0, 0, 0, 0, g, [], 0, 0⟩
def midR (l : List UInt8) (k : Nat) (g : Bool) : Option (Cl × Nat) := (stampR l k (Cl.gone g)).bind fun r => (vecR l r.2 r.1).bind fun r => if g = true then some r else textR l r.2 r.1
def endR (l : List UInt8) (x : Int) (c : Cl) (k : Nat) : Option (Cl × Nat) := if bit x 4 = true then deadR l k c else some (c, k)
/-- The parts of which a number tells, behind it. -/
def partsR (l : List UInt8) (x : Int) (k : Nat) (g : Bool) : Option (Cl × Nat) := (if bit x 1 = true then midR l k g else some (Cl.gone g, k)).bind fun r => endR l x r.1 r.2
/-- The document's: the number is at most 7, and a delete is told of a write alone. -/
def readS (l : List UInt8) : Option (Cl × Nat) :=
  if (getS l).2.2 = 0 ∧ (getS l).1 ≤ 7 then partsR l (getS l).1 (getS l).2.1.toNat (bit (getS l).1 1 && bit (getS l).1 2) else none
def cgetS (l : List UInt8) (p : Int) : Cl × Int × Int := match readS l with
  | none => (Cl.zero, 0, 80)
  | some (c, k) => if c.good p = true ∧ layS [] c = l.take k then (c, (k : Int), 0) else (Cl.zero, 0, 80)
/-- The program's: whatever number it is. -/
def readP (l : List UInt8) : Option (Cl × Nat) :=
  if (getS l).2.2 = 0 then partsR l (getS l).1 (getS l).2.1.toNat (bit (getS l).1 2) else none
end Go.Proofs.YtkjpmdpljdgcjaaDoor
