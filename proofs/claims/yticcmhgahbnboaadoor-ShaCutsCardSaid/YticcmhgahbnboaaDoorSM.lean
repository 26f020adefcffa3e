/-
  SHA-256: the plain mathematics of words. No program is named here.
-/
import Derived.Test.YticcmhgahbnboaaDoorCB
import Derived.Test.YticcmhgahbnboaaDoorAp
namespace Go.Proofs.YticcmhgahbnboaaDoor
open Go.RowKit
set_option linter.unusedVariables false

/-- A word turned right. -/
def rotS (x : W32) (n : Nat) : W32 := (x >>> n) ||| (x <<< (32 - n))
theorem I_shr (x : W32) (n : Nat) : I x / 2 ^ n = I (x >>> n) := by
  unfold I; rw [BitVec.toNat_ushiftRight, Nat.shiftRight_eq_div_pow]; simp
theorem I_shl (x : W32) (n : Nat) : I x * 2 ^ n % 4294967296 = I (x <<< n) := by
  unfold I; rw [BitVec.toNat_shiftLeft, Nat.shiftLeft_eq]; simp
theorem rot_val (x : W32) (n : Nat) : bits .or .u32 (I x / 2 ^ n) (I x * 2 ^ (32 - n) % 4294967296) = I (rotS x n) := by
  rw [I_shr, I_shl, I_or]; rfl
theorem rot_val' (x : W32) (n : Nat) : bits .or .u32 (I x * 2 ^ (32 - n) % 4294967296) (I x / 2 ^ n) = I (rotS x n) := by
  rw [I_shr, I_shl, I_or, BitVec.or_comm]; rfl
theorem I_add (x y : W32) : (I x + I y) % 4294967296 = I (x + y) := by
  unfold I; rw [BitVec.toNat_add]; simp

def s0S (x : W32) : W32 := rotS x 7 ^^^ rotS x 18 ^^^ x >>> 3
def s1S (x : W32) : W32 := rotS x 17 ^^^ rotS x 19 ^^^ x >>> 10
def e1S (x : W32) : W32 := rotS x 6 ^^^ rotS x 11 ^^^ rotS x 25
def e0S (x : W32) : W32 := rotS x 2 ^^^ rotS x 13 ^^^ rotS x 22
def chS (e f g : W32) : W32 := (e &&& f) ^^^ (~~~ e &&& g)
def maS (a b c : W32) : W32 := (a &&& b) ^^^ (a &&& c) ^^^ (b &&& c)

/-- The words of a list, in a form that the walk leaves as it is. -/
def wAt (l : List W32) (i : Nat) : W32 := l.getD i 0#32
/-- Word i of a block, of its bytes. -/
def word4 (b : List UInt8) (i : Nat) : W32 := wd (byt b (4 * i)) <<< 24 ||| wd (byt b (4 * i + 1)) <<< 16 ||| wd (byt b (4 * i + 2)) <<< 8 ||| wd (byt b (4 * i + 3))
/-- The next word of a block of which those ahead are known. -/
def nextW (b : List UInt8) (l : List W32) (i : Nat) : W32 := if i < 16 then word4 b i else wAt l (i - 16) + s0S (wAt l (i - 15)) + wAt l (i - 7) + s1S (wAt l (i - 2))
/-- The first i words of a block. -/
def wordsS (b : List UInt8) : Nat → List W32
  | 0 => []
  | i + 1 => wordsS b i ++ [nextW b (wordsS b i) i]
theorem wordsS_length (b : List UInt8) (i : Nat) : (wordsS b i).length = i := by
  induction i with
  | zero => rfl
  | succ i ih => rw [wordsS, List.length_append, ih]; rfl
theorem wordsS_at (b : List UInt8) (i j : Nat) (h : j < i) : wAt (wordsS b i) j = nextW b (wordsS b j) j := by
  induction i with
  | zero => omega
  | succ i ih =>
    rw [wordsS]
    unfold wAt
    by_cases hj : j < i
    · rw [List.getD_eq_getElem?_getD, List.getElem?_append_left (by rw [wordsS_length]; exact hj), ← List.getD_eq_getElem?_getD]
      exact ih hj
    · obtain rfl : j = i := by omega
      rw [List.getD_eq_getElem?_getD, List.getElem?_append_right (by rw [wordsS_length]; omega), wordsS_length, Nat.sub_self]
      rfl

/-- The eight numbers of the rounds. -/
structure Rd where
  (a b c d e f g h : W32)
def Rd.list (r : Rd) : List W32 := [r.a, r.b, r.c, r.d, r.e, r.f, r.g, r.h]
def xS (r : Rd) (k w : W32) : W32 := r.h + e1S r.e + chS r.e r.f r.g + k + w
def yS (r : Rd) : W32 := e0S r.a + maS r.a r.b r.c
def rndS (r : Rd) (k w : W32) : Rd := ⟨xS r k w + yS r, r.a, r.b, r.c, r.d + xS r k w, r.e, r.f, r.g⟩
def kS : List W32 := [0x428a2f98#32, 0x71374491#32, 0xb5c0fbcf#32, 0xe9b5dba5#32, 0x3956c25b#32, 0x59f111f1#32, 0x923f82a4#32, 0xab1c5ed5#32, 0xd807aa98#32, 0x12835b01#32, 0x243185be#32, 0x550c7dc3#32, 0x72be5d74#32, 0x80deb1fe#32, 0x9bdc06a7#32, 0xc19bf174#32, 0xe49b69c1#32, 0xefbe4786#32, 0x0fc19dc6#32, 0x240ca1cc#32, 0x2de92c6f#32, 0x4a7484aa#32, 0x5cb0a9dc#32, 0x76f988da#32, 0x983e5152#32, 0xa831c66d#32, 0xb00327c8#32, 0xbf597fc7#32, 0xc6e00bf3#32, 0xd5a79147#32, 0x06ca6351#32, 0x14292967#32, 0x27b70a85#32, 0x2e1b2138#32, 0x4d2c6dfc#32, 0x53380d13#32, 0x650a7354#32, 0x766a0abb#32, 0x81c2c92e#32, 0x92722c85#32, 0xa2bfe8a1#32, 0xa81a664b#32, 0xc24b8b70#32, 0xc76c51a3#32, 0xd192e819#32, 0xd6990624#32, 0xf40e3585#32, 0x106aa070#32, 0x19a4c116#32, 0x1e376c08#32, 0x2748774c#32, 0x34b0bcb5#32, 0x391c0cb3#32, 0x4ed8aa4a#32, 0x5b9cca4f#32, 0x682e6ff3#32, 0x748f82ee#32, 0x78a5636f#32, 0x84c87814#32, 0x8cc70208#32, 0x90befffa#32, 0xa4506ceb#32, 0xbef9a3f7#32, 0xc67178f2#32]
/-- The numbers behind the first i rounds. -/
def rndsS (r : Rd) (ws : List W32) : Nat → Rd
  | 0 => r
  | i + 1 => rndS (rndsS r ws i) (wAt kS i) (wAt ws i)
def addR (r t : Rd) : Rd := ⟨r.a + t.a, r.b + t.b, r.c + t.c, r.d + t.d, r.e + t.e, r.f + t.f, r.g + t.g, r.h + t.h⟩
/-- The state behind a block. -/
def mixS (r : Rd) (ws : List W32) : Rd := addR r (rndsS r ws 64)
def blockS (r : Rd) (b : List UInt8) : Rd := mixS r (wordsS b 64)
def startS : Rd := ⟨0x6a09e667#32, 0xbb67ae85#32, 0x3c6ef372#32, 0xa54ff53a#32, 0x510e527f#32, 0x9b05688c#32, 0x1f83d9ab#32, 0x5be0cd19#32⟩

/-- Words as cells. -/
def u32v (l : List W32) : List Value := l.map (fun x => Value.int .u32 (I x))
theorem u32v_length (l : List W32) : (u32v l).length = l.length := by simp [u32v]
theorem u32v_get (l : List W32) (i : Nat) (h : i < l.length) : (u32v l)[i]? = some (.int .u32 (I (wAt l i))) := by
  simp [u32v, wAt, List.getD, h]
theorem u32v_append (l m : List W32) : u32v (l ++ m) = u32v l ++ u32v m := by simp [u32v]
theorem u32v_set (l : List W32) (i : Nat) (x : W32) : (u32v l).set i (.int .u32 (I x)) = u32v (l.set i x) := by
  unfold u32v; rw [List.map_set]
end Go.Proofs.YticcmhgahbnboaaDoor
