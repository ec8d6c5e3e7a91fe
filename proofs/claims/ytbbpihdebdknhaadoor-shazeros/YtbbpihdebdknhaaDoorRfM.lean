/-
  Plain reckoning: the document's own numbers (roots of primes, bit by bit), step by step as the reference takes it. Nothing of the model.
-/
import Derived.Test.YtbbpihdebdknhaaDoorShM
namespace Go.Proofs.YtbbpihdebdknhaaDoor

/-- One pass of a long multiplication: the limbs behind i steps, and what is carried. -/
def inF (a : List Nat) (m k : Nat) (o : List Nat) : Nat → List Nat × Nat
  | 0 => (o, 0)
  | i + 1 => ((inF a m k o i).1.set (i + k) ((a.getD i 0 * m + (inF a m k o i).1.getD (i + k) 0 + (inF a m k o i).2) % 4294967296), (a.getD i 0 * m + (inF a m k o i).1.getD (i + k) 0 + (inF a m k o i).2) / 4294967296)
def mK (y : Nat) (k : Nat) : Nat := y / 2 ^ (32 * k) % 4294967296
def mulP (a : List Nat) (y : Nat) : Nat → List Nat
  | 0 => [0, 0, 0, 0]
  | k + 1 => (inF a (mK y k) k (mulP a y k) (4 - k)).1
def mulF (a : List Nat) (y : Nat) : List Nat := mulP a y 2
/-- From limb i down: is it above? -/
def cmpF (l : List Nat) (at_ p : Nat) : Nat → Bool
  | 0 => false
  | i + 1 => if l.getD i 0 = (if i = at_ then p % 4294967296 else 0) then cmpF l at_ p i else decide ((if i = at_ then p % 4294967296 else 0) < l.getD i 0)
def sqF (y : Nat) : List Nat := mulF [y % 4294967296, y / 4294967296 % 4294967296, 0, 0] y
def aboveF (y p : Nat) (cube : Bool) : Bool := if cube then cmpF (mulF (sqF y) y) 3 p 4 else cmpF (sqF y) 2 p 4
/-- No divisor among 2 .. k + 1. -/
def prF (p : Nat) : Nat → Bool
  | 0 => true
  | k + 1 => if p % (2 + k) = 0 then false else prF p k
/-- How many are tried. -/
def kO (p : Nat) : Nat → Nat
  | 0 => 0
  | f + 1 => if (2 + f) * (2 + f) ≤ p then f + 1 else kO p f
def primeF (p : Nat) : Bool := prF p (kO p p)
def xsF (p : Nat) (cube : Bool) : Nat → Nat
  | 0 => 0
  | t + 1 => if aboveF (xsF p cube t + 2 ^ (37 - t)) p cube then xsF p cube t else xsF p cube t + 2 ^ (37 - t)
def outF (cube : Bool) : Nat → List Nat
  | 0 => []
  | j + 1 => if primeF (2 + j) then outF cube j ++ [xsF (2 + j) cube 38 % 4294967296] else outF cube j
def cntF : Nat → Nat
  | 0 => 0
  | j + 1 => if primeF (2 + j) then cntF j + 1 else cntF j
theorem out_len (cube : Bool) : ∀ j, (outF cube j).length = cntF j
  | 0 => rfl
  | j + 1 => by
    rw [outF, cntF]
    split
    · rw [List.length_append, out_len cube j]; rfl
    · exact out_len cube j
theorem cnt_mono : ∀ j, cntF j ≤ cntF (j + 1) := fun j => by
  rw [cntF]
  split <;> omega
theorem cnt_le {i j : Nat} (h : i ≤ j) : cntF i ≤ cntF j := by
  induction h with
  | refl => exact Nat.le_refl _
  | step _ ih => exact Nat.le_trans ih (cnt_mono _)
theorem cnt64 : cntF 309 = 63 ∧ cntF 310 = 64 := by decide +kernel
theorem cnt8 : cntF 17 = 7 ∧ cntF 18 = 8 := by decide +kernel
theorem words8 : outF false 18 = [1779033703, 3144134277, 1013904242, 2773480762, 1359893119, 2600822924, 528734635, 1541459225] := by decide +kernel
theorem words64 : outF true 310 = KW := by decide +kernel
end Go.Proofs.YtbbpihdebdknhaaDoor
