
/-
  Walks of the small callees: math/bits.Add64, Sub64 (the model's own entries), cmp.Compare at uint64, u128.Max, Of, Compare, Sub. For every value of the parameters.
-/
import Derived.Test.YtfhaphbfbmpbiaaRows
import Derived.WalkKit
import Derived.WalkSpells
import Derived.WalkLawsBesides
import Derived.Laws.Externs
import Derived.Shelf.Spec.BitsCarry
namespace Go.Proofs.Ytfhaphbfbmpbiaa
open Go.RowKit

/-- A word of 64 bits. -/
def Word (x : Int) : Prop := 0 ≤ x ∧ x < 18446744073709551616

theorem ret_int {k : IntKind} {a b : Int} (h : a = b) : Ending.returned (.int k a) = .returned (.int k b) := by rw [h]

/-- The borrow of a difference of words. -/
def bor (x y : Int) : Int := if x < y then 1 else 0

theorem below1 (w : World) (o : Obj) : Below w.heap.size w (w.alloc o) := (Below.refl _ _).alloc (Nat.le_refl _) _
theorem below2 (w : World) (o p : Obj) : Below w.heap.size w ((w.alloc o).alloc p) := (below1 w o).alloc (by simp) _
theorem below3 (w : World) (o p q : Obj) : Below w.heap.size w (((w.alloc o).alloc p).alloc q) := (below2 w o p).alloc (by simp; omega) _
theorem below4 (w : World) (o p q r : Obj) : Below w.heap.size w ((((w.alloc o).alloc p).alloc q).alloc r) := (below3 w o p q).alloc (by simp; omega) _

/-- One call behind another. -/
theorem chain {a b c : World} (h : Below a.heap.size a b) (k : Below b.heap.size b c) : Below a.heap.size a c := h.trans (k.mono h.size)
theorem chainA {a b : World} (h : Below a.heap.size a b) (o : Obj) : Below a.heap.size a (b.alloc o) := h.alloc h.size o

/-- -1, 0, 1. -/
def cmpI (x y : Int) : Int := if x < y then -1 else if y < x then 1 else 0

/-- Of two numbers of two words each. -/
def cmp2 (ah al bh bl : Int) : Int := if cmpI ah bh != 0 then cmpI ah bh else cmpI al bl

/-- Is the one less than the other? -/
def ltB (ah al bh bl : Int) : Bool := decide (ah < bh + bor al bl)

end Go.Proofs.Ytfhaphbfbmpbiaa
