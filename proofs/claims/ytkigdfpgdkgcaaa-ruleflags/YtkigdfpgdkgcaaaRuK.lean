
/-
  The walk of paciolilaw09.RuleFlags. Plain facts. (Made by tools/ruflag.py.)
-/
import Derived.Test.YtkigdfpgdkgcaaaRuN
namespace Go.Proofs.Ytkigdfpgdkgcaaa
open Go.RowKit
set_option maxRecDepth 100000
set_option linter.unusedVariables false
set_option linter.unusedSimpArgs false

/-- The transfer that is asked about. -/
def flX (N : Int) (h12 : Bool) : Array Value := #[.int .u64 0, .int .u64 5, .int .u64 0, .int .u64 0, .int .u64 0, .int .u64 0, .int .u64 0, .int .u64 0, .int .u64 0, .int .u64 (if h12 then 4 else 0), .int .i64 0, .int .i64 0, .int .i64 N, .int .i64 0, .int .i64 0, .int .i64 0]
theorem flX_size (N : Int) (h12 : Bool) : (flX N h12).size = 16 := rfl
def b2i (b : Bool) : Int := if b then 1 else 0
/-- How many of the first k are set. -/
def cnt (s2 s4 s8 : Bool) : Nat → Int
  | 0 => 0
  | 1 => b2i s2
  | 2 => b2i s2 + b2i s4
  | _ => b2i s2 + b2i s4 + b2i s8
theorem cnt1 (x y : Bool) : wrap64 (cnt true x y 0 + 1) = cnt true x y 1 := by cases x <;> cases y <;> decide +kernel
theorem cnt2 (x y : Bool) : wrap64 (cnt x true y 1 + 1) = cnt x true y 2 := by cases x <;> cases y <;> decide +kernel
theorem cnt2f (x y : Bool) : cnt x false y 1 = cnt x false y 2 := by cases x <;> cases y <;> decide +kernel
theorem cnt3 (x y : Bool) : wrap64 (cnt x y true 2 + 1) = cnt x y true 3 := by cases x <;> cases y <;> decide +kernel
theorem cnt3f (x y : Bool) : cnt x y false 2 = cnt x y false 3 := by cases x <;> cases y <;> decide +kernel
end Go.Proofs.Ytkigdfpgdkgcaaa
