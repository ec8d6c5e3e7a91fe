
/-
  The walk of paciolilaw09.RuleFlags: its ways joined. (Made by tools/rukj.py.)
-/
import Derived.Test.YtkigdfpgdkgcaaaRuK
namespace Go.Proofs.Ytkigdfpgdkgcaaa
open Go.RowKit
set_option maxRecDepth 100000
set_option linter.unusedVariables false
set_option linter.unusedSimpArgs false

def mayE (N : Int) : Bool := decide (N < 256) && decide (cnt (bits .and .i64 N 2 != 0) (bits .and .i64 N 4 != 0) (bits .and .i64 N 8 != 0) 3 ≤ 1) && ((bits .and .i64 N 64 == 0 && bits .and .i64 N 128 == 0) || bits .and .i64 N 2 != 0) && ((bits .and .i64 N 16 == 0 && bits .and .i64 N 32 == 0) || (bits .and .i64 N 4 == 0 && bits .and .i64 N 8 == 0))
theorem all_n : ∀ n : Fin 512, tkV false (!(bits .and .i64 (n.val : Int) 12 != 0)) false false (bits .andNot .i64 (n.val : Int) 255 != 0) (decide (1 < pop4 (n.val &&& 14))) (bits .and .i64 (n.val : Int) 192 != 0) (bits .and .i64 (n.val : Int) 2 == 0) (bits .and .i64 (n.val : Int) 48 == 0) (bits .and .i64 (n.val : Int) 12 == 0) = (if mayE (n.val : Int) then 0 else 4) := by decide +kernel
theorem flt (n : Nat) (hn : n < 512) (h12 : Bool) (e12 : (bits .and .i64 (n : Int) 12 != 0) = h12) (v : Int) (hv : (if mayE (n : Int) then 0 else 4) = v) (w : World) :
    Calls Try.prog 11 #[.agg (flX (n : Int) h12)] w fun e w' => e = .returned (.int .i64 v) ∧ Below w.heap.size w w' := by
  have h := all_n ⟨n, hn⟩
  simp only at h
  rw [e12, hv] at h
  rw [← h]
  have hk : bits .and .i64 (n : Int) 14 = ((n &&& 14 : Nat) : Int) := and_nat n 14 (by omega) (by decide)
  have hk16 : n &&& 14 < 16 := by have : n &&& 14 ≤ 14 := Nat.and_le_right; omega
  cases h12
  · exact transfer_any false true false false _ _ _ _ _ _ 0 5 0 0 0 0 0 0 0 0 0 0 (n : Int) 0 0 0 w ⟨by decide, by decide, by decide, by decide, ⟨rfl, ⟨_, hk, hk16, rfl⟩, rfl, rfl, rfl, rfl⟩⟩
  · exact transfer_any false false false false _ _ _ _ _ _ 0 5 0 0 0 0 0 0 0 4 0 0 (n : Int) 0 0 0 w ⟨by decide, by decide, by decide, by decide, ⟨rfl, ⟨_, hk, hk16, rfl⟩, rfl, rfl, rfl, rfl⟩⟩
theorem may_yes {N : Int} (h : mayE N = true) : (if mayE N then 0 else 4 : Int) = 0 := by rw [h]; rfl
theorem may_no {N : Int} (h : mayE N = false) : (if mayE N then 0 else 4 : Int) = 4 := by rw [h]; rfl
end Go.Proofs.Ytkigdfpgdkgcaaa
