
/-
  The walk of paciolilaw09.RuleTransfers: it returns true, for every transfer, and turns nothing that was there. Plain facts.
-/
import Derived.Test.YtkigdfpgdkgcaaaRuC
namespace Go.Proofs.Ytkigdfpgdkgcaaa
open Go.RowKit
set_option maxRecDepth 100000
set_option linter.unusedVariables false
set_option linter.unusedSimpArgs false
theorem gt_mask (x : Int) (m : Nat) (hm : m < 9223372036854775808) : decide (0 < bits .and .i64 x (m : Int)) = (bits .and .i64 x (m : Int) != 0) := by
  obtain ⟨k, hk, _⟩ := and_mask x m hm
  rw [hk]
  cases k with
  | zero => rfl
  | succ k =>
    have h1 : decide ((0 : Int) < ((k + 1 : Nat) : Int)) = true := decide_eq_true (by omega)
    have h2 : ((((k + 1 : Nat) : Int)) != 0) = true := by rw [bne_iff_ne]; omega
    rw [h1, h2]
theorem fl_some (f : Int) : ∃ b1 b2 b3 b4 b5 b6, Fl f b1 b2 b3 b4 b5 b6 := by
  obtain ⟨k, hk, hk2⟩ := and_mask f 14 (by decide)
  refine ⟨_, _, _, _, _, _, ⟨rfl, ⟨k, hk, ?_, rfl⟩, rfl, rfl, rfl, rfl⟩⟩
  have : k ≤ 14 := by rw [hk2]; exact Nat.and_le_right
  omega
theorem in_255 (f : Int) (h0 : 0 ≤ f) (h1 : f ≤ 255) : (bits .andNot .i64 f 255 != 0) = false := by
  obtain ⟨n, rfl⟩ := Int.eq_ofNat_of_zero_le h0
  have hn : n < 256 := by omega
  clear h0 h1
  have hall : ∀ n : Fin 256, (bits .andNot .i64 (n.val : Int) 255 != 0) = false := by decide +kernel
  exact hall ⟨n, hn⟩

end Go.Proofs.Ytkigdfpgdkgcaaa
