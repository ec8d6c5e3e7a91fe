
/-
  u128.Add: of any numbers their sum, if that is below 2^128; else none. For every slice of numbers.
-/
import Derived.Test.YtfhaphbfbmpbiaaBas
namespace Go.Proofs.Ytfhaphbfbmpbiaa
open Go.RowKit

/-- A slice of numbers of two words each, as it lies in memory. -/
def Nums (w : World) (a : Option Addr) (n : Nat) (H L : Nat → Int) : Prop :=
  n ≤ maxLen ∧ ∀ i, i < n → ∃ b off, a = some ⟨b, off, none⟩ ∧ b < w.heap.size ∧ w.cell? ⟨b, off + i * 2, none⟩ = some (.int .u64 (H i)) ∧ w.cell? ⟨b, off + i * 2 + 1, none⟩ = some (.int .u64 (L i)) ∧ Word (H i) ∧ Word (L i)

/-- The sum of the first k. -/
def sumTo (H L : Nat → Int) : Nat → Int
  | 0 => 0
  | k + 1 => sumTo H L k + (H k * 18446744073709551616 + L k)

theorem sumTo_nonneg {H L : Nat → Int} {n : Nat} (h : ∀ i, i < n → Word (H i) ∧ Word (L i)) (k : Nat) (hk : k ≤ n) : 0 ≤ sumTo H L k := by
  induction k with
  | zero => simp [sumTo]
  | succ k ih =>
    have := ih (by omega)
    obtain ⟨⟨_, _⟩, ⟨_, _⟩⟩ := h k (by omega)
    simp only [sumTo]; omega

theorem sumTo_mono {H L : Nat → Int} {n : Nat} (h : ∀ i, i < n → Word (H i) ∧ Word (L i)) (k d : Nat) (hk : k + d ≤ n) : sumTo H L k ≤ sumTo H L (k + d) := by
  induction d with
  | zero => simp
  | succ d ih =>
    have := ih (by omega)
    obtain ⟨⟨_, _⟩, ⟨_, _⟩⟩ := h (k + d) (by omega)
    rw [← Nat.add_assoc]; simp only [sumTo]; omega

/-- What Add answers of a sum. -/
def addV (s : Int) : Value :=
  if s < 340282366920938463463374607431768211456 then .tuple #[.agg #[.int .u64 (s / 18446744073709551616), .int .u64 (s % 18446744073709551616)], .bool true]
  else .tuple #[.agg #[.int .u64 0, .int .u64 0], .bool false]
theorem addV_yes {s : Int} (h : s < 340282366920938463463374607431768211456) : addV s = .tuple #[.agg #[.int .u64 (s / 18446744073709551616), .int .u64 (s % 18446744073709551616)], .bool true] := by rw [addV, if_pos h]
theorem addV_no {s : Int} (h : ¬ s < 340282366920938463463374607431768211456) : addV s = .tuple #[.agg #[.int .u64 0, .int .u64 0], .bool false] := by rw [addV, if_neg h]

theorem cells_eq {a b c d : Int} (h : a = c) (k : b = d) : Ending.returned (.tuple #[.agg #[.int .u64 a, .int .u64 b], .bool true]) = .returned (.tuple #[.agg #[.int .u64 c, .int .u64 d], .bool true]) := by rw [h, k]

end Go.Proofs.Ytfhaphbfbmpbiaa
