
/-
  math/bits.LeadingZeros64 at 10, Div64 and Mul64 by 10: the Go library's own text, walked. For every high word below ten, every low word.
-/
import Derived.Test.YtfhaphbfbmpbiaaBas
import Derived.Shelf.Bits.Mul64
namespace Go.Proofs.Ytfhaphbfbmpbiaa
open Go.RowKit

theorem ret_ints {k l : IntKind} {a b c d : Int} (h : a = c) (h' : b = d) : Ending.returned (.tuple #[.int k a, .int l b]) = .returned (.tuple #[.int k c, .int l d]) := by rw [h, h']

theorem or_add (a b : Nat) (k : Nat) (h : b < 2 ^ k) (ha : a * 2 ^ k < 18446744073709551616) (hb : b < 18446744073709551616) : bits .or .u64 ((a * 2 ^ k : Nat) : Int) (b : Int) = ((a * 2 ^ k + b : Nat) : Int) := by
  have h1 := bits_or_u64_nat (a * 2 ^ k) b ha hb
  rw [h1, Nat.mul_comm, ← Nat.two_pow_add_eq_or_of_lt h]

theorem and_mod (x : Int) (h0 : 0 ≤ x) (h1 : x < 18446744073709551616) : bits BinOp.and IntKind.u64 x 4294967295 = x % 4294967296 := by
  obtain ⟨n, rfl⟩ := Int.eq_ofNat_of_zero_le h0
  rw [Go.Proofs.Mul64.maskN n (by omega)]
  omega

end Go.Proofs.Ytfhaphbfbmpbiaa
