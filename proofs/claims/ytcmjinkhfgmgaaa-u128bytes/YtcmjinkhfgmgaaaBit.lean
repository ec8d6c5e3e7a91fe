/-
  u128.Bit: of every number, every place.
-/
import Derived.Test.YtcmjinkhfgmgaaaBas
namespace Go.Proofs.Ytcmjinkhfgmgaaa
open Go.RowKit

theorem bit_and (x : Int) (k : Nat) (h0 : 0 ≤ x) (h1 : x < 18446744073709551616) : wrap64 (bits BinOp.and IntKind.u64 (x / 2 ^ k) 1) = x / 2 ^ k % 2 := by
  have e : x / 2 ^ k ≤ x := Int.ediv_le_self _ h0
  have e0 : 0 ≤ x / 2 ^ k := Int.ediv_nonneg h0 (Int.le_of_lt (Int.pow_pos (by decide)))
  rw [and_one_u64 _ e0 (by omega)]
  have : 0 ≤ x / 2 ^ k % 2 ∧ x / 2 ^ k % 2 < 2 := ⟨by omega, by omega⟩
  unfold wrap64; omega

/-- The bit of a number of two words, as that of the number. -/
theorem bit_hi_num (a b : Int) (k : Nat) (hb : 0 ≤ b) (hb' : b < 18446744073709551616) : (a * 18446744073709551616 + b) / 2 ^ (64 + k) = a / 2 ^ k := by
  rw [Int.pow_add, ← Int.ediv_ediv_of_nonneg (by decide)]
  congr 1
  omega
theorem bit_lo_num (a b : Int) (k : Nat) (hk : k < 64) : (a * 18446744073709551616 + b) / 2 ^ k % 2 = b / 2 ^ k % 2 := by
  have e : (18446744073709551616 : Int) = 2 ^ (63 - k) * 2 * 2 ^ k := by
    rw [← Int.pow_succ, ← Int.pow_add, show 63 - k + 1 + k = 64 from by omega]; rfl
  rw [e, ← Int.mul_assoc, Int.add_comm, Int.add_mul_ediv_right _ _ (Int.ne_of_gt (Int.pow_pos (by decide))), ← Int.mul_assoc, Int.add_mul_emod_self_right]

set_option maxHeartbeats 1000000 in
theorem bit_in (ah al i : Int) (w : World) (h1 : Word ah) (h2 : Word al) (h0 : 0 ≤ i) (h : i < 128) :
    Calls Try.prog 20 #[.agg #[.int .u64 ah, .int .u64 al], .int .i64 i] w fun e w' => e = .returned (.int .i64 ((ah * 18446744073709551616 + al) / 2 ^ (127 - i).toNat % 2)) ∧ Below w.heap.size w w' := by
  obtain ⟨a1, a2⟩ := h1
  obtain ⟨b1, b2⟩ := h2
  have t1 : ¬ i < 0 := by omega
  have t2 : ¬ 128 ≤ i := by omega
  by_cases t3 : 64 ≤ i
  · go_enter Try.func20, Try.ntmps20
    go_wp2
    go_ret
    refine ⟨ret_int ?_, below1 _ _⟩
    rw [bit_and al _ b1 b2, bit_lo_num _ _ _ (by omega), show (63 - i % 64).toNat = (127 - i).toNat from by omega]
  · go_enter Try.func20, Try.ntmps20
    go_wp2
    go_ret
    refine ⟨ret_int ?_, below1 _ _⟩
    rw [bit_and ah _ a1 a2, show (127 - i).toNat = 64 + (63 - i % 64).toNat from by omega, bit_hi_num _ _ _ b1 b2]

set_option maxHeartbeats 1000000 in
theorem bit_out (ah al i : Int) (w : World) (h : i < 0 ∨ 128 ≤ i) :
    Calls Try.prog 20 #[.agg #[.int .u64 ah, .int .u64 al], .int .i64 i] w fun e w' => e = .returned (.int .i64 0) ∧ Below w.heap.size w w' := by
  by_cases t1 : i < 0
  · go_enter Try.func20, Try.ntmps20
    go_wp2
    go_ret
    exact ⟨rfl, below1 _ _⟩
  · have t2 : 128 ≤ i := by omega
    go_enter Try.func20, Try.ntmps20
    go_wp2
    go_ret
    exact ⟨rfl, below1 _ _⟩
end Go.Proofs.Ytcmjinkhfgmgaaa
