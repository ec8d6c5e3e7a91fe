
/-
  math/bits.Len of numbers below 64; history's split of 2 to 64.
-/
import Derived.Test.YtepohpniflmblaaDoorShB
namespace Go.Proofs.YtepohpniflmblaaDoor
open Go.RowKit
set_option maxRecDepth 100000
set_option linter.unusedVariables false
set_option linter.unusedSimpArgs false

/-- How many bits a number has. -/
def lenB (x : Nat) : Nat := if x = 0 then 0 else Nat.log2 x + 1
def Stop0 (p : Prop) : Prop := p
theorem stop0 {p : Prop} (h : Stop0 p) : p := h
set_option maxHeartbeats 4000000 in
theorem len64_any (x : Nat) (h : x < 64) (w : World) : Calls Tryd.prog 43 #[.int .u64 (x : Nat)] w fun e w' => e = .returned (.int .i64 (lenB x : Nat)) ∧ w' = w := by
  have hc : x = 0 ∨ x = 1 ∨ x = 2 ∨ x = 3 ∨ x = 4 ∨ x = 5 ∨ x = 6 ∨ x = 7 ∨ x = 8 ∨ x = 9 ∨ x = 10 ∨ x = 11 ∨ x = 12 ∨ x = 13 ∨ x = 14 ∨ x = 15 ∨ x = 16 ∨ x = 17 ∨ x = 18 ∨ x = 19 ∨ x = 20 ∨ x = 21 ∨ x = 22 ∨ x = 23 ∨ x = 24 ∨ x = 25 ∨ x = 26 ∨ x = 27 ∨ x = 28 ∨ x = 29 ∨ x = 30 ∨ x = 31 ∨ x = 32 ∨ x = 33 ∨ x = 34 ∨ x = 35 ∨ x = 36 ∨ x = 37 ∨ x = 38 ∨ x = 39 ∨ x = 40 ∨ x = 41 ∨ x = 42 ∨ x = 43 ∨ x = 44 ∨ x = 45 ∨ x = 46 ∨ x = 47 ∨ x = 48 ∨ x = 49 ∨ x = 50 ∨ x = 51 ∨ x = 52 ∨ x = 53 ∨ x = 54 ∨ x = 55 ∨ x = 56 ∨ x = 57 ∨ x = 58 ∨ x = 59 ∨ x = 60 ∨ x = 61 ∨ x = 62 ∨ x = 63 := by omega
  clear h
  rcases hc with rfl | rfl | rfl | rfl | rfl | rfl | rfl | rfl | rfl | rfl | rfl | rfl | rfl | rfl | rfl | rfl | rfl | rfl | rfl | rfl | rfl | rfl | rfl | rfl | rfl | rfl | rfl | rfl | rfl | rfl | rfl | rfl | rfl | rfl | rfl | rfl | rfl | rfl | rfl | rfl | rfl | rfl | rfl | rfl | rfl | rfl | rfl | rfl | rfl | rfl | rfl | rfl | rfl | rfl | rfl | rfl | rfl | rfl | rfl | rfl | rfl | rfl | rfl | rfl
  all_goals (
    go_enter Tryd.func43, Tryd.ntmps43
    go_wp2
    go_ret
    exact ⟨by kernel_rfl, rfl⟩)
theorem len_bits (x : Nat) (h : x < 64) (w : World) : Calls Tryd.prog 35 #[.int .u64 (x : Nat)] w fun e w' => e = .returned (.int .i64 (lenB x : Nat)) ∧ w' = w := by
  go_enter Tryd.func35, Tryd.ntmps35
  go_wp2_with (go_at_call 43; refine stop0 ?_)
  refine (len64_any x h w).mono ?_
  rintro e w' ⟨rfl, hw⟩
  obtain rfl := hw.symm
  go_wp2
  go_ret
  exact ⟨rfl, rfl⟩
/-- The greatest power of two below a number. -/
def split (n : Nat) : Nat := 2 ^ Nat.log2 (n - 1)
set_option maxHeartbeats 4000000 in
theorem split_any (n : Nat) (h2 : 2 ≤ n) (h : n ≤ 64) (w : World) : Calls Tryd.prog 27 #[.int .i64 (n : Nat)] w fun e w' => e = .returned (.int .i64 (split n : Nat)) ∧ w' = w := by
  obtain ⟨m, rfl⟩ : ∃ m, n = m + 1 := ⟨n - 1, by omega⟩
  have hm : m < 64 := by omega
  have m1 : 1 ≤ m := by omega
  have e1 : ((m + 1 : Nat) : Int) - 1 = (m : Int) := by omega
  have c0 : (0 : Int) ≤ (m : Int) := by omega
  have c1 : (m : Int) < 64 := by omega
  have hl : 1 ≤ lenB m ∧ lenB m ≤ 6 ∧ split (m + 1) = 2 ^ (lenB m - 1) := by
    have hne : m ≠ 0 := by omega
    have hlt := (Nat.log2_lt hne).2 (show m < 2 ^ 6 by omega)
    unfold lenB split
    rw [if_neg hne, Nat.add_sub_cancel]
    exact ⟨by omega, by omega, rfl⟩
  have HM : Hid (m < 64) := hm
  obtain ⟨h1, h6, hs⟩ := hl
  rw [hs]
  clear hm h h2 m1 hs
  obtain ⟨c, hcE⟩ : ∃ c, lenB m = c := ⟨_, rfl⟩
  rw [hcE] at h1 h6 ⊢
  have HC : Hid (lenB m = c) := hcE
  clear hcE
  go_enter Tryd.func27, Tryd.ntmps27
  go_wp2_with (go_at_call 35; refine stop0 ?_)
  refine (len_bits m HM.out w).mono ?_
  rintro e w' ⟨rfl, hw⟩
  obtain rfl := hw.symm
  clear hw
  rw [HC.out]
  have hc : c = 1 ∨ c = 2 ∨ c = 3 ∨ c = 4 ∨ c = 5 ∨ c = 6 := by omega
  rcases hc with rfl | rfl | rfl | rfl | rfl | rfl
  all_goals (
    go_wp2
    go_ret
    exact ⟨by kernel_rfl, rfl⟩)
end Go.Proofs.YtepohpniflmblaaDoor
