
/-
  The law's own bits; the anchor of layer 9.
-/
import Derived.Test.YtcflbicjghndoaaRuB
namespace Go.Proofs.Ytcflbicjghndoaa
open Go.RowKit
set_option maxRecDepth 100000
set_option linter.unusedVariables false
set_option linter.unusedSimpArgs false

theorem pop4_half (y : Nat) (h : y < 16) : pop4 y = y % 2 + pop4 (y / 2) := by unfold pop4; omega
theorem lbits_any (k : Nat) (hk : k < 16) (w : World) :
    Calls Try.prog 10 #[.int .i64 k] w fun e w' => e = .returned (.int .i64 (pop4 k)) ∧ w' = w := by
  go_enter Try.func10, Try.ntmps10
  go_wp2
  go_loop [0, 3] (fun x n => ∃ y s : Nat, y < 16 ∧ s + pop4 y = pop4 k ∧ x = .int .i64 y ∧ n = .int .i64 s) (fun x _ => (intOf x).toNat)
  case atStart => exact ⟨k, 0, hk, by simp, rfl, rfl⟩
  case round =>
    obtain ⟨y, s, hy, hs, rfl, rfl⟩ := hrel
    have hp := pop4_half y hy
    have hs8 : s ≤ 8 := by
      have : pop4 k ≤ 8 := by unfold pop4; omega
      omega
    have HS : Hid (s + pop4 y = pop4 k ∧ pop4 y = y % 2 + pop4 (y / 2)) := ⟨hs, hp⟩
    clear hs hp
    by_cases hlt : 0 < y
    · have h1 : (0 : Int) < (y : Int) := by omega
      have ha : bits BinOp.and IntKind.i64 (y : Int) 1 = (y : Int) % 2 := by
        rw [show (1 : Int) = ((1 : Nat) : Int) from rfl, and_nat y 1 (by omega) (by omega), Nat.and_one_is_mod]; omega
      go_wp2
      go_round
      case rel =>
        obtain ⟨p1, p2⟩ := HS.out
        exact ⟨y / 2, s + y % 2, by omega, by omega, by go_num, by go_num⟩
      case measure => simp [intOf]; omega
    · obtain rfl : y = 0 := by omega
      go_wp2
      go_ret
      refine ⟨ret_int ?_, rfl⟩
      obtain ⟨p1, p2⟩ := HS.out
      have : pop4 0 = 0 := rfl
      omega

theorem fl12 : Fl 12 false true false true true false := ⟨by decide, ⟨12, by decide +kernel, by decide, by decide⟩, by decide, by decide, by decide, by decide⟩
set_option maxHeartbeats 1000000 in
theorem fit9_any (w : World) : Calls Try.prog 9 #[] w fun e w' => e = .returned (.bool true) ∧ Below w.heap.size w w' := by
  go_enter Try.func9, Try.ntmps9
  go_wp2_with fail
  refine (of_any _ _).mono ?_
  rintro e w1 ⟨rfl, hb1⟩
  go_wp2_with fail
  refine (transfer_any false true false false false true false true true false 0 1 0 0 0 0 0 0 0 0 0 0 12 0 0 0 _ ⟨by decide, by decide, by decide, by decide, fl12⟩).mono ?_
  rintro e w2 ⟨rfl, hb2⟩
  have hv : tkV false true false false false true false true true false = 4 := rfl
  rw [hv]
  go_wp2_with fail
  refine (of_any _ _).mono ?_
  rintro e w3 ⟨rfl, hb3⟩
  have k1 : bits BinOp.andNot IntKind.i64 0 7 = 0 := by decide
  have k2 : bits BinOp.and IntKind.i64 0 6 = 0 := by decide
  go_wp2
  go_ret
  exact ⟨rfl, (chain (chain hb1 hb2) hb3).trans (below1 w3 _ |>.mono (chain (chain hb1 hb2) hb3).size)⟩
end Go.Proofs.Ytcflbicjghndoaa
