
/-
  The walk of paciolilaw09.RuleRepeats: its ways joined.
-/
import Derived.Test.YtkigdfpgdkgcaaaRuG
namespace Go.Proofs.Ytkigdfpgdkgcaaa
open Go.RowKit
set_option maxRecDepth 100000
set_option linter.unusedVariables false
set_option linter.unusedSimpArgs false

theorem one_set {X : Array Value} (h : X.all (·.oneCell') = true) (i : Nat) (v : Value) (hv : v.oneCell' = true) : (X.setIfInBounds i v).all (·.oneCell') = true := by
  rw [Array.all_eq_true] at h ⊢
  intro j hj
  rw [Array.getElem_setIfInBounds]
  split
  · exact hv
  · exact h j (by simpa using hj)
set_option maxHeartbeats 4000000 in
theorem law_repeats (a0 a1 a2 a3 a4 a5 a6 a7 a8 a9 a10 a11 a12 a13 a14 a15 x n0 n1 : Int) (w : World) :
    Calls Try.prog 4 #[.agg #[.int .u64 a0, .int .u64 a1, .int .u64 a2, .int .u64 a3, .int .u64 a4, .int .u64 a5, .int .u64 a6, .int .u64 a7, .int .u64 a8, .int .u64 a9, .int .i64 a10, .int .i64 a11, .int .i64 a12, .int .i64 a13, .int .i64 a14, .int .i64 a15], .int .i64 x, .agg #[.int .u64 n0, .int .u64 n1]] w fun e w' => e = .returned (.bool true) ∧ Below w.heap.size w w' := by
  obtain ⟨k, hk, hk2⟩ := and_mask x 255 (by decide)
  have hk255 : k ≤ 255 := by rw [hk2]; exact Nat.and_le_right
  have hx : bits .and .i64 x 255 = (k : Int) := hk
  have hc : (k : Int) % 9 = 0 ∨ (k : Int) % 9 = 1 ∨ (k : Int) % 9 = 2 ∨ (k : Int) % 9 = 3 ∨ (k : Int) % 9 = 4 ∨ (k : Int) % 9 = 5 ∨ (k : Int) % 9 = 6 ∨ (k : Int) % 9 = 7 ∨ (k : Int) % 9 = 8 := by omega
  rcases hc with h | h | h | h | h | h | h | h | h
  · exact reps_c0 _ _ _ a12 a11 x k n0 n1 w hx (by omega) (by omega) h rfl (by simp [Value.oneCell']) (one_set (by simp [Value.oneCell']) _ _ rfl) rfl rfl rfl (by simp)
      (fun w => repeat_any false true true true true false true a0 a1 a2 a3 a4 a5 a6 a7 a8 a9 a10 a11 a12 a13 a14 a15 a0 a1 a2 a3 a4 a5 a6 a7 a8 a9 a10 (bits .xor .i64 a11 2) (bits .xor .i64 a12 1) a13 a14 a15 w (flag_back1 _) (same2 _ _) (same2 _ _) (same2 _ _) (same2 _ _) (not_ne _) (ne_i _ _ (by decide)))
      (fun w => repeat_any false true true true true false false a0 a1 a2 a3 a4 a5 a6 a7 a8 a9 a10 a11 a12 a13 a14 a15 a0 a1 a2 a3 a4 a5 a6 a7 a8 a9 a10 a11 (bits .xor .i64 a12 1) a13 a14 a15 w (flag_back1 _) (same2 _ _) (same2 _ _) (same2 _ _) (same2 _ _) (not_ne _) (not_ne _))
  · exact reps_c1 _ _ _ a12 a11 x k n0 n1 w hx (by omega) (by omega) h rfl (by simp [Value.oneCell']) (one_set (by simp [Value.oneCell']) _ _ rfl) rfl rfl rfl (by simp)
      (fun w => repeat_any true true true true true false true a0 a1 a2 a3 a4 a5 a6 a7 a8 a9 a10 a11 a12 a13 a14 a15 a0 a1 a2 a3 a4 a5 a6 a7 a8 a9 a10 (bits .xor .i64 a11 2) (bits .xor .i64 a12 2) a13 a14 a15 w (flag_back2 _) (same2 _ _) (same2 _ _) (same2 _ _) (same2 _ _) (not_ne _) (ne_i _ _ (by decide)))
      (fun w => repeat_any true true true true true false false a0 a1 a2 a3 a4 a5 a6 a7 a8 a9 a10 a11 a12 a13 a14 a15 a0 a1 a2 a3 a4 a5 a6 a7 a8 a9 a10 a11 (bits .xor .i64 a12 2) a13 a14 a15 w (flag_back2 _) (same2 _ _) (same2 _ _) (same2 _ _) (same2 _ _) (not_ne _) (not_ne _))
  · exact reps_c2 _ _ _ a3 a11 x k n0 n1 w hx (by omega) (by omega) h rfl (by simp [Value.oneCell']) (one_set (by simp [Value.oneCell']) _ _ rfl) rfl rfl rfl (by simp)
      (fun w => repeat_any false false true true true false true a0 a1 a2 a3 a4 a5 a6 a7 a8 a9 a10 a11 a12 a13 a14 a15 a0 a1 a2 (bits .xor .u64 a3 1) a4 a5 a6 a7 a8 a9 a10 (bits .xor .i64 a11 2) a12 a13 a14 a15 w (flag_same _) (lo_u _ _ _ (by decide)) (same2 _ _) (same2 _ _) (same2 _ _) (not_ne _) (ne_i _ _ (by decide)))
      (fun w => repeat_any false false true true true false false a0 a1 a2 a3 a4 a5 a6 a7 a8 a9 a10 a11 a12 a13 a14 a15 a0 a1 a2 (bits .xor .u64 a3 1) a4 a5 a6 a7 a8 a9 a10 a11 a12 a13 a14 a15 w (flag_same _) (lo_u _ _ _ (by decide)) (same2 _ _) (same2 _ _) (same2 _ _) (not_ne _) (not_ne _))
  · exact reps_c3 _ _ _ a4 a11 x k n0 n1 w hx (by omega) (by omega) h rfl (by simp [Value.oneCell']) (one_set (by simp [Value.oneCell']) _ _ rfl) rfl rfl rfl (by simp)
      (fun w => repeat_any false true false true true false true a0 a1 a2 a3 a4 a5 a6 a7 a8 a9 a10 a11 a12 a13 a14 a15 a0 a1 a2 a3 (bits .xor .u64 a4 1) a5 a6 a7 a8 a9 a10 (bits .xor .i64 a11 2) a12 a13 a14 a15 w (flag_same _) (same2 _ _) (hi_u _ _ _ (by decide)) (same2 _ _) (same2 _ _) (not_ne _) (ne_i _ _ (by decide)))
      (fun w => repeat_any false true false true true false false a0 a1 a2 a3 a4 a5 a6 a7 a8 a9 a10 a11 a12 a13 a14 a15 a0 a1 a2 a3 (bits .xor .u64 a4 1) a5 a6 a7 a8 a9 a10 a11 a12 a13 a14 a15 w (flag_same _) (same2 _ _) (hi_u _ _ _ (by decide)) (same2 _ _) (same2 _ _) (not_ne _) (not_ne _))
  · exact reps_c4 _ _ _ a7 a11 x k n0 n1 w hx (by omega) (by omega) h rfl (by simp [Value.oneCell']) (one_set (by simp [Value.oneCell']) _ _ rfl) rfl rfl rfl (by simp)
      (fun w => repeat_any false true true false true false true a0 a1 a2 a3 a4 a5 a6 a7 a8 a9 a10 a11 a12 a13 a14 a15 a0 a1 a2 a3 a4 a5 a6 (bits .xor .u64 a7 4) a8 a9 a10 (bits .xor .i64 a11 2) a12 a13 a14 a15 w (flag_same _) (same2 _ _) (same2 _ _) (lo_u _ _ _ (by decide)) (same2 _ _) (not_ne _) (ne_i _ _ (by decide)))
      (fun w => repeat_any false true true false true false false a0 a1 a2 a3 a4 a5 a6 a7 a8 a9 a10 a11 a12 a13 a14 a15 a0 a1 a2 a3 a4 a5 a6 (bits .xor .u64 a7 4) a8 a9 a10 a11 a12 a13 a14 a15 w (flag_same _) (same2 _ _) (same2 _ _) (lo_u _ _ _ (by decide)) (same2 _ _) (not_ne _) (not_ne _))
  · exact reps_c5 _ _ _ a9 a11 x k n0 n1 w hx (by omega) (by omega) h rfl (by simp [Value.oneCell']) (one_set (by simp [Value.oneCell']) _ _ rfl) rfl rfl rfl (by simp)
      (fun w => repeat_any false true true true false false true a0 a1 a2 a3 a4 a5 a6 a7 a8 a9 a10 a11 a12 a13 a14 a15 a0 a1 a2 a3 a4 a5 a6 a7 a8 (bits .xor .u64 a9 1) a10 (bits .xor .i64 a11 2) a12 a13 a14 a15 w (flag_same _) (same2 _ _) (same2 _ _) (same2 _ _) (lo_u _ _ _ (by decide)) (not_ne _) (ne_i _ _ (by decide)))
      (fun w => repeat_any false true true true false false false a0 a1 a2 a3 a4 a5 a6 a7 a8 a9 a10 a11 a12 a13 a14 a15 a0 a1 a2 a3 a4 a5 a6 a7 a8 (bits .xor .u64 a9 1) a10 a11 a12 a13 a14 a15 w (flag_same _) (same2 _ _) (same2 _ _) (same2 _ _) (lo_u _ _ _ (by decide)) (not_ne _) (not_ne _))
  · exact reps_c6 _ _ _ a10 a11 x k n0 n1 w hx (by omega) (by omega) h rfl (by simp [Value.oneCell']) (one_set (by simp [Value.oneCell']) _ _ rfl) rfl rfl rfl (by simp)
      (fun w => repeat_any false true true true true true true a0 a1 a2 a3 a4 a5 a6 a7 a8 a9 a10 a11 a12 a13 a14 a15 a0 a1 a2 a3 a4 a5 a6 a7 a8 a9 (bits .xor .i64 a10 1) (bits .xor .i64 a11 2) a12 a13 a14 a15 w (flag_same _) (same2 _ _) (same2 _ _) (same2 _ _) (same2 _ _) (ne_i _ _ (by decide)) (ne_i _ _ (by decide)))
      (fun w => repeat_any false true true true true true false a0 a1 a2 a3 a4 a5 a6 a7 a8 a9 a10 a11 a12 a13 a14 a15 a0 a1 a2 a3 a4 a5 a6 a7 a8 a9 (bits .xor .i64 a10 1) a11 a12 a13 a14 a15 w (flag_same _) (same2 _ _) (same2 _ _) (same2 _ _) (same2 _ _) (ne_i _ _ (by decide)) (not_ne _))
  · exact reps_c7 _ _ _ a11 x k n0 n1 w hx (by omega) (by omega) h rfl (by simp [Value.oneCell']) (one_set (by simp [Value.oneCell']) _ _ rfl) rfl rfl rfl (by simp)
      (fun w => repeat_any false true true true true false true a0 a1 a2 a3 a4 a5 a6 a7 a8 a9 a10 a11 a12 a13 a14 a15 a0 a1 a2 a3 a4 a5 a6 a7 a8 a9 a10 (bits .xor .i64 (bits .xor .i64 a11 1) 2) a12 a13 a14 a15 w (flag_same _) (same2 _ _) (same2 _ _) (same2 _ _) (same2 _ _) (not_ne _) (ne_i2 _))
      (fun w => repeat_any false true true true true false true a0 a1 a2 a3 a4 a5 a6 a7 a8 a9 a10 a11 a12 a13 a14 a15 a0 a1 a2 a3 a4 a5 a6 a7 a8 a9 a10 (bits .xor .i64 a11 1) a12 a13 a14 a15 w (flag_same _) (same2 _ _) (same2 _ _) (same2 _ _) (same2 _ _) (not_ne _) (ne_i _ _ (by decide)))
  · exact reps_c8 _ _ _ a13 a14 a15 a11 x k n0 n1 w hx (by omega) (by omega) h rfl (by simp [Value.oneCell']) (one_set (one_set (one_set (by simp [Value.oneCell']) _ _ rfl) _ _ rfl) _ _ rfl) rfl rfl rfl rfl rfl (by simp)
      (fun w => repeat_any false true true true true false true a0 a1 a2 a3 a4 a5 a6 a7 a8 a9 a10 a11 a12 a13 a14 a15 a0 a1 a2 a3 a4 a5 a6 a7 a8 a9 a10 (bits .xor .i64 a11 2) a12 7 8 2 w (flag_same _) (same2 _ _) (same2 _ _) (same2 _ _) (same2 _ _) (not_ne _) (ne_i _ _ (by decide)))
      (fun w => repeat_any false true true true true false false a0 a1 a2 a3 a4 a5 a6 a7 a8 a9 a10 a11 a12 a13 a14 a15 a0 a1 a2 a3 a4 a5 a6 a7 a8 a9 a10 a11 a12 7 8 2 w (flag_same _) (same2 _ _) (same2 _ _) (same2 _ _) (same2 _ _) (not_ne _) (not_ne _))
end Go.Proofs.Ytkigdfpgdkgcaaa
