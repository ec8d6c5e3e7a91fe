
/-
  HistoryLengths: its walk. For every input.
-/
import Derived.Test.YtcahmldgkkcheaaDoorHiI
import Derived.LoopTactic
namespace Go.Proofs.YtcahmldgkkcheaaDoor
open Go.RowKit
set_option maxRecDepth 100000
set_option linter.unusedVariables false
set_option linter.unusedSimpArgs false

theorem split_half {n s : Nat} (h : 2 ≤ n) (hs : n ≤ 2 ^ (s + 1)) : split n ≤ 2 ^ s ∧ n - split n ≤ 2 ^ s := by
  unfold split
  have hne : n - 1 ≠ 0 := by omega
  have h1 := Nat.log2_self_le hne
  have h2 : n - 1 < 2 ^ (Nat.log2 (n - 1) + 1) := Nat.lt_log2_self
  have h3 : Nat.log2 (n - 1) < s + 1 := (Nat.log2_lt hne).2 (by omega)
  have h4 : 2 ^ Nat.log2 (n - 1) ≤ 2 ^ s := Nat.pow_le_pow_right (by decide) (by omega)
  rw [Nat.pow_succ] at h2
  omega
theorem way_steps : ∀ (s i : Nat) (ea : Bool) (f t : Nat), f ≤ i → i < t → t - f ≤ 2 ^ s → (wayL i ea f t).2.length ≤ s := by
  intro s
  induction s with
  | zero =>
    intro i ea f t h1 h2 h
    rw [wayL_stop (Or.inl (by simp at h; omega))]
    exact Nat.le_refl _
  | succ s ih =>
    intro i ea f t h1 h2 h
    by_cases c : t < f + 2 ∨ (ea = true ∧ t = i + 1)
    · rw [wayL_stop c]
      exact Nat.zero_le _
    · have g1 : f + 2 ≤ t := by omega
      have g2 : ¬ (ea = true ∧ t = i + 1) := fun h => c (Or.inr h)
      have hs := split_lt (show 2 ≤ t - f by omega)
      have hh := split_half (show 2 ≤ t - f by omega) h
      by_cases g3 : i < f + split (t - f)
      · rw [wayL_low g1 g2 g3]
        have := ih i ea f (f + split (t - f)) h1 g3 (by omega)
        simp only [List.length_append, List.length_singleton]
        omega
      · rw [wayL_high g1 g2 g3]
        have := ih i ea (f + split (t - f)) t (by omega) h2 (by omega)
        simp only [List.length_append, List.length_singleton]
        omega
theorem path_len (i : Nat) (ea : Bool) (n : Nat) (L : List (List Nat)) : (pathL i ea n L).length = (wayL i ea 0 n).2.length := by simp [pathL]
theorem path_some {i n : Nat} (h : i < n) (h2 : 2 ≤ n) : 1 ≤ (wayL i false 0 n).2.length := by
  by_cases g3 : i < 0 + split (n - 0)
  · rw [wayL_low (by omega) (by simp) g3]; simp
  · rw [wayL_high (by omega) (by simp) g3]; simp
theorem grow_len {m n s : Nat} (L : List (List Nat)) (h0 : 0 < m) (hm : m < n) (hs : n ≤ 2 ^ s) : (growL m n L).length ≤ 2 * s := by
  have h1 := way_steps s (m - 1) true 0 n (Nat.zero_le _) (by omega) (by omega)
  have hs1 : 1 ≤ s := by
    apply Nat.one_le_iff_ne_zero.2
    intro e
    subst e
    simp at hs
    omega
  unfold growL
  rw [List.length_append, path_len]
  split <;> simp <;> omega
theorem pow_small (s : Nat) (h : s ≤ 6) : wrap64 ((2 : Int) ^ s) = ((2 ^ s : Nat) : Int) ∧ 2 ^ s ≤ 64 := by
  have hc : s = 0 ∨ s = 1 ∨ s = 2 ∨ s = 3 ∨ s = 4 ∨ s = 5 ∨ s = 6 := by omega
  rcases hc with rfl | rfl | rfl | rfl | rfl | rfl | rfl <;> simp [wrap64]
end Go.Proofs.YtcahmldgkkcheaaDoor
