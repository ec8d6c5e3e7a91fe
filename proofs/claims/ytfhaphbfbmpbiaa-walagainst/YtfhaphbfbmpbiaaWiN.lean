
/-
  package wire's Writer: Num, Bytes. For all numbers.
-/
import Derived.Test.YtfhaphbfbmpbiaaWiW
import Derived.Test.YtfhaphbfbmpbiaaWiM
namespace Go.Proofs.Ytfhaphbfbmpbiaa
open Go.RowKit
set_option maxRecDepth 100000

theorem getD_app_l (l m : List Nat) (j : Nat) (h : j < l.length) : (l ++ m).getD j 0 = l.getD j 0 := by rw [List.getD, List.getD, List.getElem?_append_left h]
theorem getD_app_r (l m : List Nat) (j : Nat) (h : l.length ≤ j) : (l ++ m).getD j 0 = m.getD (j - l.length) 0 := by simp [List.getD, List.getElem?_append_right h]
theorem enc_getD : ∀ (n x j : Nat), j < n → (enc n x).getD j 0 = x / 256 ^ (n - 1 - j) % 256
  | 0, _, _, h => by omega
  | n + 1, x, j, h => by
    rw [enc]
    by_cases hj : j < n
    · rw [getD_app_l _ _ _ (by rw [enc_len]; exact hj), enc_getD n (x / 256) j hj, Nat.div_div_eq_div_mul, show n + 1 - 1 - j = (n - 1 - j) + 1 from by omega, Nat.pow_succ, Nat.mul_comm]
    · obtain rfl : j = n := by omega
      rw [getD_app_r _ _ _ (by rw [enc_len]; exact Nat.le_refl _), enc_len]
      simp
/-- The sixteen bytes of a number. -/
def numB (n : Nat × Nat) : List Nat := enc 8 n.1 ++ enc 8 n.2
theorem numB_len (n : Nat × Nat) : (numB n).length = 16 := by rw [numB, List.length_append, enc_len, enc_len]
theorem numB_w8 (n : Nat × Nat) : W8 (numB n) := (enc_w8 _ _).append (enc_w8 _ _)
theorem bH_getD (n : Nat × Nat) (j : Nat) (hj : j < 16) : bH (n.1 : Nat) (n.2 : Nat) j = ((numB n).getD j 0 : Nat) := by
  have e2 : ∀ k : Nat, (2 : Int) ^ (8 * k) = ((256 ^ k : Nat) : Int) := fun k => by rw [Int.pow_mul, Int.natCast_pow]; rfl
  unfold bH numB
  by_cases h : j < 8
  · rw [if_pos h, getD_app_l _ _ _ (by rw [enc_len]; exact h), enc_getD 8 _ j h, e2, show 8 - 1 - j = 7 - j from by omega]
    omega
  · rw [if_neg h, getD_app_r _ _ _ (by rw [enc_len]; omega), enc_len, enc_getD 8 _ (j - 8) (by omega), e2, show 8 - 1 - (j - 8) = 15 - j from by omega]
    omega
def Word64 (n : Nat × Nat) : Prop := n.1 < 18446744073709551616 ∧ n.2 < 18446744073709551616
/-- Numbers in blocks of which N holds. -/
def NumsOff (w : World) (N : Nat → Prop) (v : Value) (L : List (Nat × Nat)) : Prop :=
  L.length ≤ 1000 ∧ ∃ p c, v = .slice p L.length c ∧ ∀ i, i < L.length → ∃ b off, p = some ⟨b, off, none⟩ ∧ N b ∧ b < w.heap.size ∧ w.cell? ⟨b, off + i * 2, none⟩ = some (.int .u64 ((L.getD i (0, 0)).1 : Nat)) ∧ w.cell? ⟨b, off + i * 2 + 1, none⟩ = some (.int .u64 ((L.getD i (0, 0)).2 : Nat)) ∧ Word64 (L.getD i (0, 0))
/-- The bytes of the first k numbers. -/
def numsB (L : List (Nat × Nat)) (k : Nat) : List Nat := (L.take k).flatMap numB
theorem numsB_succ (L : List (Nat × Nat)) (k : Nat) (h : k < L.length) : numsB L (k + 1) = numsB L k ++ numB (L.getD k (0, 0)) := by
  unfold numsB
  rw [List.take_succ_eq_append_getElem (i := k) (l := L) h, List.flatMap_append]
  simp only [List.getD, List.getElem?_eq_getElem h, Option.getD_some, List.flatMap_cons, List.flatMap_nil, List.append_nil]
theorem numsB_len (L : List (Nat × Nat)) (k : Nat) (h : k ≤ L.length) : (numsB L k).length = 16 * k := by
  induction k with
  | zero => simp [numsB]
  | succ k ih => rw [numsB_succ L k (by omega), List.length_append, ih (by omega), numB_len]; omega
theorem numsB_all (L : List (Nat × Nat)) (k : Nat) (h : L.length ≤ k) : numsB L k = L.flatMap numB := by unfold numsB; rw [List.take_of_length_le h]

theorem wbytes_any (w : World) (b : Nat) (v : Value) (l : List Nat) (h : WrAt w b v l) (hl : l.length ≤ 1048576) :
    Calls Try.prog 26 #[.pointer (some ⟨b, 0, none⟩)] w fun e w' => ∃ v', e = .returned v' ∧ Own w' w.heap.size v' l ∧ Below w.heap.size w w' := by
  have c0 := h.row.cell 0
  simp only [List.getElem?_toArray, List.getElem?_cons_zero] at c0
  have hb := h.own.bytes h.w8 (by unfold maxLen; omega)
  obtain ⟨p, n, c, rfl, hn⟩ := h.own.form
  clear hn
  go_enter Try.func26, Try.ntmps26
  go_wp2_with (go_at_call 41; refine stop ?_)
  refine (clone_any _ l w hb hl).mono ?_
  rintro e w1 ⟨v', rfl, ho, hb1⟩
  obtain ⟨p', n', c', rfl, hn'⟩ := ho.form
  clear hn'
  go_wp2
  go_ret
  exact ⟨_, rfl, ho, hb1⟩
end Go.Proofs.Ytfhaphbfbmpbiaa
