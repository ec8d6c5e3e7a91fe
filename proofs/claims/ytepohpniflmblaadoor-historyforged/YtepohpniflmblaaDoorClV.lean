
/-
  Plain mathematics: trees of leaves' bytes that have one root are of the same leaves, or hashes clash; of whatever numbers of leaves.
-/
import Derived.Test.YtepohpniflmblaaDoorClU
import Derived.Test.YtepohpniflmblaaDoorHiH
namespace Go.Proofs.YtepohpniflmblaaDoor
set_option maxRecDepth 100000
set_option linter.unusedVariables false

theorem leafs_take (A : List (List Nat)) (k : Nat) : (leafs A).take k = leafs (A.take k) := by unfold leafs; rw [List.map_take]
theorem leafs_drop (A : List (List Nat)) (k : Nat) : (leafs A).drop k = leafs (A.drop k) := by unfold leafs; rw [List.map_drop]
theorem nil_msgL (b : List Nat) : ([] : List Nat) ≠ msgL b := by intro e; cases e
theorem nil_msgN (a b : List Nat) : ([] : List Nat) ≠ msgN a b := by intro e; cases e
/-- What was hashed for a tree: its leaves, its nodes. -/
noncomputable def allN (A : List (List Nat)) : List (List Nat) := A.map msgL ++ rootN (leafs A)
/-- The message whose hash a root is. -/
noncomputable def topM (A : List (List Nat)) : List Nat :=
  if A.length = 0 then [] else if A.length = 1 then msgL (A.getD 0 []) else msgN (rootL (leafs (A.take (split A.length)))) (rootL (leafs (A.drop (split A.length))))
theorem topM_nil : topM [] = [] := by unfold topM; rfl
theorem topM_one (a : List Nat) : topM [a] = msgL a := by unfold topM; simp
theorem topM_two {A : List (List Nat)} (h : 2 ≤ A.length) : topM A = msgN (rootL (leafs (A.take (split A.length)))) (rootL (leafs (A.drop (split A.length)))) := by
  unfold topM; rw [if_neg (by omega), if_neg (by omega)]
theorem top_root (A : List (List Nat)) : rootL (leafs A) = hsh (topM A) := by
  unfold topM
  match A with
  | [] => simp [leafs, rootL_nil]
  | [a] => simp [leafs, rootL_one]
  | a :: b :: l =>
    rw [if_neg (by simp), if_neg (by simp), rootL_two (by rw [leafs_len]; simp), leafs_len, leafs_take, leafs_drop]
theorem top_mem (A : List (List Nat)) : topM A ∈ allN A := by
  unfold topM allN
  match A with
  | [] => simp [leafs, rootN_nil]
  | [a] => simp
  | a :: b :: l =>
    rw [if_neg (by simp), if_neg (by simp), rootN_two (by rw [leafs_len]; simp), leafs_len, leafs_take, leafs_drop]
    simp
theorem allN_parts {A : List (List Nat)} (h : 2 ≤ A.length) : (∀ x ∈ allN (A.take (split A.length)), x ∈ allN A) ∧ (∀ x ∈ allN (A.drop (split A.length)), x ∈ allN A) := by
  unfold allN
  rw [rootN_two (l := leafs A) (by rw [leafs_len]; exact h), leafs_len, leafs_take, leafs_drop]
  constructor
  · intro x hx
    rcases List.mem_append.1 hx with hx | hx
    · obtain ⟨y, hy, rfl⟩ := List.mem_map.1 hx
      exact List.mem_append_left _ (List.mem_map_of_mem (List.mem_of_mem_take hy))
    · simp [hx]
  · intro x hx
    rcases List.mem_append.1 hx with hx | hx
    · obtain ⟨y, hy, rfl⟩ := List.mem_map.1 hx
      exact List.mem_append_left _ (List.mem_map_of_mem (List.mem_of_mem_drop hy))
    · simp [hx]
theorem leafs_inj : ∀ (n : Nat) (A B : List (List Nat)), A.length + B.length ≤ n → rootL (leafs A) = rootL (leafs B) → ClN (allN A ++ allN B) ∨ A = B := by
  intro n
  induction n with
  | zero =>
    intro A B h _
    exact Or.inr (by rw [List.eq_nil_of_length_eq_zero (show A.length = 0 by omega), List.eq_nil_of_length_eq_zero (show B.length = 0 by omega)])
  | succ n ih =>
    intro A B h he
    rw [top_root, top_root] at he
    rcases hsh_or (N := allN A ++ allN B) (List.mem_append_left _ (top_mem A)) (List.mem_append_right _ (top_mem B)) he with hc | hq
    · exact Or.inl hc
    · match A, B with
      | [], [] => exact Or.inr rfl
      | [], [b] => rw [topM_nil, topM_one] at hq; exact absurd hq (nil_msgL _)
      | [a], [] => rw [topM_nil, topM_one] at hq; exact absurd hq.symm (nil_msgL _)
      | [], b :: c :: l => rw [topM_nil, topM_two (by simp)] at hq; exact absurd hq (nil_msgN _ _)
      | a :: c :: l, [] => rw [topM_nil, topM_two (by simp)] at hq; exact absurd hq.symm (nil_msgN _ _)
      | [a], [b] => rw [topM_one, topM_one] at hq; exact Or.inr (by rw [msgL_inj hq])
      | [a], b :: c :: l => rw [topM_one, topM_two (by simp)] at hq; exact absurd hq msgLN
      | a :: c :: l, [b] => rw [topM_two (by simp), topM_one] at hq; exact absurd hq.symm msgLN
      | a :: c :: l, b :: d :: m =>
        have hA2 : 2 ≤ (a :: c :: l).length := by simp
        have hB2 : 2 ≤ (b :: d :: m).length := by simp
        rw [topM_two hA2, topM_two hB2] at hq
        generalize a :: c :: l = A at *
        generalize b :: d :: m = B at *
        obtain ⟨q1, q2⟩ := msgN_inj (rootL_32 (leafs_ok _)) (rootL_32 (leafs_ok _)) hq
        have sA := split_lt hA2
        have sB := split_lt hB2
        obtain ⟨a1, a2⟩ := allN_parts hA2
        obtain ⟨b1, b2⟩ := allN_parts hB2
        rcases ih _ _ (by rw [List.length_take, List.length_take]; omega) q1 with hc | e1
        · exact Or.inl (hc.mono fun x hx => by
            rcases List.mem_append.1 hx with hx | hx
            · exact List.mem_append_left _ (a1 x hx)
            · exact List.mem_append_right _ (b1 x hx))
        · rcases ih _ _ (by rw [List.length_drop, List.length_drop]; omega) q2 with hc | e2
          · exact Or.inl (hc.mono fun x hx => by
              rcases List.mem_append.1 hx with hx | hx
              · exact List.mem_append_left _ (a2 x hx)
              · exact List.mem_append_right _ (b2 x hx))
          · exact Or.inr (by rw [← List.take_append_drop (split A.length) A, e1, e2, List.take_append_drop])
end Go.Proofs.YtepohpniflmblaaDoor
