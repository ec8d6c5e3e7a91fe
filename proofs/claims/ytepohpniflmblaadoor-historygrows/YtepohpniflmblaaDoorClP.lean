
/-
  Hashes appended to none; one more leaf leads to another root, or hashes clash.
-/
import Derived.Test.YtepohpniflmblaaDoorClV
import Derived.Test.YtepohpniflmblaaDoorClO
import Derived.Test.YtepohpniflmblaaDoorHiF
set_option maxRecDepth 100000
namespace Go.Proofs.YtepohpniflmblaaDoor
open Go.RowKit
set_option linter.unusedVariables false
set_option linter.unusedSimpArgs false

theorem hC_len : ∀ (L : List (List Nat)), (∀ l ∈ L, H32 l) → (hC L).length = L.length * 32
  | [], _ => rfl
  | a :: L, h => by
    rw [hC_cons, List.length_append, hb_len (h a (by simp)), hC_len L (fun x hx => h x (by simp [hx])), List.length_cons]; omega
theorem hC_one (L : List (List Nat)) : ∀ u ∈ hC L, u.oneCell' = true := by
  intro u hu
  unfold hC at hu
  obtain ⟨a, _, hu⟩ := List.mem_flatMap.1 hu
  have := bytesL_one a
  rw [Array.all_eq_true_iff_forall_mem] at this
  exact this u (by simpa using hu)
/-- What a call owns of hashes, appended to none: a copy. -/
theorem append_hs (w : World) (b0 : Nat) (u : Value) (L : List (List Nat)) (h : OwnH w b0 u L) (hok : ∀ l ∈ L, H32 l) (hl : L.length ≤ 1000) :
    ∃ v' w', (Builtin.append_ #[25, 25] 25 #[.slice none 0 0, u]).run Tryd.prog w = .ok v' w' ∧ OwnH w' w.heap.size v' L ∧ Below w.heap.size w w' := by
  obtain ⟨i, hi, z0, z1, z2⟩ := info_some hash_z
  obtain ⟨hlen, ⟨rfl, h0⟩ | ⟨g, cap, cur, rfl, hb, hg, h1, h2, h3, h4⟩⟩ := id h
  · obtain rfl : L = [] := List.eq_nil_of_length_eq_zero (by simpa using h0)
    refine ⟨.slice none 0 0, w, ?_, OwnH.nil _ _, Below.refl _ _⟩
    simp [Builtin.append_, run_underlying (show Tryd.prog.underlying 25 = some (.slice 28) by kernel_rfl), sizeOf, typeInfo, hi, Builtin.lenOf, Builtin.firstCells, loadCells, loadCellsFrom]
  · have hr : w.rangeAt g 0 (hC L) := fun j u hu => by
      have hr : Row w g cur 28 := hg
      have hj : j < L.length * 32 := by rw [← hC_len L hok]; exact (List.getElem?_eq_some_iff.1 hu).1
      rw [hr.cell, Nat.zero_add, ← hu, ← h4, List.getElem?_take, if_pos hj, Array.getElem?_toList]
    have hb63 : (0 + L.length) * i.bytes ≤ 140737488355328 := by rw [z2]; omega
    obtain ⟨v', w', h1, h2, h3, _⟩ := run_append_own_at (P := Tryd.prog) w w.heap.size 25 25 28 i _ 32 i.bytes (by kernel_rfl) hi z0 z1 rfl (by simp [Value.cells, bytesL_size]) (by decide) (.slice none 0 0) 0 [] (World.ownsRow_nil _ _ _ _) ⟨g, 0, none⟩ L.length cap (hC L) (hC_len L hok)
      (fun j u hu => by rw [show (⟨g, 0, none⟩ : Addr).add j = ⟨g, 0 + j, none⟩ from Addr.add_lit ..]; exact hr j u hu) (hC_one L) (by unfold maxLen; omega) hb63 (Nat.le_refl _)
    rw [Nat.zero_add, List.nil_append] at h2
    exact ⟨v', w', h1, h2, ⟨h3.os, h3.tape, h3.output, h3.size, fun k hk => h3.block k hk (by simp [Value.ownBlock])⟩⟩
theorem leafs_snoc (L : List (List Nat)) (b : List Nat) : leafs (L ++ [b]) = leafs L ++ [hsh (msgL b)] := by unfold leafs; simp
theorem more_clash {L : List (List Nat)} {b : List Nat} (e : rootL (leafs L) = rootL (leafs L ++ [hsh (msgL b)])) :
    ClN (L.map msgL ++ rootN (leafs L) ++ [msgL b] ++ rootN (leafs L ++ [hsh (msgL b)])) := by
  rw [← leafs_snoc] at e ⊢
  rcases leafs_inj _ L (L ++ [b]) (Nat.le_refl _) e with hc | q
  · refine hc.mono ?_
    intro x hx
    unfold allN at hx
    rw [List.map_append, List.map_singleton] at hx
    simp only [List.mem_append] at hx ⊢
    rcases hx with (h | h) | (h | h) | h <;> simp [h]
  · exact absurd (congrArg List.length q) (by simp)
end Go.Proofs.YtepohpniflmblaaDoor
