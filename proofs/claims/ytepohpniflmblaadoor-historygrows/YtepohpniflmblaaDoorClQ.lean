
/-
  Growth by one leaf, and that Grown takes it.
-/
import Derived.Test.YtepohpniflmblaaDoorClP
import Derived.Test.YtepohpniflmblaaDoorClL
set_option maxRecDepth 100000
namespace Go.Proofs.YtepohpniflmblaaDoor
open Go.RowKit
set_option linter.unusedVariables false
set_option linter.unusedSimpArgs false

theorem growL_32 {m n : Nat} {L : List (List Nat)} (hL : ∀ y ∈ L, H32 y) : ∀ y ∈ growL m n L, H32 y := by
  intro y hy
  unfold growL at hy
  rcases List.mem_append.1 hy with h | h
  · split at h
    · rw [List.mem_singleton] at h
      subst h
      exact root_32 _ _ (Nat.le_refl _) (fun z hz => hL z (List.mem_of_mem_drop (List.mem_of_mem_take hz)))
    · cases h
  · unfold pathL at h
    obtain ⟨s, _, rfl⟩ := List.mem_map.1 h
    exact root_32 _ _ (Nat.le_refl _) (fun z hz => hL z (sideOf_mem hz))
theorem more_growth (A : List (List Nat)) (x : List Nat) (v : Value) (w : World) (hA : ∀ y ∈ A, H32 y) (hx : H32 x) (h64 : A.length + 1 ≤ 64) (hv : HsAt w v (A ++ [x])) (ht : Tab w) :
    Calls Tryd.prog 22 #[.pointer none, .int .i64 (A.length : Nat), v] w fun e w' => ∃ p n c P, e = .returned (.tuple #[.slice p n c, .bool true]) ∧ HsAt w' (.slice p n c) P ∧ Below w.heap.size w w' ∧
      ∀ wr, HsAt wr (.slice p n c) P → Tab wr → 0 < wr.heap.size → Calls Tryd.prog 23 #[.pointer none, .int .i64 (A.length : Nat), .int .i64 (A.length + 1 : Nat), .agg (bytesL (rootL A)), .agg (bytesL (rootL (A ++ [x]))), .slice p n c] wr fun e w' => e = .returned (.bool true) ∧ Below wr.heap.size wr w' := by
  have hG : ∀ y ∈ A ++ [x], H32 y := by
    intro y hy
    rcases List.mem_append.1 hy with h | h
    · exact hA y h
    · rw [List.mem_singleton] at h; exact h ▸ hx
  have hlen : (A ++ [x]).length = A.length + 1 := by simp
  have h1 : H32 (rootL A) := root_32 _ A (Nat.le_refl _) hA
  have h2 : H32 (rootL (A ++ [x])) := root_32 _ _ (Nat.le_refl _) hG
  by_cases h0 : A.length = 0
  · obtain rfl : A = [] := List.eq_nil_of_length_eq_zero h0
    refine (growth_none v ([] ++ [x]) w 0 (Or.inl rfl) (by simp) hv).mono ?_
    rintro e w' ⟨rfl, rfl⟩
    refine ⟨none, 0, 0, [], rfl, HsAt.nil _ _ (Nat.zero_le _) _, Below.refl _ _, fun wr hp ht' hpos => ?_⟩
    refine (grown_none 1 _ _ _ [] wr.heap.size (.pointer none) [] wr (by decide) h1 h2 hp ht' hpos (Nat.le_refl _) (TpAt.nil _ _ _) (by simp)).mono ?_
    rintro e w' ⟨rfl, _, hs⟩
    exact ⟨by simp, TStep.below (Below.refl _ _) hs⟩
  · refine (growth_any A.length v (A ++ [x]) w (Nat.pos_of_ne_zero h0) (by simp) (by rw [hlen]; exact h64) hv ht).mono ?_
    rintro e w' ⟨u, rfl, ho, hb⟩
    obtain ⟨p, n, c, rfl, hn⟩ := ownsRowN_form ho
    subst hn
    refine ⟨p, _, c, _, rfl, ho.hs (growL_32 hG), hb, fun wr hp ht' hpos => ?_⟩
    refine (grown_any A.length (A.length + 1) _ _ _ _ wr.heap.size (.pointer none) [] wr (Nat.pos_of_ne_zero h0) (by omega) (by omega) h1 h2 hp ht' hpos (Nat.le_refl _) (TpAt.nil _ _ _) (by simp)).mono ?_
    rintro e w' ⟨⟨r, rfl, hr⟩, _, hs⟩
    have hgt := grown_true (L := A ++ [x]) (m := A.length) (Nat.pos_of_ne_zero h0) (by omega)
    rw [List.take_left, hlen] at hgt
    have := hr.2 (by rw [hlen] at *; exact hgt)
    subst this
    exact ⟨rfl, TStep.below (Below.refl _ _) hs⟩
end Go.Proofs.YtepohpniflmblaaDoor
