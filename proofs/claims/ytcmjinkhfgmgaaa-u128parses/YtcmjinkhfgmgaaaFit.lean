/-
  paciolilaw01.fit is true in every world: the anchor that stands at each statement's head.
-/
import Derived.Test.YtcmjinkhfgmgaaaAdd
import Derived.Test.YtcmjinkhfgmgaaaPrint
namespace Go.Proofs.Ytcmjinkhfgmgaaa
open Go.RowKit

theorem cell_new_of (w : World) (C : Array Value) (t : TypeId) (i : Nat) : (w.alloc (.cells C t)).cell? ⟨w.heap.size, i, none⟩ = C[i]? := World.cell?_alloc_new w C t i

/-- Add of some numbers that were laid in a new block. -/
theorem add_new (w : World) (g : Nat) (hg : g = w.heap.size) (C : Array Value) (t : TypeId) (n cap : Nat) (H L : Nat → Int) (hn : n ≤ maxLen) (hC : ∀ i, i < n → C[i * 2]? = some (.int .u64 (H i)) ∧ C[i * 2 + 1]? = some (.int .u64 (L i)) ∧ Word (H i) ∧ Word (L i)) :
    Calls Try.prog 15 #[.slice (some ⟨g, 0, none⟩) n cap] (w.alloc (.cells C t)) fun e w' => e = .returned (addV (sumTo H L n)) ∧ Below w.heap.size w w' := by
  subst hg
  refine (add_any _ n cap H L _ ⟨hn, fun i hi => ⟨w.heap.size, 0, rfl, by simp, ?_⟩⟩).mono ?_
  · obtain ⟨h1, h2, h3, h4⟩ := hC i hi
    refine ⟨?_, ?_, h3, h4⟩
    · rw [Nat.zero_add, cell_new_of]; exact h1
    · rw [Nat.zero_add, cell_new_of]; exact h2
  · rintro e w' ⟨rfl, hb⟩
    exact ⟨rfl, (below1 w _).trans (hb.mono (by simp))⟩

theorem add2_new (w : World) (g : Nat) (hg : g = w.heap.size) (a b c d : Int) (t : TypeId) (cap : Nat) (k0 : Word a) (k1 : Word b) (k2 : Word c) (k3 : Word d) :
    Calls Try.prog 15 #[.slice (some ⟨g, 0, none⟩) 2 cap] (w.alloc (.cells #[.int .u64 a, .int .u64 b, .int .u64 c, .int .u64 d] t)) fun e w' => e = .returned (addV ((a * 18446744073709551616 + b) + (c * 18446744073709551616 + d))) ∧ Below w.heap.size w w' := by
  have h := add_new w g hg #[.int .u64 a, .int .u64 b, .int .u64 c, .int .u64 d] t 2 cap (fun i => if i = 0 then a else c) (fun i => if i = 0 then b else d) (by decide) (by
    intro i hi
    match i, hi with
    | 0, _ => exact ⟨rfl, rfl, k0, k1⟩
    | 1, _ => exact ⟨rfl, rfl, k2, k3⟩)
  simpa [sumTo] using h

theorem add3_new (w : World) (g : Nat) (hg : g = w.heap.size) (a b c d x y : Int) (t : TypeId) (cap : Nat) (k0 : Word a) (k1 : Word b) (k2 : Word c) (k3 : Word d) (k4 : Word x) (k5 : Word y) :
    Calls Try.prog 15 #[.slice (some ⟨g, 0, none⟩) 3 cap] (w.alloc (.cells #[.int .u64 a, .int .u64 b, .int .u64 c, .int .u64 d, .int .u64 x, .int .u64 y] t)) fun e w' => e = .returned (addV ((a * 18446744073709551616 + b) + (c * 18446744073709551616 + d) + (x * 18446744073709551616 + y))) ∧ Below w.heap.size w w' := by
  have h := add_new w g hg #[.int .u64 a, .int .u64 b, .int .u64 c, .int .u64 d, .int .u64 x, .int .u64 y] t 3 cap (fun i => if i = 0 then a else if i = 1 then c else x) (fun i => if i = 0 then b else if i = 1 then d else y) (by decide) (by
    intro i hi
    match i, hi with
    | 0, _ => exact ⟨rfl, rfl, k0, k1⟩
    | 1, _ => exact ⟨rfl, rfl, k2, k3⟩
    | 2, _ => exact ⟨rfl, rfl, k4, k5⟩)
  simpa [sumTo] using h

theorem word_max : Word 18446744073709551615 := ⟨by decide, by decide⟩
theorem word_one : Word 1 := ⟨by decide, by decide⟩
theorem word_zero : Word 0 := ⟨by decide, by decide⟩

set_option maxHeartbeats 2000000 in
theorem fit_any (w : World) : Calls Try.prog 13 #[] w fun e w' => e = .returned (.bool true) ∧ Below w.heap.size w w' := by
  go_enter Try.func13, Try.ntmps13
  go_wp2_with fail
  refine (max_any _).mono ?_
  rintro e w1 ⟨rfl, hb1⟩
  go_wp2_with fail
  refine (of_any _ _).mono ?_
  rintro e w2 ⟨rfl, hb2⟩
  go_wp2_with fail
  refine (add2_new w2 _ rfl _ _ _ _ _ _ word_max word_max word_zero word_one).mono ?_
  rintro e w3 ⟨rfl, hb3⟩
  rw [addV_no (by decide)]
  go_wp2_with fail
  refine (of_any _ _).mono ?_
  rintro e w4 ⟨rfl, hb4⟩
  go_wp2_with fail
  refine (of_any _ _).mono ?_
  rintro e w5 ⟨rfl, hb5⟩
  go_wp2_with fail
  refine (add2_new w5 _ rfl _ _ _ _ _ _ word_zero word_max word_zero word_one).mono ?_
  rintro e w6 ⟨rfl, hb6⟩
  rw [addV_yes (by decide)]
  go_wp2_with fail
  refine (print_any 1 0 _ word_one word_zero).mono ?_
  rintro e w7 ⟨rfl, hb7⟩
  rw [show strOfNums (dec (1 * 18446744073709551616 + 0 : Int).toNat) = ⟨#[49, 56, 52, 52, 54, 55, 52, 52, 48, 55, 51, 55, 48, 57, 53, 53, 49, 54, 49, 54]⟩ from by decide +kernel]
  go_wp2
  go_ret
  exact ⟨rfl, chain (chainA (chain (chain (chain (chainA (chain (chain hb1 hb2) hb3) _) hb4) hb5) hb6) _) hb7⟩
end Go.Proofs.Ytcmjinkhfgmgaaa
