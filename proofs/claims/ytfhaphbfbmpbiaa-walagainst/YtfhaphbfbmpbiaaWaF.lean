
/-
  package wal: Len, End; a sector's bytes.
-/
import Derived.Test.YtfhaphbfbmpbiaaWaE
namespace Go.Proofs.Ytfhaphbfbmpbiaa
open Go.RowKit
set_option maxRecDepth 100000
set_option linter.unusedVariables false
set_option linter.unusedSimpArgs false

theorem walLen_any (w : World) (W R cnt fin st : Nat) (h : Row w W (walV R cnt fin st) 75) : Calls Try.prog 17 #[.pointer (some ⟨W, 0, none⟩)] w fun e w' => e = .returned (.int .i64 (cnt : Nat)) ∧ w' = w := by
  have c1 := h.cell 1
  simp only [walV, List.getElem?_toArray, List.getElem?_cons_zero, List.getElem?_cons_succ] at c1
  go_enter Try.func17, Try.ntmps17
  go_wp2
  go_ret
  exact ⟨rfl, rfl⟩
theorem walEnd_any (w : World) (W R cnt fin st : Nat) (h : Row w W (walV R cnt fin st) 75) : Calls Try.prog 18 #[.pointer (some ⟨W, 0, none⟩)] w fun e w' => e = .returned (.int .i64 (fin : Nat)) ∧ w' = w := by
  have c1 := h.cell 2
  simp only [walV, List.getElem?_toArray, List.getElem?_cons_zero, List.getElem?_cons_succ] at c1
  go_enter Try.func18, Try.ntmps18
  go_wp2
  go_ret
  exact ⟨rfl, rfl⟩
/-- A sector's bytes: stamp, load, zeros, stamp. -/
def sealL (st : Nat) (l : List Nat) : List Nat := enc 4 st ++ (l ++ zs (56 - l.length)) ++ enc 4 st
theorem sealL_len {st : Nat} {l : List Nat} (h : l.length ≤ 56) : (sealL st l).length = 64 := by unfold sealL; simp only [List.length_append, enc_len, zs_len]; omega

end Go.Proofs.Ytfhaphbfbmpbiaa
