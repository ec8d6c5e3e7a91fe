
/-
  Leaves: of bytes, with no tape.
-/
import Derived.Test.YtcahmldgkkcheaaDoorHiG
namespace Go.Proofs.YtcahmldgkkcheaaDoor
open Go.RowKit
set_option maxRecDepth 100000
set_option linter.unusedVariables false
set_option linter.unusedSimpArgs false

noncomputable def leafs (L : List (List Nat)) : List (List Nat) := L.map fun b => hsh (msgL b)
theorem leafs_len (L : List (List Nat)) : (leafs L).length = L.length := by simp [leafs]
theorem leafs_ok (L : List (List Nat)) : ∀ l ∈ leafs L, H32 l := by
  intro l hl
  obtain ⟨b, _, rfl⟩ := List.mem_map.1 hl
  exact hsh_32 _
theorem leafs_succ {L : List (List Nat)} {k : Nat} (h : k < L.length) : leafs (L.take (k + 1)) = leafs (L.take k) ++ [hsh (msgL (L.getD k []))] := by
  unfold leafs
  rw [List.take_succ_eq_append_getElem h, List.map_append]
  simp [List.getD, h]
end Go.Proofs.YtcahmldgkkcheaaDoor
