
/-
  history's Growth with no tape. For at most 64 leaves.
-/
import Derived.Test.YtcahmldgkkcheaaDoorHiH
namespace Go.Proofs.YtcahmldgkkcheaaDoor
open Go.RowKit
set_option maxRecDepth 100000
set_option linter.unusedVariables false
set_option linter.unusedSimpArgs false

/-- What shows that the first m were there ahead of all. -/
noncomputable def growL (m n : Nat) (L : List (List Nat)) : List (List Nat) :=
  (if 0 < (wayL (m - 1) true 0 n).1 then [rootL ((L.drop (wayL (m - 1) true 0 n).1).take (m - (wayL (m - 1) true 0 n).1))] else []) ++ pathL (m - 1) true n L
end Go.Proofs.YtcahmldgkkcheaaDoor
