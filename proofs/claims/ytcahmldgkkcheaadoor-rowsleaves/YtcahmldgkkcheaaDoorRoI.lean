
import Derived.Test.YtcahmldgkkcheaaDoorRoIpA
import Derived.Test.YtcahmldgkkcheaaDoorRoIpB
set_option maxRecDepth 100000
namespace Go.Proofs.YtcahmldgkkcheaaDoor
open Go.RowKit
set_option linter.unusedVariables false
set_option linter.unusedSimpArgs false
theorem leaves_walk (a : Rc) (b : Rc) (w : World) (ha : a.ok) (hb : b.ok) (ht : Tab w) :
    Calls Tryd.prog 8 #[.agg a.cs, .agg b.cs] w fun e w' => e = .returned (.bool true) ∧ Below w.heap.size w w' :=
  roIPack.out ⟨roIPack_A⟩ ⟨roIPack_B⟩ a b w ha hb ht
end Go.Proofs.YtcahmldgkkcheaaDoor
