
import Derived.Test.YtkamagicnemppaaDkOpw0
import Derived.Test.YtkamagicnemppaaDkOpw1
import Derived.Test.YtkamagicnemppaaDkOpfl
import Derived.Test.YtkamagicnemppaaDkOpcr
import Derived.Test.YtkamagicnemppaaDkOpar
import Derived.Test.YtkamagicnemppaaDkOpck
import Derived.Test.YtkamagicnemppaaDkOpfin
namespace Go.Proofs.Ytkamagicnemppaa
open Go.RowKit
set_option maxRecDepth 100000
set_option linter.unusedVariables false
set_option linter.unusedSimpArgs false
theorem runs_walk (u : Value) (L : List CIn) (w : World) (hL : CallsAt w u L) :
    Calls Try.prog 3 #[u] w fun e w' => e = .returned (.bool true) ∧ Below w.heap.size w w' :=
  dkOPack.out ⟨dkOPack_w0⟩ ⟨dkOPack_w1⟩ ⟨dkOPack_fl⟩ ⟨dkOPack_cr⟩ ⟨dkOPack_ar⟩ ⟨dkOPack_ck⟩ ⟨dkOPack_fin⟩ u L w hL
end Go.Proofs.Ytkamagicnemppaa
