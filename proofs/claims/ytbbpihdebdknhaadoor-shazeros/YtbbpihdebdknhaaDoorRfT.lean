/-
  The reference's Sum keeps its contract.
-/
import Derived.Test.YtbbpihdebdknhaaDoorShLZ
import Derived.Test.YtbbpihdebdknhaaDoorRfS
namespace Go.Proofs.YtbbpihdebdknhaaDoor
theorem sum_c : SumC := fun mv m w h hl => sum_any mv m w h hl
end Go.Proofs.YtbbpihdebdknhaaDoor
