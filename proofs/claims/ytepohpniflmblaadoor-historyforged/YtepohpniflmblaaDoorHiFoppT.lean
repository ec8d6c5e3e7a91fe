
import Derived.Test.YtepohpniflmblaaDoorHiFoTpp22
import Derived.Test.YtepohpniflmblaaDoorHiFoTpp26
import Derived.Test.YtepohpniflmblaaDoorHiFoTpp27
set_option maxRecDepth 100000
namespace Go.Proofs.YtepohpniflmblaaDoor
open Go.RowKit
set_option linter.unusedVariables false
set_option linter.unusedSimpArgs false
theorem hiFoPack_pT : hiFoPack.p_pT :=
  hiFoTPack.out ⟨hiFoTPack_p22⟩ ⟨hiFoTPack_p26⟩ ⟨hiFoTPack_p27⟩ 
end Go.Proofs.YtepohpniflmblaaDoor
