import Derived.Test.YtbbpihdebdknhaaDoorRfSpl1
import Derived.Test.YtbbpihdebdknhaaDoorRfSpl2
import Derived.Test.YtbbpihdebdknhaaDoorRfSpl4a
import Derived.Test.YtbbpihdebdknhaaDoorRfSpl4b
import Derived.Test.YtbbpihdebdknhaaDoorRfSpl5
import Derived.Test.YtbbpihdebdknhaaDoorRfSpl6
import Derived.Test.YtbbpihdebdknhaaDoorRfSpl7
namespace Go.Proofs.YtbbpihdebdknhaaDoor
open Go.RowKit
theorem sum_any (mv : Value) (m : List Nat) (w : World) (hm : BytesAt w mv m) (hl : m.length ≤ 100000) :
    Calls Tryd.prog 10 #[mv] w fun e w' => e = .returned (.agg (bytesL (hashF KW m))) ∧ Below w.heap.size w w' :=
  rfSPack.out ⟨rfSPack_l1⟩ ⟨rfSPack_l2⟩ ⟨rfSPack_l4a⟩ ⟨rfSPack_l4b⟩ ⟨rfSPack_l5⟩ ⟨rfSPack_l6⟩ ⟨rfSPack_l7⟩ mv m w hm hl
end Go.Proofs.YtbbpihdebdknhaaDoor
