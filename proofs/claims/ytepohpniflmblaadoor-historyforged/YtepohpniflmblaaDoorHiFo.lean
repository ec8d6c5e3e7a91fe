
import Derived.Test.YtepohpniflmblaaDoorHiFopp11
import Derived.Test.YtepohpniflmblaaDoorHiFopp13
import Derived.Test.YtepohpniflmblaaDoorHiFopp14
import Derived.Test.YtepohpniflmblaaDoorHiFopp19
import Derived.Test.YtepohpniflmblaaDoorHiFoppT
set_option maxRecDepth 100000
namespace Go.Proofs.YtepohpniflmblaaDoor
open Go.RowKit
set_option linter.unusedVariables false
set_option linter.unusedSimpArgs false
theorem forged_walk (v0 : Value) (L : List (List Nat)) (a0 : Int) (a1 : Int) (a2 : Int) (v2 : Value) (b : List Nat) (w : World) (hL : PartsAt w v0 L) (hcap0 : ∀ q n c, v0 = .slice q n c → n ≤ c)
    (ha : (-9223372036854775808 ≤ a0 ∧ a0 ≤ 9223372036854775807) ∧ (-9223372036854775808 ≤ a1 ∧ a1 ≤ 9223372036854775807) ∧ (-9223372036854775808 ≤ a2 ∧ a2 ≤ 9223372036854775807)) (hB : BytesAt w v2 b) (rb : b.length ≤ 140737488351232) (ht : Tab w) :
    Calls Tryd.prog 4 #[v0, .agg #[.int .i64 a0, .int .i64 a1, .int .i64 a2], v2] w fun e w' => e = .returned (.bool true) ∧ Below w.heap.size w w' :=
  hiFoPack.out ⟨hiFoPack_p11⟩ ⟨hiFoPack_p13⟩ ⟨hiFoPack_p14⟩ ⟨hiFoPack_p19⟩ ⟨hiFoPack_pT⟩ v0 L a0 a1 a2 v2 b w hL hcap0 ha hB rb ht
end Go.Proofs.YtepohpniflmblaaDoor
