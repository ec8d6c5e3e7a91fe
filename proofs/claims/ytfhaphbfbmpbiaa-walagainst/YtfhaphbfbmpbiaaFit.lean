
/-
  paciolilaw01.fit is true in every world: the anchor that stands at each statement's head.
-/
import Derived.Test.YtfhaphbfbmpbiaaAdd
import Derived.Test.YtfhaphbfbmpbiaaPrint
namespace Go.Proofs.Ytfhaphbfbmpbiaa
open Go.RowKit

theorem cell_new_of (w : World) (C : Array Value) (t : TypeId) (i : Nat) : (w.alloc (.cells C t)).cell? ⟨w.heap.size, i, none⟩ = C[i]? := World.cell?_alloc_new w C t i

theorem word_max : Word 18446744073709551615 := ⟨by decide, by decide⟩
theorem word_one : Word 1 := ⟨by decide, by decide⟩
theorem word_zero : Word 0 := ⟨by decide, by decide⟩

end Go.Proofs.Ytfhaphbfbmpbiaa
