
/-
  What the arguments of a law over package disk are, as values.
-/
import Derived.Test.YtkamagicnemppaaWiOp
import Derived.Test.YtkamagicnemppaaDkG
namespace Go.Proofs.Ytkamagicnemppaa
open Go.ChangeShapes Go.WideShapes Go.ChangeAt Go.RowKit Go.Joins Go.Deep
set_option maxRecDepth 100000

section
variable {H : Type} {enc : TypeId × Value → H} {W : World} {v : Value} {d : DataW H} {p : List MemPlace} {base : Nat}
theorem cap_bytes (h : DataW.Trod enc Try.prog W 0 (fun _ => true) true 28 v d p) : ∀ q n c, v = .slice q n c → n ≤ c := by
  intro q n c hv
  subst hv
  obtain ⟨fuel, hf⟩ := h
  rcases open_slice1 Try.underlying28 cells_u8 hf with ⟨hcs, _⟩ | ⟨a, len, cap, m, n', V, D, P0, hcs, _, hl, _⟩
  · simp [Value.cells] at hcs
    omega
  · simp [Value.cells] at hcs
    obtain ⟨_, rfl, rfl⟩ := hcs
    exact hl
theorem open_bytesC (hv : Value.okWide Try.prog W .any base 28 v) (h : DataW.Trod enc Try.prog W 0 (fun _ => true) true 28 v d p) :
    ∃ l, BytesAt W v l ∧ ∀ q n c, v = .slice q n c → n ≤ c := by
  obtain ⟨l, hl⟩ := open_bytes hv h
  exact ⟨l, hl, cap_bytes h⟩
theorem open_u64 (hv : Value.okWide Try.prog W .any base 30 v) (h : DataW.Trod enc Try.prog W 0 (fun _ => true) true 30 v d p) :
    ∃ x : Nat, v = .int .u64 (x : Int) ∧ x < 2 ^ 64 := by
  obtain ⟨x, rfl, _, _, wx⟩ := open_int Try.underlying30 hv h
  obtain ⟨b0, b1⟩ := word_of_wf wx
  exact ⟨x.toNat, by rw [Int.toNat_of_nonneg b0], by omega⟩
end
end Go.Proofs.Ytkamagicnemppaa
