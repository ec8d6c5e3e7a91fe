
/-
  What three numbers in an array are, as a value.
-/
import Derived.Test.YtepohpniflmblaaDoorShOp
import Derived.Deep.Slices
set_option maxRecDepth 100000
namespace Go.Proofs.YtepohpniflmblaaDoor
open Go.ChangeShapes Go.WideShapes Go.ChangeAt Go.RowKit Go.Joins Go.Deep
set_option linter.unusedVariables false

def I64 (x : Int) : Prop := -9223372036854775808 ≤ x ∧ x ≤ 9223372036854775807
theorem i64_of_wf {x : Int} (h : (Lit.int .i64 x).wf = true) : I64 x := by
  simp [Lit.wf, IntKind.min, IntKind.max, IntKind.signed, IntKind.bits] at h
  exact ⟨by omega, by omega⟩
theorem c_int : Tryd.prog.cellsOf 3 = 1 := by kernel_rfl
theorem c_trip : Tryd.prog.cellsOf 36 = 3 := by kernel_rfl
theorem at_of_chunk {cs : List Value} {o n : Nat} {l : List Value} (h : (cs.drop o).take n = l) (j : Nat) (hj : j < l.length) : cs[o + j]? = l[j]? := by
  subst h
  have hn : j < n := by simp at hj; omega
  rw [List.getElem?_take_of_lt hn, List.getElem?_drop]
section
variable {H : Type} {enc : TypeId × Value → H} {W : World} {v : Value} {d : DataW H} {p : List MemPlace} {base : Nat}
theorem open_trip (hv : Value.okWide Tryd.prog W .any base 36 v) (h : DataW.Trod enc Tryd.prog W 0 (fun _ => true) true 36 v d p) : ∃ x y z : Int, v = .agg #[.int .i64 x, .int .i64 y, .int .i64 z] ∧ I64 x ∧ I64 y ∧ I64 z := by
  simp only [Value.okWide, Tryd.underlying36] at hv
  obtain ⟨cs, rfl, _⟩ := hv
  obtain ⟨fuel, hf⟩ := h
  obtain ⟨xs, n, _, _, hl, hlen, hfl⟩ := DataW.trod_array Tryd.underlying36 hf
  have hl' : cs.size = 3 := by rw [c_trip] at hl; simpa [Value.cells] using hl
  have h0 := hfl 0 (by decide)
  have h1 := hfl 1 (by decide)
  have h2 := hfl 2 (by decide)
  have hx2 : xs.length = 3 := hlen
  rw [List.getElem?_eq_getElem (by omega)] at h0 h1 h2
  obtain ⟨a, e0, _, w0⟩ := DataW.trod_int Tryd.underlying3 h0
  obtain ⟨b, e1, _, w1⟩ := DataW.trod_int Tryd.underlying3 h1
  obtain ⟨c, e2, _, w2⟩ := DataW.trod_int Tryd.underlying3 h2
  rw [c_int] at e0 e1 e2
  have k0 := at_of_chunk e0 0 (by simp)
  have k1 := at_of_chunk e1 0 (by simp)
  have k2 := at_of_chunk e2 0 (by simp)
  simp [Value.cells] at k0 k1 k2
  refine ⟨a, b, c, congrArg Value.agg ?_, i64_of_wf w0, i64_of_wf w1, i64_of_wf w2⟩
  apply Array.ext_getElem?
  intro i
  match i with
  | 0 => simpa using k0
  | 1 => simpa using k1
  | 2 => simpa using k2
  | i + 3 => rw [Array.getElem?_eq_none (by omega)]; simp
end
end Go.Proofs.YtepohpniflmblaaDoor
