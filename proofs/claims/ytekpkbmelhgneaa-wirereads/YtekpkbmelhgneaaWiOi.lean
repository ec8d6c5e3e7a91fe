
/-
  Numbers in a slice, and a hash, as arguments.
-/
import Derived.Test.YtekpkbmelhgneaaWiOr
import Derived.Test.YtekpkbmelhgneaaWiRx
namespace Go.Proofs.Ytekpkbmelhgneaa
open Go.ChangeShapes Go.WideShapes Go.ChangeAt Go.RowKit Go.Joins Go.Deep
set_option maxRecDepth 100000
set_option linter.unusedVariables false

theorem okWide_arr {P : Program} {w : World} {r : Reach} {base : Nat} {t e : TypeId} {n : Nat} {v : Value} (ht : P.underlying t = some (.array n e)) (h : Value.okWide P w r base t v) : ∃ cs, v = .agg cs ∧ cs.size = P.cellsOf t := by
  simp only [Value.okWide, ht] at h
  obtain ⟨cs, h1, h2, _⟩ := h
  exact ⟨cs, h1, h2⟩
section
variable {H : Type} {enc : TypeId × Value → H} {W : World} {v : Value} {d : DataW H} {p : List MemPlace} {base : Nat}
theorem open_ints (hv : Value.okWide Try.prog W .any base 52 v) (h : DataW.Trod enc Try.prog W 0 (fun _ => true) true 52 v d p) : ∃ l, IntsIn W v l := by
  obtain ⟨a0, len, cap, rfl⟩ := okWide_slice Try.underlying52 hv
  obtain ⟨fuel, hf⟩ := h
  rcases open_slice1 Try.underlying52 c_int hf with ⟨hcs, hx⟩ | ⟨a, len, cap, m, n, V, D, P0, hcs, _, hl, hm, hmm, hx0, hx⟩
  · simp [Value.cells] at hcs
    obtain ⟨rfl, rfl, rfl⟩ := hcs
    exact ⟨[], by simp, none, 0, rfl, fun i hi => by simp at hi⟩
  · simp [Value.cells] at hcs
    obtain ⟨rfl, rfl, rfl⟩ := hcs
    simp at hmm
    have each : ∀ i, i < m → ∃ x : Int, W.cell? (a.add i) = some (.int .i64 x) := by
      intro i hi
      obtain ⟨g0, t0⟩ := hx i hi
      obtain ⟨x, e0, _, wx⟩ := DataW.trod_int Try.underlying3 t0
      simp at e0
      rw [e0] at g0
      exact ⟨x, g0⟩
    obtain ⟨q, hq⟩ := choose_lt each
    refine ⟨(List.range len).map q, by simp; omega, some a, cap, by simp, fun i hi => ?_⟩
    have hi' : i < len := by simpa using hi
    have g0 := hq i (by omega)
    obtain ⟨b, off, spot⟩ := a
    have hspot : spot = none := by simpa [Addr.add] using World.cell?_spot (hq 0 (by omega))
    subst hspot
    have e0 : (⟨b, off, none⟩ : Addr).add i = ⟨b, off + i, none⟩ := add_plain ..
    rw [e0] at g0
    exact ⟨b, off, rfl, block_lt_of_cell g0, by rw [g0]; simp [hi']⟩
theorem open_hash (hv : Value.okWide Try.prog W .any base 40 v) (h : DataW.Trod enc Try.prog W 0 (fun _ => true) true 40 v d p) : ∃ t : List Nat, v = .agg (bytesL t) ∧ (t.length = 32 ∧ W8 t) := by
  obtain ⟨cs, rfl, hsz⟩ := okWide_arr Try.underlying40 hv
  rw [c_hash] at hsz
  obtain ⟨fuel, hf⟩ := h
  have hf' : DataW.trod enc Try.prog W 0 (fun _ => true) true fuel 40 ((cs.toList.drop 0).take (Try.prog.cellsOf 40)) = some (d, p) := by
    rw [c_hash, List.drop_zero, List.take_of_length_le (by simp; omega)]
    exact hf
  have e := fld_hash (o := 0) hf' rfl
  obtain ⟨q, hq⟩ := choose_lt e
  refine ⟨(List.range 32).map q, ?_, by simp, fun y hy => ?_⟩
  · congr 1
    apply Array.ext_getElem?
    intro i
    by_cases hi : i < 32
    · have := (hq i hi).1
      rw [Nat.zero_add] at this
      rw [bytesL_at _ _ (by simpa using hi), ← Array.getElem?_toList, this]
      simp [List.getD, hi]
    · rw [Array.getElem?_eq_none (by omega), Array.getElem?_eq_none (by rw [bytesL_size]; simp; omega)]
  · obtain ⟨i, hi, rfl⟩ := List.mem_map.1 hy
    exact (hq i (List.mem_range.1 hi)).2
end
end Go.Proofs.Ytekpkbmelhgneaa
