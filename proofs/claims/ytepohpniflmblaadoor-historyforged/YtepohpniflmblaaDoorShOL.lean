
/-
  A list of byte rows as an argument.
-/
import Derived.Test.YtepohpniflmblaaDoorShOp
set_option maxRecDepth 100000
namespace Go.Proofs.YtepohpniflmblaaDoor
open Go.ChangeShapes Go.WideShapes Go.ChangeAt Go.RowKit Go.Joins Go.Deep

section
variable {H : Type} {enc : TypeId × Value → H} {W : World} {v : Value} {d : DataW H} {p : List MemPlace} {base : Nat}

theorem open_list (hv : Value.okWide Tryd.prog W .any base 22 v) (h : DataW.Trod enc Tryd.prog W 0 (fun _ => true) true 22 v d p) :
    ∃ L, PartsAt W v L ∧ ((d = .nil ∧ L = []) ∨ ∃ E S, d = .slice E S ∧ E.length = L.length ∧ ∀ i, i < L.length → ∃ D, E[i]? = some D ∧ ((D = .nil ∧ L.getD i [] = []) ∨ ∃ E' S', D = .slice E' S' ∧ E'.length = (L.getD i []).length)) := by
  obtain ⟨a0, len0, cap0, rfl⟩ := okWide_slice Tryd.underlying22 hv
  obtain ⟨fuel, hf⟩ := h
  rcases open_slice1 Tryd.underlying22 cellsBytes hf with ⟨hcs, hx⟩ | ⟨a, len, cap, m, n, V, D, P0, hcs, _, hl, hm, hmm, hx0, hx⟩
  · simp [Value.cells] at hcs
    obtain ⟨rfl, rfl, rfl⟩ := hcs
    exact ⟨[], parts0 _, Or.inl ⟨by simpa using congrArg Prod.fst hx, rfl⟩⟩
  · simp [Value.cells] at hcs
    obtain ⟨rfl, rfl, rfl⟩ := hcs
    simp at hmm
    have each : ∀ i, i < m → ∃ l : List Nat, BytesAt W (V i) l ∧ ((D i = .nil ∧ l = []) ∨ ∃ E S, D i = .slice E S ∧ E.length = l.length) := by
      intro i hi
      exact bytes_of_trod (x := (D i, P0 i)) (hx i hi).2
    obtain ⟨q, hq⟩ := choose_lt each
    refine ⟨(List.range len0).map q, ⟨by simp; omega, some a, cap0, by simp, fun i hi => ?_⟩, Or.inr ⟨_, _, congrArg Prod.fst hx0, by simp, fun i hi => ?_⟩⟩
    · have hi' : i < len0 := by simpa using hi
      obtain ⟨g0, _⟩ := hx i (by omega)
      obtain ⟨b, off, spot⟩ := a
      have hspot : spot = none := by simpa [Addr.add] using World.cell?_spot (hx 0 (by omega)).1
      subst hspot
      have e0 : (⟨b, off, none⟩ : Addr).add i = ⟨b, off + i, none⟩ := add_plain ..
      rw [e0] at g0
      have := (hq i (by omega)).1
      refine ⟨b, off, V i, rfl, block_lt_of_cell g0, g0, ?_⟩
      simpa [hi'] using this
    · have hi' : i < len0 := by simpa using hi
      refine ⟨D i, by simp [hi'], ?_⟩
      have := (hq i (by omega)).2
      simpa [hi'] using this
theorem cap_list (h : DataW.Trod enc Tryd.prog W 0 (fun _ => true) true 22 v d p) : ∀ q n c, v = .slice q n c → n ≤ c := by
  intro q n c hv
  subst hv
  obtain ⟨fuel, hf⟩ := h
  rcases open_slice1 Tryd.underlying22 cellsBytes hf with ⟨hcs, _⟩ | ⟨a, len, cap, m, n', V, D, P0, hcs, _, hl, _⟩
  · simp [Value.cells] at hcs
    omega
  · simp [Value.cells] at hcs
    obtain ⟨_, rfl, rfl⟩ := hcs
    exact hl
end
end Go.Proofs.YtepohpniflmblaaDoor
