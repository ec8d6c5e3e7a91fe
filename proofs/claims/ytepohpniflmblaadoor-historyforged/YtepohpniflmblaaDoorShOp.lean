
/-
  What the arguments of a law over package sha are, as values; the table of round words as the card lists it.
-/
import Derived.Test.YtepohpniflmblaaDoorShE
import Derived.ProofKit
import Derived.OpenShut
import Derived.ChangeOld
import Derived.Below
import Derived.LaidMore
import Derived.SizedLaws
import Derived.Stop.Joined
import Derived.Lib.LaidTab
import Derived.Lib.SmallJoins
import Derived.Deep.SlicePairs
set_option maxRecDepth 100000
namespace Go.Proofs.YtepohpniflmblaaDoor
open Go.ChangeShapes Go.WideShapes Go.ChangeAt Go.RowKit Go.Joins Go.Deep

theorem own : ownKnob Tryd.prog.godebug = none := by kernel_rfl
theorem laidOut : laidOutB Tryd.prog = true := by kernel_rfl
theorem cellsBytes : Tryd.prog.cellsOf 37 = 1 := by kernel_rfl
theorem byte_of_wf {x : Int} (h : (Lit.int .u8 x).wf = true) : 0 ≤ x ∧ x < 256 := by
  simp [Lit.wf, IntKind.min, IntKind.max, IntKind.signed, IntKind.bits] at h
  exact ⟨by omega, by omega⟩

def laidL : List (String × DataW Unit) := [("pacioli/sha.roundWords", Rows.laid_pacioli_sha_roundWords)]
theorem laid_is : laidL = [("pacioli/sha.roundWords", Lib.tabData .u32 (KW.map fun x : Nat => (x : Int)))] := by kernel_rfl
theorem gWords : Tryd.prog.globalNamed "pacioli/sha.roundWords" = some 0 := by kernel_rfl
theorem tWords : (Tryd.prog.globals[0]?).map (·.type) = some 76 := by kernel_rfl
theorem tab_of_laid {W : World} (h : laidMetH Tryd.prog laidL W) : Tab W := by
  rw [MakeChecks.laidMetH_plain _ _ _ (by kernel_rfl), laid_is] at h
  have ht := Lib.tabIs_of_head gWords tWords Tryd.underlying76 Tryd.underlying70 (by kernel_rfl) (by kernel_rfl) h
  intro i hi
  have := World.var?_cell gWords ht i
  rw [this]
  have hl : KW.length = 64 := by decide
  simp [List.getD, hl, hi]
theorem door_met (os : Os) (args : Array Value) : laidMetH Tryd.prog laidL ((World.doorLaid Tryd.prog 400 os).forCall (fun _ _ => 0) ⟨#[], args, []⟩).memory :=
  laidMetH_of_parts3 (fuel := 8) (laidMet_of_run' 8 (by kernel_rfl) (by kernel_rfl)) (by kernel_rfl) (by kernel_rfl)

section
variable {H : Type} {enc : TypeId × Value → H} {W : World} {v : Value} {d : DataW H} {p : List MemPlace} {base : Nat}

theorem bytes_of_trod {fuel : Nat} {v : Value} {x : DataW H × List MemPlace} (hf : DataW.trod enc Tryd.prog W 0 (fun _ => true) true fuel 37 [v] = some x) :
    ∃ l, BytesAt W v l ∧ ((x.1 = .nil ∧ l = []) ∨ ∃ E S, x.1 = .slice E S ∧ E.length = l.length) := by
  rcases open_slice1 Tryd.underlying37 cells_u8 hf with ⟨hcs, hx⟩ | ⟨a, len, cap, m, n, V, D, P0, hcs, _, hl, hm, hmm, hx0, hx⟩
  · obtain rfl : v = .slice none 0 0 := by simpa using hcs
    exact ⟨[], BytesAt.nil _, Or.inl ⟨by rw [hx], rfl⟩⟩
  · obtain rfl : v = .slice (some a) len cap := by simpa using hcs
    simp at hmm
    have each : ∀ i, i < m → ∃ x : Nat, W.cell? (a.add i) = some (.int .u8 (x : Int)) ∧ x < 256 := by
      intro i hi
      obtain ⟨g0, t0⟩ := hx i hi
      obtain ⟨x, e0, _, wx⟩ := DataW.trod_int Tryd.underlying5 t0
      simp at e0
      rw [e0] at g0
      obtain ⟨b0, b1⟩ := byte_of_wf wx
      exact ⟨x.toNat, by rw [g0, Int.toNat_of_nonneg b0], by omega⟩
    obtain ⟨q, hq⟩ := choose_lt each
    refine ⟨(List.range len).map q, ⟨?_, by simp; omega, some a, cap, by simp, fun i hi => ?_⟩, Or.inr ⟨_, _, by rw [hx0], by simp⟩⟩
    · intro y hy
      obtain ⟨i, hi, rfl⟩ := List.mem_map.1 hy
      exact (hq i (by have := List.mem_range.1 hi; omega)).2
    · have hi' : i < len := by simpa using hi
      obtain ⟨g0, k0⟩ := hq i (by omega)
      obtain ⟨b, off, spot⟩ := a
      have hspot : spot = none := by simpa [Addr.add] using World.cell?_spot (hq 0 (by omega)).1
      subst hspot
      have e0 : (⟨b, off, none⟩ : Addr).add i = ⟨b, off + i, none⟩ := add_plain ..
      rw [e0] at g0
      exact ⟨b, off, rfl, block_lt_of_cell g0, by rw [g0]; simp [hi']⟩

theorem open_bytes (hv : Value.okWide Tryd.prog W .any base 37 v) (h : DataW.Trod enc Tryd.prog W 0 (fun _ => true) true 37 v d p) :
    ∃ l, BytesAt W v l ∧ ((d = .nil ∧ l = []) ∨ ∃ E S, d = .slice E S ∧ E.length = l.length) := by
  obtain ⟨a0, len, cap, rfl⟩ := okWide_slice Tryd.underlying37 hv
  obtain ⟨fuel, hf⟩ := h
  exact bytes_of_trod (x := (d, p)) hf
theorem cap_bytes (h : DataW.Trod enc Tryd.prog W 0 (fun _ => true) true 37 v d p) : ∀ q n c, v = .slice q n c → n ≤ c := by
  intro q n c hv
  subst hv
  obtain ⟨fuel, hf⟩ := h
  rcases open_slice1 Tryd.underlying37 cells_u8 hf with ⟨hcs, _⟩ | ⟨a, len, cap, m, n', V, D, P0, hcs, _, hl, _⟩
  · simp [Value.cells] at hcs
    omega
  · simp [Value.cells] at hcs
    obtain ⟨_, rfl, rfl⟩ := hcs
    exact hl
theorem bytesU8 : Tryd.prog.bytesOf 5 = 1 := by kernel_rfl
theorem reach_bytes {ts : List TypeId} {ds : List (DataW H)} (h : (DataW.weightsEach Tryd.prog ts ds).all (· ≤ reachBytes) = true) {j : Nat} (ht : ts[j]? = some 37) (hd : ds[j]? = some d) {l : List Nat}
    (hl : (d = .nil ∧ l = []) ∨ ∃ E S, d = .slice E S ∧ E.length = l.length) : l.length ≤ 140737488351232 := by
  rcases hl with ⟨_, rfl⟩ | ⟨E, S, rfl, hE⟩
  · simp
  · have := sized_slice h ht hd Tryd.underlying37
    rw [bytesU8] at this
    simp only [reachBytes] at this
    omega
theorem open_i64 (hv : Value.okWide Tryd.prog W .any base 3 v) (h : DataW.Trod enc Tryd.prog W 0 (fun _ => true) true 3 v d p) :
    ∃ x, v = .int .i64 x ∧ -9223372036854775808 ≤ x ∧ x ≤ 9223372036854775807 := by
  obtain ⟨x, rfl, _, _, wx⟩ := open_int Tryd.underlying3 hv h
  simp [Lit.wf, IntKind.min, IntKind.max, IntKind.signed, IntKind.bits] at wx
  exact ⟨x, rfl, by omega, by omega⟩
end
end Go.Proofs.YtepohpniflmblaaDoor
