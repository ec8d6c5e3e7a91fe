
/-
  What the arguments of a law over package wal are, as values.
-/
import Derived.Test.YtfhaphbfbmpbiaaWiOp
import Derived.Test.YtfhaphbfbmpbiaaDkG
import Derived.Deep.Slices
namespace Go.Proofs.Ytfhaphbfbmpbiaa
open Go.ChangeShapes Go.WideShapes Go.ChangeAt Go.RowKit Go.Joins Go.Deep
set_option maxRecDepth 100000
set_option linter.unusedVariables false

theorem and_low16 (n : Int) (s : Nat) (hs : s ≤ 16) : ∃ k : Nat, k < 2 ^ s ∧ bits .and .i64 n ((2 ^ s - 1 : Nat) : Int) = (k : Int) := by
  have hp : 2 ^ s ≤ 65536 := Nat.le_trans (Nat.pow_le_pow_right (by decide) hs) (by decide)
  have hp0 : 0 < 2 ^ s := Nat.pow_pos (by decide)
  refine ⟨(BitVec.ofInt 64 n).toNat % 2 ^ s, Nat.mod_lt _ hp0, ?_⟩
  have h : (BitVec.ofInt 64 n &&& BitVec.ofInt 64 ((2 ^ s - 1 : Nat) : Int)).toNat = (BitVec.ofInt 64 n).toNat % 2 ^ s := by
    rw [BitVec.toNat_and, show (BitVec.ofInt 64 ((2 ^ s - 1 : Nat) : Int)).toNat = 2 ^ s - 1 by rw [BitVec.ofInt_natCast, BitVec.toNat_ofNat]; omega]
    exact Nat.and_two_pow_sub_one_eq_mod _ s
  show IntKind.i64.wrap ((BitVec.ofInt 64 n &&& BitVec.ofInt 64 ((2 ^ s - 1 : Nat) : Int)).toNat : Int) = _
  rw [h, IntKind.wrap_i64]
  have := Nat.mod_lt (BitVec.ofInt 64 n).toNat hp0
  omega
/-- Numbers in a slice, as they are handed in. -/
def IntsIn (w : World) (v : Value) (l : List Int) : Prop :=
  l.length ≤ maxLen ∧ ∃ p c, v = .slice p l.length c ∧ ∀ i, i < l.length → ∃ b off, p = some ⟨b, off, none⟩ ∧ b < w.heap.size ∧ w.cell? ⟨b, off + i, none⟩ = some (.int .i64 (l.getD i 0))
theorem IntsIn.later {w w1 : World} {v : Value} {l : List Int} (h : IntsIn w v l) (hb : Below w.heap.size w w1) : IntsIn w1 v l := by
  obtain ⟨h2, p, c, e, h⟩ := h
  refine ⟨h2, p, c, e, fun i hi => ?_⟩
  obtain ⟨b, off, e, hlt, hc⟩ := h i hi
  exact ⟨b, off, e, Nat.lt_of_lt_of_le hlt hb.size, (hb.cell (p := ⟨b, off + i, none⟩) hlt).trans hc⟩
theorem okWide_arr {P : Program} {w : World} {r : Reach} {base : Nat} {t e : TypeId} {n : Nat} {v : Value} (ht : P.underlying t = some (.array n e)) (h : Value.okWide P w r base t v) : ∃ cs, v = .agg cs ∧ cs.size = P.cellsOf t := by
  simp only [Value.okWide, ht] at h
  obtain ⟨cs, h1, h2, _⟩ := h
  exact ⟨cs, h1, h2⟩
theorem at_of_chunk {cs : List Value} {o n : Nat} {l : List Value} (h : (cs.drop o).take n = l) (j : Nat) (hj : j < l.length) : cs[o + j]? = l[j]? := by
  subst h
  have hn : j < n := by simp at hj; omega
  rw [List.getElem?_take_of_lt hn, List.getElem?_drop]
theorem c_int : Try.prog.cellsOf 3 = 1 := by kernel_rfl
theorem c_arr4 : Try.prog.cellsOf 51 = 4 := by kernel_rfl
theorem c_arr2 : Try.prog.cellsOf 49 = 2 := by kernel_rfl
theorem cellsBytes : Try.prog.cellsOf 31 = 1 := by kernel_rfl
section
variable {H : Type} {enc : TypeId × Value → H} {W : World} {v : Value} {d : DataW H} {p : List MemPlace} {base : Nat}
theorem open_ints (hv : Value.okWide Try.prog W .any base 59 v) (h : DataW.Trod enc Try.prog W 0 (fun _ => true) true 59 v d p) : ∃ l, IntsIn W v l := by
  obtain ⟨a0, len, cap, rfl⟩ := okWide_slice Try.underlying59 hv
  obtain ⟨fuel, hf⟩ := h
  rcases open_slice1 Try.underlying59 c_int hf with ⟨hcs, hx⟩ | ⟨a, len, cap, m, n, V, D, P0, hcs, _, hl, hm, hmm, hx0, hx⟩
  · simp [Value.cells] at hcs
    obtain ⟨rfl, rfl, rfl⟩ := hcs
    exact ⟨[], by simp, none, 0, rfl, fun i hi => by simp at hi⟩
  · simp [Value.cells] at hcs
    obtain ⟨rfl, rfl, rfl⟩ := hcs
    simp at hmm
    have each : ∀ i, i < m → ∃ x : Int, W.cell? (a.add i) = some (.int .i64 x) := by
      intro i hi
      obtain ⟨g0, t0⟩ := hx i hi
      obtain ⟨x, e0, _, wx⟩ := DataW.trod_int Try.underlying3 t0
      simp at e0
      rw [e0] at g0
      exact ⟨x, g0⟩
    obtain ⟨q, hq⟩ := choose_lt each
    refine ⟨(List.range len).map q, by simp; omega, some a, cap, by simp, fun i hi => ?_⟩
    have hi' : i < len := by simpa using hi
    have g0 := hq i (by omega)
    obtain ⟨b, off, spot⟩ := a
    have hspot : spot = none := by simpa [Addr.add] using World.cell?_spot (hq 0 (by omega))
    subst hspot
    have e0 : (⟨b, off, none⟩ : Addr).add i = ⟨b, off + i, none⟩ := add_plain ..
    rw [e0] at g0
    exact ⟨b, off, rfl, block_lt_of_cell g0, by rw [g0]; simp [hi']⟩
theorem open_arr4 (hv : Value.okWide Try.prog W .any base 51 v) (h : DataW.Trod enc Try.prog W 0 (fun _ => true) true 51 v d p) : ∃ x : Int × Int × Int × Int, v = .agg #[.int .i64 x.1, .int .i64 x.2.1, .int .i64 x.2.2.1, .int .i64 x.2.2.2] ∧ True := by
  obtain ⟨cs, rfl, hsz⟩ := okWide_arr Try.underlying51 hv
  rw [c_arr4] at hsz
  obtain ⟨fuel, hf⟩ := h
  obtain ⟨xs, n, _, _, hl, hlen, hf⟩ := DataW.trod_array Try.underlying51 hf
  have each : ∀ j, j < 4 → ∃ x : Int, cs.toList[j]? = some (.int .i64 x) := by
    intro j hj
    have h0 := hf j hj
    rw [List.getElem?_eq_getElem (by omega)] at h0
    obtain ⟨a, e0, _, wa⟩ := DataW.trod_int Try.underlying3 h0
    rw [c_int, Nat.mul_one] at e0
    have k0 := at_of_chunk e0 0 (by simp)
    simp only [Nat.add_zero, List.getElem?_cons_zero] at k0
    exact ⟨a, by simpa [Value.cells] using k0⟩
  obtain ⟨a, ha⟩ := each 0 (by decide)
  obtain ⟨b, hb⟩ := each 1 (by decide)
  obtain ⟨c, hc⟩ := each 2 (by decide)
  obtain ⟨e, he⟩ := each 3 (by decide)
  refine ⟨(a, b, c, e), ?_, trivial⟩
  obtain ⟨cs⟩ := cs
  match cs, hsz with
  | [c0, c1, c2, c3], _ =>
    simp at ha hb hc he
    subst ha hb hc he
    rfl
theorem open_arr2 (hv : Value.okWide Try.prog W .any base 49 v) (h : DataW.Trod enc Try.prog W 0 (fun _ => true) true 49 v d p) : ∃ x : Int × Int, v = .agg #[.int .i64 x.1, .int .i64 x.2] ∧ True := by
  obtain ⟨cs, rfl, hsz⟩ := okWide_arr Try.underlying49 hv
  rw [c_arr2] at hsz
  obtain ⟨fuel, hf⟩ := h
  obtain ⟨xs, n, _, _, hl, hlen, hf⟩ := DataW.trod_array Try.underlying49 hf
  have each : ∀ j, j < 2 → ∃ x : Int, cs.toList[j]? = some (.int .i64 x) := by
    intro j hj
    have h0 := hf j hj
    rw [List.getElem?_eq_getElem (by omega)] at h0
    obtain ⟨a, e0, _, wa⟩ := DataW.trod_int Try.underlying3 h0
    rw [c_int, Nat.mul_one] at e0
    have k0 := at_of_chunk e0 0 (by simp)
    simp only [Nat.add_zero, List.getElem?_cons_zero] at k0
    exact ⟨a, by simpa [Value.cells] using k0⟩
  obtain ⟨a, ha⟩ := each 0 (by decide)
  obtain ⟨b, hb⟩ := each 1 (by decide)
  refine ⟨(a, b), ?_, trivial⟩
  obtain ⟨cs⟩ := cs
  match cs, hsz with
  | [c0, c1], _ =>
    simp at ha hb
    subst ha hb
    rfl
theorem bytes_of_trod {fuel : Nat} {v : Value} {x : DataW H × List MemPlace} (hf : DataW.trod enc Try.prog W 0 (fun _ => true) true fuel 31 [v] = some x) :
    ∃ l, BytesAt W v l ∧ ∀ q n c, v = .slice q n c → n ≤ c := by
  rcases open_slice1 Try.underlying31 cells_u8 hf with ⟨hcs, hx⟩ | ⟨a, len, cap, m, n, V, D, P0, hcs, _, hl, hm, hmm, hx0, hx⟩
  · obtain rfl : v = .slice none 0 0 := by simpa using hcs
    exact ⟨[], BytesAt.nil _, fun q n c e => by cases e; exact Nat.le_refl _⟩
  · obtain rfl : v = .slice (some a) len cap := by simpa using hcs
    simp at hmm
    have each : ∀ i, i < m → ∃ x : Nat, W.cell? (a.add i) = some (.int .u8 (x : Int)) ∧ x < 256 := by
      intro i hi
      obtain ⟨g0, t0⟩ := hx i hi
      obtain ⟨x, e0, _, wx⟩ := DataW.trod_int Try.underlying5 t0
      simp at e0
      rw [e0] at g0
      obtain ⟨b0, b1⟩ := byte_of_wf wx
      exact ⟨x.toNat, by rw [g0, Int.toNat_of_nonneg b0], by omega⟩
    obtain ⟨q, hq⟩ := choose_lt each
    refine ⟨(List.range len).map q, ⟨?_, by simp; omega, some a, cap, by simp, fun i hi => ?_⟩, fun q n c e => by cases e; omega⟩
    · intro y hy
      obtain ⟨i, hi, rfl⟩ := List.mem_map.1 hy
      exact (hq i (by have := List.mem_range.1 hi; omega)).2
    · have hi' : i < len := by simpa using hi
      obtain ⟨g0, k0⟩ := hq i (by omega)
      obtain ⟨b, off, spot⟩ := a
      have hspot : spot = none := by simpa [Addr.add] using World.cell?_spot (hq 0 (by omega)).1
      subst hspot
      have e0 : (⟨b, off, none⟩ : Addr).add i = ⟨b, off + i, none⟩ := add_plain ..
      rw [e0] at g0
      exact ⟨b, off, rfl, block_lt_of_cell g0, by rw [g0]; simp [hi']⟩
theorem open_list (hv : Value.okWide Try.prog W .any base 27 v) (h : DataW.Trod enc Try.prog W 0 (fun _ => true) true 27 v d p) :
    ∃ L, PartsAt W v L := by
  obtain ⟨a0, len0, cap0, rfl⟩ := okWide_slice Try.underlying27 hv
  obtain ⟨fuel, hf⟩ := h
  rcases open_slice1 Try.underlying27 cellsBytes hf with ⟨hcs, hx⟩ | ⟨a, len, cap, m, n, V, D, P0, hcs, _, hl, hm, hmm, hx0, hx⟩
  · simp [Value.cells] at hcs
    obtain ⟨rfl, rfl, rfl⟩ := hcs
    exact ⟨[], parts0 _⟩
  · simp [Value.cells] at hcs
    obtain ⟨rfl, rfl, rfl⟩ := hcs
    simp at hmm
    have each : ∀ i, i < m → ∃ l : List Nat, BytesAt W (V i) l := by
      intro i hi
      obtain ⟨l, hl, _⟩ := bytes_of_trod (x := (D i, P0 i)) (hx i hi).2
      exact ⟨l, hl⟩
    obtain ⟨q, hq⟩ := choose_lt each
    refine ⟨(List.range len0).map q, ⟨by simp; omega, some a, cap0, by simp, fun i hi => ?_⟩⟩
    have hi' : i < len0 := by simpa using hi
    obtain ⟨g0, _⟩ := hx i (by omega)
    obtain ⟨b, off, spot⟩ := a
    have hspot : spot = none := by simpa [Addr.add] using World.cell?_spot (hx 0 (by omega)).1
    subst hspot
    have e0 : (⟨b, off, none⟩ : Addr).add i = ⟨b, off + i, none⟩ := add_plain ..
    rw [e0] at g0
    have := hq i (by omega)
    refine ⟨b, off, V i, rfl, block_lt_of_cell g0, g0, ?_⟩
    simpa [hi'] using this
end
end Go.Proofs.Ytfhaphbfbmpbiaa
