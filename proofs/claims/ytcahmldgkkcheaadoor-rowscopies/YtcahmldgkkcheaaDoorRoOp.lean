
/-
  What the arguments of a law over package rows are, as values: rows of accounts, one or many; two numbers.
-/
import Derived.Test.YtcahmldgkkcheaaDoorRoB
import Derived.Test.YtcahmldgkkcheaaDoorShOp
import Derived.Deep.Slices
set_option maxRecDepth 100000
namespace Go.Proofs.YtcahmldgkkcheaaDoor
open Go.ChangeShapes Go.WideShapes Go.ChangeAt Go.RowKit Go.Joins Go.Deep
set_option linter.unusedVariables false

theorem word_of_wf {x : Int} (h : (Lit.int .u64 x).wf = true) : 0 ≤ x ∧ x < 18446744073709551616 := by
  simp [Lit.wf, IntKind.min, IntKind.max, IntKind.signed, IntKind.bits] at h
  exact ⟨by omega, by omega⟩
def I64 (x : Int) : Prop := -9223372036854775808 ≤ x ∧ x ≤ 9223372036854775807
theorem i64_of_wf {x : Int} (h : (Lit.int .i64 x).wf = true) : I64 x := by
  simp [Lit.wf, IntKind.min, IntKind.max, IntKind.signed, IntKind.bits] at h
  exact ⟨by omega, by omega⟩
theorem c_int : Tryd.prog.cellsOf 3 = 1 := by kernel_rfl
theorem c_num : Tryd.prog.cellsOf 32 = 2 := by kernel_rfl
theorem c_u64 : Tryd.prog.cellsOf 30 = 1 := by kernel_rfl
theorem c_row : Tryd.prog.cellsOf 34 = 14 := by kernel_rfl
theorem c_ends : Tryd.prog.cellsOf 23 = 2 := by kernel_rfl
theorem at_of_chunk {cs : List Value} {o n : Nat} {l : List Value} (h : (cs.drop o).take n = l) (j : Nat) (hj : j < l.length) : cs[o + j]? = l[j]? := by
  subst h
  have hn : j < n := by simp at hj; omega
  rw [List.getElem?_take_of_lt hn, List.getElem?_drop]
theorem cells_of {n : Nat} {cs l : List Value} (h1 : cs.length = n) (hn : l.length = n) (h2 : ∀ i : Nat, i < n → cs[i]? = l[i]?) : cs = l := by
  subst hn
  apply List.ext_getElem?
  intro i
  rcases Nat.lt_or_ge i l.length with h | h
  · exact h2 i h
  · rw [List.getElem?_eq_none h, List.getElem?_eq_none (by omega)]
section
variable {H : Type} {enc : TypeId × Value → H} {W : World} {v : Value} {d : DataW H} {p : List MemPlace} {base : Nat}

theorem fld_i64 {fuel o : Nat} {cs : List Value} {y : Option (DataW H × List MemPlace)} (h : DataW.trod enc Tryd.prog W 0 (fun _ => true) true fuel 3 ((cs.drop o).take (Tryd.prog.cellsOf 3)) = y) (hy : y.isSome = true) : ∃ x, cs[o]? = some (.int .i64 x) ∧ I64 x := by
  obtain ⟨y', rfl⟩ := Option.isSome_iff_exists.1 hy
  obtain ⟨x, e, _, wf⟩ := DataW.trod_int Tryd.underlying3 h
  have := at_of_chunk e 0 (by simp)
  exact ⟨x, by simpa using this, i64_of_wf wf⟩
theorem fld_num {fuel o : Nat} {cs : List Value} {y : Option (DataW H × List MemPlace)} (h : DataW.trod enc Tryd.prog W 0 (fun _ => true) true fuel 32 ((cs.drop o).take (Tryd.prog.cellsOf 32)) = y) (hy : y.isSome = true) : ∃ hi lo : Nat, cs[o]? = some (.int .u64 (hi : Nat)) ∧ cs[o + 1]? = some (.int .u64 (lo : Nat)) ∧ P64 hi lo := by
  obtain ⟨y', rfl⟩ := Option.isSome_iff_exists.1 hy
  obtain ⟨xs, n, _, _, hl, hlen, hf⟩ := DataW.trod_struct Tryd.underlying32 h
  have h0 := hf 0 _ rfl
  have h1 := hf 1 _ rfl
  have hx2 : xs.length = 2 := hlen
  rw [List.getElem?_eq_getElem (by omega)] at h0 h1
  obtain ⟨a, e0, _, wa⟩ := DataW.trod_int Tryd.underlying30 h0
  obtain ⟨b, e1, _, wb⟩ := DataW.trod_int Tryd.underlying30 h1
  obtain ⟨a0, a1⟩ := word_of_wf wa
  obtain ⟨b0, b1⟩ := word_of_wf wb
  rw [c_num] at e0 e1
  have k0 := at_of_chunk e0 0 (by simp)
  have k1 := at_of_chunk e1 0 (by simp)
  simp only [Nat.add_zero, List.getElem?_cons_zero] at k0 k1
  refine ⟨a.toNat, b.toNat, ?_, ?_, by show a.toNat < _; omega, by show b.toNat < _; omega⟩
  · rw [Int.toNat_of_nonneg a0]
    rw [List.getElem?_take_of_lt (by decide), List.getElem?_drop] at k0
    simpa using k0
  · rw [Int.toNat_of_nonneg b0]
    rw [List.getElem?_take_of_lt (by decide), List.getElem?_drop] at k1
    simpa using k1
theorem trod_row {fuel : Nat} {cs : List Value} {y : DataW H × List MemPlace} (h : DataW.trod enc Tryd.prog W 0 (fun _ => true) true fuel 34 cs = some y) : ∃ a : Rc, a.ok ∧ a.cs = cs.toArray := by
  obtain ⟨xs, n, _, _, hl, hlen, hf⟩ := DataW.trod_struct Tryd.underlying34 h
  have hx : xs.length = 8 := hlen
  rw [c_row] at hl
  have sm : ∀ i, i < 8 → (xs[i]?).isSome = true := fun i hi => by rw [List.getElem?_eq_getElem (by omega)]; rfl
  obtain ⟨h0, l0, e0, e1, w0⟩ := fld_num (o := 0) (hf 0 _ rfl) (sm 0 (by decide))
  obtain ⟨tm, e2, t0, t1⟩ := fld_i64 (o := 2) (hf 1 _ rfl) (sm 1 (by decide))
  obtain ⟨ev, e3, v0, v1⟩ := fld_i64 (o := 3) (hf 2 _ rfl) (sm 2 (by decide))
  obtain ⟨h1, l1, e4, e5, w1⟩ := fld_num (o := 4) (hf 3 _ rfl) (sm 3 (by decide))
  obtain ⟨h2, l2, e6, e7, w2⟩ := fld_num (o := 6) (hf 4 _ rfl) (sm 4 (by decide))
  obtain ⟨h3, l3, e8, e9, w3⟩ := fld_num (o := 8) (hf 5 _ rfl) (sm 5 (by decide))
  obtain ⟨h4, l4, e10, e11, w4⟩ := fld_num (o := 10) (hf 6 _ rfl) (sm 6 (by decide))
  obtain ⟨h5, l5, e12, e13, w5⟩ := fld_num (o := 12) (hf 7 _ rfl) (sm 7 (by decide))
  refine ⟨⟨h0, l0, tm, ev, h1, l1, h2, l2, h3, l3, h4, l4, h5, l5⟩, ⟨w0, w1, w2, w3, w4, w5, t0, t1, v0, v1⟩, ?_⟩
  have hc : cs = (Rc.cs ⟨h0, l0, tm, ev, h1, l1, h2, l2, h3, l3, h4, l4, h5, l5⟩).toList := cells_of hl rfl (fun i hi => by
    match i, hi with
    | 0, _ => exact e0
    | 1, _ => exact e1
    | 2, _ => exact e2
    | 3, _ => exact e3
    | 4, _ => exact e4
    | 5, _ => exact e5
    | 6, _ => exact e6
    | 7, _ => exact e7
    | 8, _ => exact e8
    | 9, _ => exact e9
    | 10, _ => exact e10
    | 11, _ => exact e11
    | 12, _ => exact e12
    | 13, _ => exact e13)
  rw [hc, Array.toArray_toList]
theorem open_row (hv : Value.okWide Tryd.prog W .any base 34 v) (h : DataW.Trod enc Tryd.prog W 0 (fun _ => true) true 34 v d p) : ∃ a : Rc, v = .agg a.cs ∧ a.ok := by
  obtain ⟨cs, rfl, hsz⟩ := okWide_struct Tryd.underlying34 hv
  obtain ⟨fuel, hf⟩ := h
  obtain ⟨a, ha, e⟩ := trod_row (y := (d, p)) hf
  exact ⟨a, by rw [e]; simp [Value.cells], ha⟩
theorem open_rowsv (hv : Value.okWide Tryd.prog W .any base 22 v) (h : DataW.Trod enc Tryd.prog W 0 (fun _ => true) true 22 v d p) : ∃ L, RowsAt W v L := by
  obtain ⟨a0, len0, cap0, rfl⟩ := okWide_slice Tryd.underlying22 hv
  obtain ⟨fuel, hf⟩ := h
  rcases open_slice Tryd.underlying22 hf with ⟨hcs, hx⟩ | ⟨a, len, cap, m, n, D, Pl, hcs, _, hl, hm, hmm, hx0, hx⟩
  · simp [Value.cells] at hcs
    obtain ⟨rfl, rfl, rfl⟩ := hcs
    exact ⟨[], (fun a h => by cases h), Nat.zero_le _, none, 0, rfl, fun i hi => by simp at hi⟩
  · simp [Value.cells] at hcs
    obtain ⟨rfl, rfl, rfl⟩ := hcs
    simp at hmm
    rw [c_row] at hx
    have each : ∀ i, i < m → ∃ A : Rc, A.ok ∧ ∀ j u, A.cs.toList[j]? = some u → W.cell? ((a.add (i * 14)).add j) = some u := by
      intro i hi
      obtain ⟨cs', h1, h2⟩ := hx i hi
      obtain ⟨A, hA, hAc⟩ := trod_row h2
      obtain ⟨_, hlen, hcell⟩ := World.cells?_some h1
      refine ⟨A, hA, fun j u hu => ?_⟩
      rw [hAc] at hu
      have hj : j < 14 := by rw [← hlen]; exact (List.getElem?_eq_some_iff.1 (by simpa using hu)).1
      rw [hcell j hj]
      simpa using hu
    haveI : Inhabited Rc := ⟨Rc.z⟩
    obtain ⟨q, hq⟩ := choose_lt each
    refine ⟨(List.range len0).map q, fun A hA => ?_, by simp; omega, some a, cap0, by simp, fun k hk => ?_⟩
    · obtain ⟨i, hi, rfl⟩ := List.mem_map.1 hA
      exact (hq i (by have := List.mem_range.1 hi; omega)).1
    · have hkl : k < len0 := by simpa using hk
      have hr := (hq k (by omega)).2
      have hsp : a.spot = none := by
        have := (hq 0 (by omega)).2 0 _ rfl
        have := World.cell?_spot this
        obtain ⟨b, off, spot⟩ := a
        simpa [Addr.add] using this
      obtain ⟨b, off, spot⟩ := a
      obtain rfl : spot = none := hsp
      have e0 : ∀ j, ((⟨b, off, none⟩ : Addr).add (k * 14)).add j = ⟨b, off + k * 14 + j, none⟩ := fun j => by rw [add_plain, add_plain]
      have e1 : ((List.range len0).map q).getD k Rc.z = q k := by simp [List.getD, hkl]
      refine ⟨b, off, rfl, ?_, fun j u hu => ?_⟩
      · have := hr 0 _ rfl
        rw [e0] at this
        exact block_lt_of_cell this
      · rw [e1] at hu
        rw [← e0]
        exact hr j u hu
theorem open_ends (hv : Value.okWide Tryd.prog W .any base 23 v) (h : DataW.Trod enc Tryd.prog W 0 (fun _ => true) true 23 v d p) : ∃ x y : Int, v = .agg #[.int .i64 x, .int .i64 y] := by
  simp only [Value.okWide, Tryd.underlying23] at hv
  obtain ⟨cs, rfl, _⟩ := hv
  obtain ⟨fuel, hf⟩ := h
  obtain ⟨xs, n, _, _, hl, hlen, hfl⟩ := DataW.trod_array Tryd.underlying23 hf
  have hl' : cs.size = 2 := by rw [c_ends] at hl; simpa [Value.cells] using hl
  have h0 := hfl 0 (by decide)
  have h1 := hfl 1 (by decide)
  have hx2 : xs.length = 2 := hlen
  rw [List.getElem?_eq_getElem (by omega)] at h0 h1
  obtain ⟨a, e0, _, _⟩ := DataW.trod_int Tryd.underlying3 h0
  obtain ⟨b, e1, _, _⟩ := DataW.trod_int Tryd.underlying3 h1
  rw [c_int] at e0 e1
  have k0 := at_of_chunk e0 0 (by simp)
  have k1 := at_of_chunk e1 0 (by simp)
  simp [Value.cells] at k0 k1
  refine ⟨a, b, congrArg Value.agg ?_⟩
  apply Array.ext_getElem?
  intro i
  match i with
  | 0 => simpa using k0
  | 1 => simpa using k1
  | i + 2 => rw [Array.getElem?_eq_none (by omega)]; simp
end
end Go.Proofs.YtcahmldgkkcheaaDoor
