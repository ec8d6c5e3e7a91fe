
/-
  An account and a row as arguments: what they are as values.
-/
import Derived.Test.YtekpkbmelhgneaaWiOr
import Derived.Test.YtekpkbmelhgneaaWiL7
namespace Go.Proofs.Ytekpkbmelhgneaa
open Go.ChangeShapes Go.WideShapes Go.ChangeAt Go.RowKit Go.Joins Go.Deep
set_option maxRecDepth 100000
set_option linter.unusedVariables false

theorem c_row : Try.prog.cellsOf 44 = 14 := by kernel_rfl
section
variable {H : Type} {enc : TypeId × Value → H} {W : World} {v : Value} {d : DataW H} {p : List MemPlace} {base : Nat}

theorem list_app14 {cs : List Value} {l : List Value} {t : List Nat} (hl : cs.length = 46) (h14 : l.length = 14) (ht : t.length = 32) (h : ∀ j, j < 14 → cs[j]? = l[j]?) (hh : ∀ j, j < 32 → cs[14 + j]? = some (.int .u8 (t.getD j 0 : Nat))) : l.toArray ++ bytesL t = cs.toArray := by
  have e : l ++ (t.map fun x : Nat => Value.int .u8 (x : Int)) = cs := by
    apply List.ext_getElem?
    intro i
    rw [List.getElem?_append, h14]
    by_cases hi : i < 14
    · rw [if_pos hi, h i hi]
    · rw [if_neg hi]
      by_cases hi2 : i < 46
      · have := hh (i - 14) (by omega)
        rw [show 14 + (i - 14) = i by omega] at this
        rw [this]
        simp [List.getD, show i - 14 < t.length by omega]
      · rw [List.getElem?_eq_none (by simp; omega), List.getElem?_eq_none (by omega)]
  rw [← e]
  simp [bytesL]
theorem trod_accF {fuel : Nat} {cs : List Value} {y : DataW H × List MemPlace} (h : DataW.trod enc Try.prog W 0 (fun _ => true) true fuel 42 cs = some y) : ∃ a : AqI, a.ok ∧ a.cs = cs.toArray := by
  obtain ⟨xs, n, _, _, hl, hlen, hf⟩ := DataW.trod_struct Try.underlying42 h
  have hx : xs.length = 10 := hlen
  rw [c_acc] at hl
  have sm : ∀ i, i < 10 → (xs[i]?).isSome = true := fun i hi => by rw [List.getElem?_eq_getElem (by omega)]; rfl
  obtain ⟨hi, lo, e0, e1, w0⟩ := fld_num (o := 0) (hf 0 _ rfl) (sm 0 (by decide))
  obtain ⟨led, e2⟩ := fld_i64 (o := 2) (hf 1 _ rfl) (sm 1 (by decide))
  obtain ⟨fl, e3⟩ := fld_i64 (o := 3) (hf 2 _ rfl) (sm 2 (by decide))
  obtain ⟨h1, l1, e4, e5, w1⟩ := fld_num (o := 4) (hf 3 _ rfl) (sm 3 (by decide))
  obtain ⟨h2, l2, e6, e7, w2⟩ := fld_num (o := 6) (hf 4 _ rfl) (sm 4 (by decide))
  obtain ⟨h3, l3, e8, e9, w3⟩ := fld_num (o := 8) (hf 5 _ rfl) (sm 5 (by decide))
  obtain ⟨h4, l4, e10, e11, w4⟩ := fld_num (o := 10) (hf 6 _ rfl) (sm 6 (by decide))
  obtain ⟨tm, e12⟩ := fld_i64 (o := 12) (hf 7 _ rfl) (sm 7 (by decide))
  obtain ⟨un, e13⟩ := fld_i64 (o := 13) (hf 8 _ rfl) (sm 8 (by decide))
  have e14 := fld_hash (o := 14) (hf 9 _ rfl) (sm 9 (by decide))
  obtain ⟨q, hq⟩ := choose_lt e14
  refine ⟨⟨hi, lo, led, fl, h1, l1, h2, l2, h3, l3, h4, l4, tm, un, (List.range 32).map q⟩, ⟨w0, w1, w2, w3, w4, by simp, fun y hy => ?_⟩, ?_⟩
  · obtain ⟨i, hi, rfl⟩ := List.mem_map.1 hy
    exact (hq i (List.mem_range.1 hi)).2
  · refine list_app14 (l := [_, _, _, _, _, _, _, _, _, _, _, _, _, _]) hl rfl (by simp) (fun j hj => ?_) (fun j hj => ?_)
    · match j, hj with
      | 0, _ => exact e0
      | 1, _ => exact e1
      | 2, _ => exact e2
      | 3, _ => exact e3
      | 4, _ => exact e4
      | 5, _ => exact e5
      | 6, _ => exact e6
      | 7, _ => exact e7
      | 8, _ => exact e8
      | 9, _ => exact e9
      | 10, _ => exact e10
      | 11, _ => exact e11
      | 12, _ => exact e12
      | 13, _ => exact e13
    · rw [(hq j hj).1]
      simp [List.getD, hj]
theorem list14 {cs : List Value} (h : cs.length = 14) : ∃ c0 c1 c2 c3 c4 c5 c6 c7 c8 c9 c10 c11 c12 c13, cs = [c0, c1, c2, c3, c4, c5, c6, c7, c8, c9, c10, c11, c12, c13] := by
  match cs, h with
  | [c0, c1, c2, c3, c4, c5, c6, c7, c8, c9, c10, c11, c12, c13], _ => exact ⟨c0, c1, c2, c3, c4, c5, c6, c7, c8, c9, c10, c11, c12, c13, rfl⟩
theorem trod_rowF {fuel : Nat} {cs : List Value} {y : DataW H × List MemPlace} (h : DataW.trod enc Try.prog W 0 (fun _ => true) true fuel 44 cs = some y) : ∃ a : RwI, a.ok ∧ a.cs = cs.toArray := by
  obtain ⟨xs, n, _, _, hl, hlen, hf⟩ := DataW.trod_struct Try.underlying44 h
  have hx : xs.length = 8 := hlen
  rw [c_row] at hl
  have sm : ∀ i, i < 8 → (xs[i]?).isSome = true := fun i hi => by rw [List.getElem?_eq_getElem (by omega)]; rfl
  obtain ⟨h0, l0, e0, e1, w0⟩ := fld_num (o := 0) (hf 0 _ rfl) (sm 0 (by decide))
  obtain ⟨tm, e2⟩ := fld_i64 (o := 2) (hf 1 _ rfl) (sm 1 (by decide))
  obtain ⟨rs, e3⟩ := fld_i64 (o := 3) (hf 2 _ rfl) (sm 2 (by decide))
  obtain ⟨h1, l1, e4, e5, w1⟩ := fld_num (o := 4) (hf 3 _ rfl) (sm 3 (by decide))
  obtain ⟨h2, l2, e6, e7, w2⟩ := fld_num (o := 6) (hf 4 _ rfl) (sm 4 (by decide))
  obtain ⟨h3, l3, e8, e9, w3⟩ := fld_num (o := 8) (hf 5 _ rfl) (sm 5 (by decide))
  obtain ⟨h4, l4, e10, e11, w4⟩ := fld_num (o := 10) (hf 6 _ rfl) (sm 6 (by decide))
  obtain ⟨h5, l5, e12, e13, w5⟩ := fld_num (o := 12) (hf 7 _ rfl) (sm 7 (by decide))
  obtain ⟨c0, c1, c2, c3, c4, c5, c6, c7, c8, c9, c10, c11, c12, c13, rfl⟩ := list14 hl
  simp at e0 e1 e2 e3 e4 e5 e6 e7 e8 e9 e10 e11 e12 e13
  subst e0 e1 e2 e3 e4 e5 e6 e7 e8 e9 e10 e11 e12 e13
  exact ⟨⟨h0, l0, tm, rs, h1, l1, h2, l2, h3, l3, h4, l4, h5, l5⟩, ⟨w0, w1, w2, w3, w4, w5⟩, rfl⟩
theorem open_accF (hv : Value.okWide Try.prog W .any base 42 v) (h : DataW.Trod enc Try.prog W 0 (fun _ => true) true 42 v d p) : ∃ a : AqI, v = .agg a.cs ∧ a.ok := by
  obtain ⟨cs, rfl, hsz⟩ := okWide_struct Try.underlying42 hv
  obtain ⟨fuel, hf⟩ := h
  obtain ⟨a, ha, e⟩ := trod_accF (y := (d, p)) hf
  exact ⟨a, by rw [e]; rfl, ha⟩
theorem open_rowF (hv : Value.okWide Try.prog W .any base 44 v) (h : DataW.Trod enc Try.prog W 0 (fun _ => true) true 44 v d p) : ∃ a : RwI, v = .agg a.cs ∧ a.ok := by
  obtain ⟨cs, rfl, hsz⟩ := okWide_struct Try.underlying44 hv
  obtain ⟨fuel, hf⟩ := h
  obtain ⟨a, ha, e⟩ := trod_rowF (y := (d, p)) hf
  exact ⟨a, by rw [e]; rfl, ha⟩
end
end Go.Proofs.Ytekpkbmelhgneaa
