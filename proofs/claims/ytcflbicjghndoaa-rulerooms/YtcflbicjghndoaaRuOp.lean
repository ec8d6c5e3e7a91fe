
/-
  What the arguments of a law over package rule are, as values: transfers, accounts, numbers.
-/
import Derived.Test.YtcflbicjghndoaaBas
import Derived.ProofKit
import Derived.OpenShut
import Derived.ShutString
import Derived.ChangeOld
import Derived.Below
import Derived.Lib.SmallJoins
namespace Go.Proofs.Ytcflbicjghndoaa
open Go.ChangeShapes Go.WideShapes Go.ChangeAt Go.RowKit Go.Joins
set_option maxRecDepth 100000
set_option linter.unusedVariables false

theorem own : ownKnob Try.prog.godebug = none := by kernel_rfl
theorem laidOut : laidOutB Try.prog = true := by kernel_rfl
theorem byte_of_wf {x : Int} (h : (Lit.int .u8 x).wf = true) : 0 ≤ x ∧ x < 256 := by
  simp [Lit.wf, IntKind.min, IntKind.max, IntKind.signed, IntKind.bits] at h
  exact ⟨by omega, by omega⟩
theorem word_of_wf {x : Int} (h : (Lit.int .u64 x).wf = true) : Word x := by
  simp [Lit.wf, IntKind.min, IntKind.max, IntKind.signed, IntKind.bits] at h
  exact ⟨by omega, by omega⟩
/-- An int. -/
def I64 (x : Int) : Prop := -9223372036854775808 ≤ x ∧ x ≤ 9223372036854775807
theorem i64_of_wf {x : Int} (h : (Lit.int .i64 x).wf = true) : I64 x := by
  simp [Lit.wf, IntKind.min, IntKind.max, IntKind.signed, IntKind.bits] at h
  exact ⟨by omega, by omega⟩
theorem c_int : Try.prog.cellsOf 3 = 1 := by kernel_rfl
theorem c_num : Try.prog.cellsOf 24 = 2 := by kernel_rfl
theorem c_u64 : Try.prog.cellsOf 22 = 1 := by kernel_rfl
theorem c_u8 : Try.prog.cellsOf 5 = 1 := by kernel_rfl
theorem c_hash : Try.prog.cellsOf 34 = 32 := by kernel_rfl
theorem c_tr : Try.prog.cellsOf 26 = 16 := by kernel_rfl
theorem c_acc : Try.prog.cellsOf 36 = 46 := by kernel_rfl
theorem at_of_chunk {cs : List Value} {o n : Nat} {l : List Value} (h : (cs.drop o).take n = l) (j : Nat) (hj : j < l.length) : cs[o + j]? = l[j]? := by
  subst h
  have hn : j < n := by simp at hj; omega
  rw [List.getElem?_take_of_lt hn, List.getElem?_drop]
section
variable {H : Type} {enc : TypeId × Value → H} {W : World} {v : Value} {d : DataW H} {p : List MemPlace} {base : Nat}

theorem fld_i64 {fuel o : Nat} {cs : List Value} {y : Option (DataW H × List MemPlace)} (h : DataW.trod enc Try.prog W 0 (fun _ => true) true fuel 3 ((cs.drop o).take (Try.prog.cellsOf 3)) = y) (hy : y.isSome = true) : ∃ x, cs[o]? = some (.int .i64 x) ∧ I64 x := by
  obtain ⟨y', rfl⟩ := Option.isSome_iff_exists.1 hy
  obtain ⟨x, e, _, wf⟩ := DataW.trod_int Try.underlying3 h
  have := at_of_chunk e 0 (by simp)
  exact ⟨x, by simpa using this, i64_of_wf wf⟩
theorem fld_num {fuel o : Nat} {cs : List Value} {y : Option (DataW H × List MemPlace)} (h : DataW.trod enc Try.prog W 0 (fun _ => true) true fuel 24 ((cs.drop o).take (Try.prog.cellsOf 24)) = y) (hy : y.isSome = true) : ∃ hi lo : Int, cs[o]? = some (.int .u64 hi) ∧ cs[o + 1]? = some (.int .u64 lo) ∧ Word hi ∧ Word lo := by
  obtain ⟨y', rfl⟩ := Option.isSome_iff_exists.1 hy
  obtain ⟨xs, n, _, _, hl, hlen, hf⟩ := DataW.trod_struct Try.underlying24 h
  have h0 := hf 0 _ rfl
  have h1 := hf 1 _ rfl
  have hx2 : xs.length = 2 := hlen
  rw [List.getElem?_eq_getElem (by omega)] at h0 h1
  obtain ⟨a, e0, _, wa⟩ := DataW.trod_int Try.underlying22 h0
  obtain ⟨b, e1, _, wb⟩ := DataW.trod_int Try.underlying22 h1
  rw [c_num] at e0 e1
  have k0 := at_of_chunk e0 0 (by simp)
  have k1 := at_of_chunk e1 0 (by simp)
  simp only [Nat.add_zero, List.getElem?_cons_zero] at k0 k1
  refine ⟨a, b, ?_, ?_, word_of_wf wa, word_of_wf wb⟩
  · rw [List.getElem?_take_of_lt (by decide), List.getElem?_drop] at k0
    simpa using k0
  · rw [List.getElem?_take_of_lt (by decide), List.getElem?_drop] at k1
    simpa using k1
theorem fld_hash {fuel o : Nat} {cs : List Value} {y : Option (DataW H × List MemPlace)} (h : DataW.trod enc Try.prog W 0 (fun _ => true) true fuel 34 ((cs.drop o).take (Try.prog.cellsOf 34)) = y) (hy : y.isSome = true) : ∀ j, j < 32 → ∃ x : Int, cs[o + j]? = some (.int .u8 x) := by
  obtain ⟨y', rfl⟩ := Option.isSome_iff_exists.1 hy
  obtain ⟨xs, n, _, _, hl, hlen, hf⟩ := DataW.trod_array Try.underlying34 h
  intro j hj
  have h0 := hf j hj
  rw [List.getElem?_eq_getElem (by omega)] at h0
  obtain ⟨a, e0, _, wa⟩ := DataW.trod_int Try.underlying5 h0
  rw [c_u8, c_hash, Nat.mul_one] at e0
  have k0 := at_of_chunk e0 0 (by simp)
  simp only [Nat.add_zero, List.getElem?_cons_zero] at k0
  rw [List.getElem?_take_of_lt hj, List.getElem?_drop] at k0
  exact ⟨a, k0⟩
theorem cells_of {n : Nat} {cs l : List Value} (h1 : cs.length = n) (hn : l.length = n) (h2 : ∀ i : Nat, i < n → cs[i]? = l[i]?) : cs = l := by
  subst hn
  apply List.ext_getElem?
  intro i
  rcases Nat.lt_or_ge i l.length with h | h
  · exact h2 i h
  · rw [List.getElem?_eq_none h, List.getElem?_eq_none (by omega)]
theorem trod_tr {fuel : Nat} {cs : List Value} {y : DataW H × List MemPlace} (h : DataW.trod enc Try.prog W 0 (fun _ => true) true fuel 26 cs = some y) : ∃ a0 a1 a2 a3 a4 a5 a6 a7 a8 a9 a10 a11 a12 a13 a14 a15 : Int, Value.agg cs.toArray = .agg #[.int .u64 a0, .int .u64 a1, .int .u64 a2, .int .u64 a3, .int .u64 a4, .int .u64 a5, .int .u64 a6, .int .u64 a7, .int .u64 a8, .int .u64 a9, .int .i64 a10, .int .i64 a11, .int .i64 a12, .int .i64 a13, .int .i64 a14, .int .i64 a15] ∧ Word a0 ∧ Word a1 ∧ Word a2 ∧ Word a3 ∧ Word a4 ∧ Word a5 ∧ Word a6 ∧ Word a7 ∧ Word a8 ∧ Word a9 ∧ I64 a10 ∧ I64 a11 ∧ I64 a12 ∧ I64 a13 ∧ I64 a14 ∧ I64 a15 := by
  obtain ⟨xs, n, _, _, hl, hlen, hf⟩ := DataW.trod_struct Try.underlying26 h
  have hx : xs.length = 11 := hlen
  rw [c_tr] at hl
  have sm : ∀ i, i < 11 → (xs[i]?).isSome = true := fun i hi => by rw [List.getElem?_eq_getElem (by omega)]; rfl
  obtain ⟨a0, a1, e0, e1, w0, w1⟩ := fld_num (o := 0) (hf 0 _ rfl) (sm 0 (by decide))
  obtain ⟨a2, a3, e2, e3, w2, w3⟩ := fld_num (o := 2) (hf 1 _ rfl) (sm 1 (by decide))
  obtain ⟨a4, a5, e4, e5, w4, w5⟩ := fld_num (o := 4) (hf 2 _ rfl) (sm 2 (by decide))
  obtain ⟨a6, a7, e6, e7, w6, w7⟩ := fld_num (o := 6) (hf 3 _ rfl) (sm 3 (by decide))
  obtain ⟨a8, a9, e8, e9, w8, w9⟩ := fld_num (o := 8) (hf 4 _ rfl) (sm 4 (by decide))
  obtain ⟨a10, e10, w10⟩ := fld_i64 (o := 10) (hf 5 _ rfl) (sm 5 (by decide))
  obtain ⟨a11, e11, w11⟩ := fld_i64 (o := 11) (hf 6 _ rfl) (sm 6 (by decide))
  obtain ⟨a12, e12, w12⟩ := fld_i64 (o := 12) (hf 7 _ rfl) (sm 7 (by decide))
  obtain ⟨a13, e13, w13⟩ := fld_i64 (o := 13) (hf 8 _ rfl) (sm 8 (by decide))
  obtain ⟨a14, e14, w14⟩ := fld_i64 (o := 14) (hf 9 _ rfl) (sm 9 (by decide))
  obtain ⟨a15, e15, w15⟩ := fld_i64 (o := 15) (hf 10 _ rfl) (sm 10 (by decide))
  refine ⟨a0, a1, a2, a3, a4, a5, a6, a7, a8, a9, a10, a11, a12, a13, a14, a15, ?_, w0, w1, w2, w3, w4, w5, w6, w7, w8, w9, w10, w11, w12, w13, w14, w15⟩
  have hall : ∀ i : Nat, i < 16 → cs[i]? = ([.int .u64 a0, .int .u64 a1, .int .u64 a2, .int .u64 a3, .int .u64 a4, .int .u64 a5, .int .u64 a6, .int .u64 a7, .int .u64 a8, .int .u64 a9, .int .i64 a10, .int .i64 a11, .int .i64 a12, .int .i64 a13, .int .i64 a14, .int .i64 a15] : List Value)[i]? := by
    intro i hi
    have hc : i = 0 ∨ i = 1 ∨ i = 2 ∨ i = 3 ∨ i = 4 ∨ i = 5 ∨ i = 6 ∨ i = 7 ∨ i = 8 ∨ i = 9 ∨ i = 10 ∨ i = 11 ∨ i = 12 ∨ i = 13 ∨ i = 14 ∨ i = 15 := by omega
    rcases hc with rfl | rfl | rfl | rfl | rfl | rfl | rfl | rfl | rfl | rfl | rfl | rfl | rfl | rfl | rfl | rfl
    · exact e0
    · exact e1
    · exact e2
    · exact e3
    · exact e4
    · exact e5
    · exact e6
    · exact e7
    · exact e8
    · exact e9
    · exact e10
    · exact e11
    · exact e12
    · exact e13
    · exact e14
    · exact e15
  exact congrArg (fun l : List Value => Value.agg l.toArray) (cells_of (l := [.int .u64 a0, .int .u64 a1, .int .u64 a2, .int .u64 a3, .int .u64 a4, .int .u64 a5, .int .u64 a6, .int .u64 a7, .int .u64 a8, .int .u64 a9, .int .i64 a10, .int .i64 a11, .int .i64 a12, .int .i64 a13, .int .i64 a14, .int .i64 a15]) hl rfl hall)
theorem open_tr (hv : Value.okWide Try.prog W .any base 26 v) (h : DataW.Trod enc Try.prog W 0 (fun _ => true) true 26 v d p) : ∃ a0 a1 a2 a3 a4 a5 a6 a7 a8 a9 a10 a11 a12 a13 a14 a15 : Int, v = .agg #[.int .u64 a0, .int .u64 a1, .int .u64 a2, .int .u64 a3, .int .u64 a4, .int .u64 a5, .int .u64 a6, .int .u64 a7, .int .u64 a8, .int .u64 a9, .int .i64 a10, .int .i64 a11, .int .i64 a12, .int .i64 a13, .int .i64 a14, .int .i64 a15] ∧ Word a0 ∧ Word a1 ∧ Word a2 ∧ Word a3 ∧ Word a4 ∧ Word a5 ∧ Word a6 ∧ Word a7 ∧ Word a8 ∧ Word a9 ∧ I64 a10 ∧ I64 a11 ∧ I64 a12 ∧ I64 a13 ∧ I64 a14 ∧ I64 a15 := by
  obtain ⟨cs, rfl, hsz⟩ := okWide_struct Try.underlying26 hv
  obtain ⟨fuel, hf⟩ := h
  exact trod_tr (y := (d, p)) hf
theorem trod_ac {fuel : Nat} {cs : List Value} {y : DataW H × List MemPlace} (h : DataW.trod enc Try.prog W 0 (fun _ => true) true fuel 36 cs = some y) : ∃ a0 a1 a2 a3 a4 a5 a6 a7 a8 a9 a10 a11 a12 a13 a14 a15 a16 a17 a18 a19 a20 a21 a22 a23 a24 a25 a26 a27 a28 a29 a30 a31 a32 a33 a34 a35 a36 a37 a38 a39 a40 a41 a42 a43 a44 a45 : Int, Value.agg cs.toArray = .agg #[.int .u64 a0, .int .u64 a1, .int .i64 a2, .int .i64 a3, .int .u64 a4, .int .u64 a5, .int .u64 a6, .int .u64 a7, .int .u64 a8, .int .u64 a9, .int .u64 a10, .int .u64 a11, .int .i64 a12, .int .i64 a13, .int .u8 a14, .int .u8 a15, .int .u8 a16, .int .u8 a17, .int .u8 a18, .int .u8 a19, .int .u8 a20, .int .u8 a21, .int .u8 a22, .int .u8 a23, .int .u8 a24, .int .u8 a25, .int .u8 a26, .int .u8 a27, .int .u8 a28, .int .u8 a29, .int .u8 a30, .int .u8 a31, .int .u8 a32, .int .u8 a33, .int .u8 a34, .int .u8 a35, .int .u8 a36, .int .u8 a37, .int .u8 a38, .int .u8 a39, .int .u8 a40, .int .u8 a41, .int .u8 a42, .int .u8 a43, .int .u8 a44, .int .u8 a45] ∧ Word a0 ∧ Word a1 ∧ I64 a2 ∧ I64 a3 ∧ Word a4 ∧ Word a5 ∧ Word a6 ∧ Word a7 ∧ Word a8 ∧ Word a9 ∧ Word a10 ∧ Word a11 ∧ I64 a12 ∧ I64 a13 := by
  obtain ⟨xs, n, _, _, hl, hlen, hf⟩ := DataW.trod_struct Try.underlying36 h
  have hx : xs.length = 10 := hlen
  rw [c_acc] at hl
  have sm : ∀ i, i < 10 → (xs[i]?).isSome = true := fun i hi => by rw [List.getElem?_eq_getElem (by omega)]; rfl
  obtain ⟨a0, a1, e0, e1, w0, w1⟩ := fld_num (o := 0) (hf 0 _ rfl) (sm 0 (by decide))
  obtain ⟨a2, e2, w2⟩ := fld_i64 (o := 2) (hf 1 _ rfl) (sm 1 (by decide))
  obtain ⟨a3, e3, w3⟩ := fld_i64 (o := 3) (hf 2 _ rfl) (sm 2 (by decide))
  obtain ⟨a4, a5, e4, e5, w4, w5⟩ := fld_num (o := 4) (hf 3 _ rfl) (sm 3 (by decide))
  obtain ⟨a6, a7, e6, e7, w6, w7⟩ := fld_num (o := 6) (hf 4 _ rfl) (sm 4 (by decide))
  obtain ⟨a8, a9, e8, e9, w8, w9⟩ := fld_num (o := 8) (hf 5 _ rfl) (sm 5 (by decide))
  obtain ⟨a10, a11, e10, e11, w10, w11⟩ := fld_num (o := 10) (hf 6 _ rfl) (sm 6 (by decide))
  obtain ⟨a12, e12, w12⟩ := fld_i64 (o := 12) (hf 7 _ rfl) (sm 7 (by decide))
  obtain ⟨a13, e13, w13⟩ := fld_i64 (o := 13) (hf 8 _ rfl) (sm 8 (by decide))
  have eh := fld_hash (o := 14) (hf 9 _ rfl) (sm 9 (by decide))
  obtain ⟨a14, e14⟩ := eh 0 (by decide)
  obtain ⟨a15, e15⟩ := eh 1 (by decide)
  obtain ⟨a16, e16⟩ := eh 2 (by decide)
  obtain ⟨a17, e17⟩ := eh 3 (by decide)
  obtain ⟨a18, e18⟩ := eh 4 (by decide)
  obtain ⟨a19, e19⟩ := eh 5 (by decide)
  obtain ⟨a20, e20⟩ := eh 6 (by decide)
  obtain ⟨a21, e21⟩ := eh 7 (by decide)
  obtain ⟨a22, e22⟩ := eh 8 (by decide)
  obtain ⟨a23, e23⟩ := eh 9 (by decide)
  obtain ⟨a24, e24⟩ := eh 10 (by decide)
  obtain ⟨a25, e25⟩ := eh 11 (by decide)
  obtain ⟨a26, e26⟩ := eh 12 (by decide)
  obtain ⟨a27, e27⟩ := eh 13 (by decide)
  obtain ⟨a28, e28⟩ := eh 14 (by decide)
  obtain ⟨a29, e29⟩ := eh 15 (by decide)
  obtain ⟨a30, e30⟩ := eh 16 (by decide)
  obtain ⟨a31, e31⟩ := eh 17 (by decide)
  obtain ⟨a32, e32⟩ := eh 18 (by decide)
  obtain ⟨a33, e33⟩ := eh 19 (by decide)
  obtain ⟨a34, e34⟩ := eh 20 (by decide)
  obtain ⟨a35, e35⟩ := eh 21 (by decide)
  obtain ⟨a36, e36⟩ := eh 22 (by decide)
  obtain ⟨a37, e37⟩ := eh 23 (by decide)
  obtain ⟨a38, e38⟩ := eh 24 (by decide)
  obtain ⟨a39, e39⟩ := eh 25 (by decide)
  obtain ⟨a40, e40⟩ := eh 26 (by decide)
  obtain ⟨a41, e41⟩ := eh 27 (by decide)
  obtain ⟨a42, e42⟩ := eh 28 (by decide)
  obtain ⟨a43, e43⟩ := eh 29 (by decide)
  obtain ⟨a44, e44⟩ := eh 30 (by decide)
  obtain ⟨a45, e45⟩ := eh 31 (by decide)
  refine ⟨a0, a1, a2, a3, a4, a5, a6, a7, a8, a9, a10, a11, a12, a13, a14, a15, a16, a17, a18, a19, a20, a21, a22, a23, a24, a25, a26, a27, a28, a29, a30, a31, a32, a33, a34, a35, a36, a37, a38, a39, a40, a41, a42, a43, a44, a45, ?_, w0, w1, w2, w3, w4, w5, w6, w7, w8, w9, w10, w11, w12, w13⟩
  have hall : ∀ i : Nat, i < 46 → cs[i]? = ([.int .u64 a0, .int .u64 a1, .int .i64 a2, .int .i64 a3, .int .u64 a4, .int .u64 a5, .int .u64 a6, .int .u64 a7, .int .u64 a8, .int .u64 a9, .int .u64 a10, .int .u64 a11, .int .i64 a12, .int .i64 a13, .int .u8 a14, .int .u8 a15, .int .u8 a16, .int .u8 a17, .int .u8 a18, .int .u8 a19, .int .u8 a20, .int .u8 a21, .int .u8 a22, .int .u8 a23, .int .u8 a24, .int .u8 a25, .int .u8 a26, .int .u8 a27, .int .u8 a28, .int .u8 a29, .int .u8 a30, .int .u8 a31, .int .u8 a32, .int .u8 a33, .int .u8 a34, .int .u8 a35, .int .u8 a36, .int .u8 a37, .int .u8 a38, .int .u8 a39, .int .u8 a40, .int .u8 a41, .int .u8 a42, .int .u8 a43, .int .u8 a44, .int .u8 a45] : List Value)[i]? := by
    intro i hi
    have hc : i = 0 ∨ i = 1 ∨ i = 2 ∨ i = 3 ∨ i = 4 ∨ i = 5 ∨ i = 6 ∨ i = 7 ∨ i = 8 ∨ i = 9 ∨ i = 10 ∨ i = 11 ∨ i = 12 ∨ i = 13 ∨ i = 14 ∨ i = 15 ∨ i = 16 ∨ i = 17 ∨ i = 18 ∨ i = 19 ∨ i = 20 ∨ i = 21 ∨ i = 22 ∨ i = 23 ∨ i = 24 ∨ i = 25 ∨ i = 26 ∨ i = 27 ∨ i = 28 ∨ i = 29 ∨ i = 30 ∨ i = 31 ∨ i = 32 ∨ i = 33 ∨ i = 34 ∨ i = 35 ∨ i = 36 ∨ i = 37 ∨ i = 38 ∨ i = 39 ∨ i = 40 ∨ i = 41 ∨ i = 42 ∨ i = 43 ∨ i = 44 ∨ i = 45 := by omega
    rcases hc with rfl | rfl | rfl | rfl | rfl | rfl | rfl | rfl | rfl | rfl | rfl | rfl | rfl | rfl | rfl | rfl | rfl | rfl | rfl | rfl | rfl | rfl | rfl | rfl | rfl | rfl | rfl | rfl | rfl | rfl | rfl | rfl | rfl | rfl | rfl | rfl | rfl | rfl | rfl | rfl | rfl | rfl | rfl | rfl | rfl | rfl
    · exact e0
    · exact e1
    · exact e2
    · exact e3
    · exact e4
    · exact e5
    · exact e6
    · exact e7
    · exact e8
    · exact e9
    · exact e10
    · exact e11
    · exact e12
    · exact e13
    · exact e14
    · exact e15
    · exact e16
    · exact e17
    · exact e18
    · exact e19
    · exact e20
    · exact e21
    · exact e22
    · exact e23
    · exact e24
    · exact e25
    · exact e26
    · exact e27
    · exact e28
    · exact e29
    · exact e30
    · exact e31
    · exact e32
    · exact e33
    · exact e34
    · exact e35
    · exact e36
    · exact e37
    · exact e38
    · exact e39
    · exact e40
    · exact e41
    · exact e42
    · exact e43
    · exact e44
    · exact e45
  exact congrArg (fun l : List Value => Value.agg l.toArray) (cells_of (l := [.int .u64 a0, .int .u64 a1, .int .i64 a2, .int .i64 a3, .int .u64 a4, .int .u64 a5, .int .u64 a6, .int .u64 a7, .int .u64 a8, .int .u64 a9, .int .u64 a10, .int .u64 a11, .int .i64 a12, .int .i64 a13, .int .u8 a14, .int .u8 a15, .int .u8 a16, .int .u8 a17, .int .u8 a18, .int .u8 a19, .int .u8 a20, .int .u8 a21, .int .u8 a22, .int .u8 a23, .int .u8 a24, .int .u8 a25, .int .u8 a26, .int .u8 a27, .int .u8 a28, .int .u8 a29, .int .u8 a30, .int .u8 a31, .int .u8 a32, .int .u8 a33, .int .u8 a34, .int .u8 a35, .int .u8 a36, .int .u8 a37, .int .u8 a38, .int .u8 a39, .int .u8 a40, .int .u8 a41, .int .u8 a42, .int .u8 a43, .int .u8 a44, .int .u8 a45]) hl rfl hall)
theorem open_ac (hv : Value.okWide Try.prog W .any base 36 v) (h : DataW.Trod enc Try.prog W 0 (fun _ => true) true 36 v d p) : ∃ a0 a1 a2 a3 a4 a5 a6 a7 a8 a9 a10 a11 a12 a13 a14 a15 a16 a17 a18 a19 a20 a21 a22 a23 a24 a25 a26 a27 a28 a29 a30 a31 a32 a33 a34 a35 a36 a37 a38 a39 a40 a41 a42 a43 a44 a45 : Int, v = .agg #[.int .u64 a0, .int .u64 a1, .int .i64 a2, .int .i64 a3, .int .u64 a4, .int .u64 a5, .int .u64 a6, .int .u64 a7, .int .u64 a8, .int .u64 a9, .int .u64 a10, .int .u64 a11, .int .i64 a12, .int .i64 a13, .int .u8 a14, .int .u8 a15, .int .u8 a16, .int .u8 a17, .int .u8 a18, .int .u8 a19, .int .u8 a20, .int .u8 a21, .int .u8 a22, .int .u8 a23, .int .u8 a24, .int .u8 a25, .int .u8 a26, .int .u8 a27, .int .u8 a28, .int .u8 a29, .int .u8 a30, .int .u8 a31, .int .u8 a32, .int .u8 a33, .int .u8 a34, .int .u8 a35, .int .u8 a36, .int .u8 a37, .int .u8 a38, .int .u8 a39, .int .u8 a40, .int .u8 a41, .int .u8 a42, .int .u8 a43, .int .u8 a44, .int .u8 a45] ∧ Word a0 ∧ Word a1 ∧ I64 a2 ∧ I64 a3 ∧ Word a4 ∧ Word a5 ∧ Word a6 ∧ Word a7 ∧ Word a8 ∧ Word a9 ∧ Word a10 ∧ Word a11 ∧ I64 a12 ∧ I64 a13 := by
  obtain ⟨cs, rfl, hsz⟩ := okWide_struct Try.underlying36 hv
  obtain ⟨fuel, hf⟩ := h
  exact trod_ac (y := (d, p)) hf
theorem open_i64 (hv : Value.okWide Try.prog W .any base 3 v) (h : DataW.Trod enc Try.prog W 0 (fun _ => true) true 3 v d p) : ∃ x : Int, v = .int .i64 x ∧ I64 x := by
  obtain ⟨x, rfl, _, _, wx⟩ := open_int Try.underlying3 hv h
  exact ⟨x, rfl, i64_of_wf wx⟩
theorem open_num (hv : Value.okWide Try.prog W .any base 24 v) (h : DataW.Trod enc Try.prog W 0 (fun _ => true) true 24 v d p) : ∃ a b : Int, v = .agg #[.int .u64 a, .int .u64 b] ∧ Word a ∧ Word b := by
  obtain ⟨c0, c1, y0, y1, m, rfl, _, _, hy0, hy1⟩ := open_agg2 Try.underlying24 (by kernel_rfl) c_num hv h
  obtain ⟨a, e0, _, wa⟩ := DataW.trod_int Try.underlying22 hy0
  obtain ⟨b, e1, _, wb⟩ := DataW.trod_int Try.underlying22 hy1
  simp at e0 e1
  subst e0 e1
  exact ⟨a, b, rfl, word_of_wf wa, word_of_wf wb⟩
end
end Go.Proofs.Ytcflbicjghndoaa
