
/-
  A request as an argument: what it is as a value, with all its accounts and transfers.
-/
import Derived.Test.YtekpkbmelhgneaaWiT
import Derived.Test.YtekpkbmelhgneaaWiOp
import Derived.SizedLaws
import Derived.Deep.Slices
namespace Go.Proofs.Ytekpkbmelhgneaa
open Go.ChangeShapes Go.WideShapes Go.ChangeAt Go.RowKit Go.Joins Go.Deep
set_option maxRecDepth 100000

theorem c_int : Try.prog.cellsOf 3 = 1 := by kernel_rfl
theorem c_num : Try.prog.cellsOf 26 = 2 := by kernel_rfl
theorem c_u64 : Try.prog.cellsOf 24 = 1 := by kernel_rfl
theorem c_hash : Try.prog.cellsOf 40 = 32 := by kernel_rfl
theorem c_acc : Try.prog.cellsOf 42 = 46 := by kernel_rfl
theorem c_tr : Try.prog.cellsOf 71 = 16 := by kernel_rfl
theorem c_rq : Try.prog.cellsOf 28 = 8 := by kernel_rfl
theorem c_accs : Try.prog.cellsOf 22 = 1 := by kernel_rfl
theorem c_trs : Try.prog.cellsOf 23 = 1 := by kernel_rfl
theorem at_of_chunk {cs : List Value} {o n : Nat} {l : List Value} (h : (cs.drop o).take n = l) (j : Nat) (hj : j < l.length) : cs[o + j]? = l[j]? := by
  subst h
  have hn : j < n := by simp at hj; omega
  rw [List.getElem?_take_of_lt hn, List.getElem?_drop]

section
variable {H : Type} {enc : TypeId × Value → H} {W : World} {v : Value} {d : DataW H} {p : List MemPlace} {base : Nat}

theorem fld_i64 {fuel o : Nat} {cs : List Value} {y : Option (DataW H × List MemPlace)} (h : DataW.trod enc Try.prog W 0 (fun _ => true) true fuel 3 ((cs.drop o).take (Try.prog.cellsOf 3)) = y) (hy : y.isSome = true) : ∃ x, cs[o]? = some (.int .i64 x) := by
  obtain ⟨y', rfl⟩ := Option.isSome_iff_exists.1 hy
  obtain ⟨x, e, _, _⟩ := DataW.trod_int Try.underlying3 h
  have := at_of_chunk e 0 (by simp)
  exact ⟨x, by simpa using this⟩
theorem fld_num {fuel o : Nat} {cs : List Value} {y : Option (DataW H × List MemPlace)} (h : DataW.trod enc Try.prog W 0 (fun _ => true) true fuel 26 ((cs.drop o).take (Try.prog.cellsOf 26)) = y) (hy : y.isSome = true) : ∃ hi lo : Nat, cs[o]? = some (.int .u64 (hi : Nat)) ∧ cs[o + 1]? = some (.int .u64 (lo : Nat)) ∧ Word64 (hi, lo) := by
  obtain ⟨y', rfl⟩ := Option.isSome_iff_exists.1 hy
  obtain ⟨xs, n, _, _, hl, hlen, hf⟩ := DataW.trod_struct Try.underlying26 h
  have h0 := hf 0 _ rfl
  have h1 := hf 1 _ rfl
  have hx2 : xs.length = 2 := hlen
  rw [List.getElem?_eq_getElem (by omega)] at h0 h1
  obtain ⟨a, e0, _, wa⟩ := DataW.trod_int Try.underlying24 h0
  obtain ⟨b, e1, _, wb⟩ := DataW.trod_int Try.underlying24 h1
  obtain ⟨a0, a1⟩ := word_of_wf wa
  obtain ⟨b0, b1⟩ := word_of_wf wb
  rw [c_num] at e0 e1
  have k0 := at_of_chunk e0 0 (by simp)
  have k1 := at_of_chunk e1 0 (by simp)
  simp only [Nat.add_zero, List.getElem?_cons_zero] at k0 k1
  refine ⟨a.toNat, b.toNat, ?_, ?_, by show a.toNat < _; omega, by show b.toNat < _; omega⟩
  · rw [Int.toNat_of_nonneg a0]
    rw [List.getElem?_take_of_lt (by decide), List.getElem?_drop] at k0
    simpa using k0
  · rw [Int.toNat_of_nonneg b0]
    rw [List.getElem?_take_of_lt (by decide), List.getElem?_drop] at k1
    simpa using k1
theorem fld_hash {fuel o : Nat} {cs : List Value} {y : Option (DataW H × List MemPlace)} (h : DataW.trod enc Try.prog W 0 (fun _ => true) true fuel 40 ((cs.drop o).take (Try.prog.cellsOf 40)) = y) (hy : y.isSome = true) : ∀ j, j < 32 → ∃ x : Nat, cs[o + j]? = some (.int .u8 (x : Nat)) ∧ x < 256 := by
  obtain ⟨y', rfl⟩ := Option.isSome_iff_exists.1 hy
  obtain ⟨xs, n, _, _, hl, hlen, hf⟩ := DataW.trod_array Try.underlying40 h
  intro j hj
  have h0 := hf j hj
  rw [List.getElem?_eq_getElem (by omega)] at h0
  obtain ⟨a, e0, _, wa⟩ := DataW.trod_int Try.underlying5 h0
  obtain ⟨a0, a1⟩ := byte_of_wf wa
  rw [cells_u8, c_hash, Nat.mul_one] at e0
  have k0 := at_of_chunk e0 0 (by simp)
  simp only [Nat.add_zero, List.getElem?_cons_zero] at k0
  rw [List.getElem?_take_of_lt hj, List.getElem?_drop] at k0
  exact ⟨a.toNat, by rw [Int.toNat_of_nonneg a0]; exact k0, by omega⟩

theorem trod_acc {fuel : Nat} {cs : List Value} {y : DataW H × List MemPlace} (h : DataW.trod enc Try.prog W 0 (fun _ => true) true fuel 42 cs = some y) : ∃ a : AIn, a.ok ∧ a.cs = cs.toArray := by
  obtain ⟨xs, n, _, _, hl, hlen, hf⟩ := DataW.trod_struct Try.underlying42 h
  have hx : xs.length = 10 := hlen
  rw [c_acc] at hl
  have sm : ∀ i, i < 10 → (xs[i]?).isSome = true := fun i hi => by rw [List.getElem?_eq_getElem (by omega)]; rfl
  obtain ⟨hi, lo, e0, e1, w0⟩ := fld_num (o := 0) (hf 0 _ rfl) (sm 0 (by decide))
  obtain ⟨led, e2⟩ := fld_i64 (o := 2) (hf 1 _ rfl) (sm 1 (by decide))
  obtain ⟨fl, e3⟩ := fld_i64 (o := 3) (hf 2 _ rfl) (sm 2 (by decide))
  obtain ⟨_, _, e4, e5, _⟩ := fld_num (o := 4) (hf 3 _ rfl) (sm 3 (by decide))
  obtain ⟨_, _, e6, e7, _⟩ := fld_num (o := 6) (hf 4 _ rfl) (sm 4 (by decide))
  obtain ⟨_, _, e8, e9, _⟩ := fld_num (o := 8) (hf 5 _ rfl) (sm 5 (by decide))
  obtain ⟨_, _, e10, e11, _⟩ := fld_num (o := 10) (hf 6 _ rfl) (sm 6 (by decide))
  obtain ⟨_, e12⟩ := fld_i64 (o := 12) (hf 7 _ rfl) (sm 7 (by decide))
  obtain ⟨_, e13⟩ := fld_i64 (o := 13) (hf 8 _ rfl) (sm 8 (by decide))
  have e14 := fld_hash (o := 14) (hf 9 _ rfl) (sm 9 (by decide))
  refine ⟨⟨cs.toArray, hi, lo, led, fl⟩, ⟨by simpa using hl, ?_, by simpa using e0, by simpa using e1, by simpa using e2, by simpa using e3, w0⟩, rfl⟩
  have hint : ∀ j, j < 46 → ∃ k x, cs[j]? = some (.int k x) := by
    intro j hj
    rcases Nat.lt_or_ge j 14 with h14 | h14
    · match j, h14 with
      | 0, _ => exact ⟨_, _, e0⟩
      | 1, _ => exact ⟨_, _, e1⟩
      | 2, _ => exact ⟨_, _, e2⟩
      | 3, _ => exact ⟨_, _, e3⟩
      | 4, _ => exact ⟨_, _, e4⟩
      | 5, _ => exact ⟨_, _, e5⟩
      | 6, _ => exact ⟨_, _, e6⟩
      | 7, _ => exact ⟨_, _, e7⟩
      | 8, _ => exact ⟨_, _, e8⟩
      | 9, _ => exact ⟨_, _, e9⟩
      | 10, _ => exact ⟨_, _, e10⟩
      | 11, _ => exact ⟨_, _, e11⟩
      | 12, _ => exact ⟨_, _, e12⟩
      | 13, _ => exact ⟨_, _, e13⟩
    · obtain ⟨x, hx, _⟩ := e14 (j - 14) (by omega)
      rw [show 14 + (j - 14) = j from by omega] at hx
      exact ⟨_, _, hx⟩
  rw [Array.all_eq_true_iff_forall_mem]
  intro u hu
  obtain ⟨j, hj, rfl⟩ := List.getElem_of_mem (show u ∈ cs by simpa using hu)
  obtain ⟨k, x, hg⟩ := hint j (by omega)
  rw [List.getElem?_eq_getElem hj] at hg
  rw [Option.some.inj hg]
  rfl

theorem trod_tr {fuel : Nat} {cs : List Value} {y : DataW H × List MemPlace} (h : DataW.trod enc Try.prog W 0 (fun _ => true) true fuel 71 cs = some y) : ∃ a : TIn, a.ok ∧ a.cs = cs.toArray := by
  obtain ⟨xs, n, _, _, hl, hlen, hf⟩ := DataW.trod_struct Try.underlying71 h
  have hx : xs.length = 11 := hlen
  rw [c_tr] at hl
  have sm : ∀ i, i < 11 → (xs[i]?).isSome = true := fun i hi => by rw [List.getElem?_eq_getElem (by omega)]; rfl
  obtain ⟨h1, l1, e0, e1, w1⟩ := fld_num (o := 0) (hf 0 _ rfl) (sm 0 (by decide))
  obtain ⟨h2, l2, e2, e3, w2⟩ := fld_num (o := 2) (hf 1 _ rfl) (sm 1 (by decide))
  obtain ⟨h3, l3, e4, e5, w3⟩ := fld_num (o := 4) (hf 2 _ rfl) (sm 2 (by decide))
  obtain ⟨h4, l4, e6, e7, w4⟩ := fld_num (o := 6) (hf 3 _ rfl) (sm 3 (by decide))
  obtain ⟨h5, l5, e8, e9, w5⟩ := fld_num (o := 8) (hf 4 _ rfl) (sm 4 (by decide))
  obtain ⟨tm, e10⟩ := fld_i64 (o := 10) (hf 5 _ rfl) (sm 5 (by decide))
  obtain ⟨led, e11⟩ := fld_i64 (o := 11) (hf 6 _ rfl) (sm 6 (by decide))
  obtain ⟨fl, e12⟩ := fld_i64 (o := 12) (hf 7 _ rfl) (sm 7 (by decide))
  obtain ⟨_, e13⟩ := fld_i64 (o := 13) (hf 8 _ rfl) (sm 8 (by decide))
  obtain ⟨_, e14⟩ := fld_i64 (o := 14) (hf 9 _ rfl) (sm 9 (by decide))
  obtain ⟨_, e15⟩ := fld_i64 (o := 15) (hf 10 _ rfl) (sm 10 (by decide))
  refine ⟨⟨cs.toArray, h1, l1, h2, l2, h3, l3, h4, l4, h5, l5, tm, led, fl⟩, ⟨by simpa using hl, ?_, by simpa using e0, by simpa using e1, by simpa using e2, by simpa using e3, by simpa using e4, by simpa using e5, by simpa using e6, by simpa using e7, by simpa using e8, by simpa using e9, by simpa using e10, by simpa using e11, by simpa using e12, w1, w2, w3, w4, w5⟩, rfl⟩
  have hint : ∀ j, j < 16 → ∃ k x, cs[j]? = some (.int k x) := by
    intro j hj
    match j, hj with
    | 0, _ => exact ⟨_, _, e0⟩
    | 1, _ => exact ⟨_, _, e1⟩
    | 2, _ => exact ⟨_, _, e2⟩
    | 3, _ => exact ⟨_, _, e3⟩
    | 4, _ => exact ⟨_, _, e4⟩
    | 5, _ => exact ⟨_, _, e5⟩
    | 6, _ => exact ⟨_, _, e6⟩
    | 7, _ => exact ⟨_, _, e7⟩
    | 8, _ => exact ⟨_, _, e8⟩
    | 9, _ => exact ⟨_, _, e9⟩
    | 10, _ => exact ⟨_, _, e10⟩
    | 11, _ => exact ⟨_, _, e11⟩
    | 12, _ => exact ⟨_, _, e12⟩
    | 13, _ => exact ⟨_, _, e13⟩
    | 14, _ => exact ⟨_, _, e14⟩
    | 15, _ => exact ⟨_, _, e15⟩
    | j + 16, h => exact absurd h (by omega)
  rw [Array.all_eq_true_iff_forall_mem]
  intro u hu
  obtain ⟨j, hj, rfl⟩ := List.getElem_of_mem (show u ∈ cs by simpa using hu)
  obtain ⟨k, x, hg⟩ := hint j (by omega)
  rw [List.getElem?_eq_getElem hj] at hg
  rw [Option.some.inj hg]
  rfl

theorem open_rows {α : Type} (dflt : α) (f : α → Array Value) (ok : α → Prop) {t e : TypeId} {z : Nat} (hz : Try.prog.cellsOf e = z) (hz0 : 0 < z) (ht : Try.prog.underlying t = some (.slice e))
    (hel : ∀ {fuel : Nat} {cs : List Value} {y : DataW H × List MemPlace}, DataW.trod enc Try.prog W 0 (fun _ => true) true fuel e cs = some y → ∃ a, ok a ∧ f a = cs.toArray)
    {fuel : Nat} {u : Value} {x : DataW H × List MemPlace} (h : DataW.trod enc Try.prog W 0 (fun _ => true) true fuel t [u] = some x) :
    ∃ L : List α, RowsIn f z W u L ∧ (∀ a ∈ L, ok a) ∧ ((∀ n ∈ x.1.weights Try.prog t, n ≤ reachBytes) → L.length * Try.prog.bytesOf e ≤ reachBytes) := by
  rcases open_slice ht h with ⟨hcs, hx⟩ | ⟨a, len, cap, m, n, D, Pl, hcs, _, hl, hm, hmm, hx0, hx⟩
  · obtain rfl : u = .slice none 0 0 := by simpa using hcs
    exact ⟨[], ⟨by simp, none, 0, rfl, (fun k a hk => by simp at hk)⟩, (fun a h => by cases h), (fun _ => by simp)⟩
  · obtain rfl : u = .slice (some a) len cap := by simpa using hcs
    simp at hmm
    subst hz
    have each : ∀ i, i < m → ∃ A : α, ok A ∧ ∀ j u, (f A).toList[j]? = some u → W.cell? ((a.add (i * Try.prog.cellsOf e)).add j) = some u := by
      intro i hi
      obtain ⟨cs', h1, h2⟩ := hx i hi
      obtain ⟨A, hA, hAc⟩ := hel h2
      obtain ⟨_, hlen, hcell⟩ := World.cells?_some h1
      refine ⟨A, hA, fun j u hu => ?_⟩
      rw [hAc] at hu
      have hj : j < Try.prog.cellsOf e := by rw [← hlen]; exact (List.getElem?_eq_some_iff.1 (by simpa using hu)).1
      rw [hcell j hj]
      simpa using hu
    haveI : Inhabited α := ⟨dflt⟩
    obtain ⟨q, hq⟩ := choose_lt each
    refine ⟨(List.range len).map q, ⟨by simp; omega, some a, cap, by simp, fun k A hk => ?_⟩, fun A hA => ?_, fun hw => ?_⟩
    · have hkl : k < len := by have := (List.getElem?_eq_some_iff.1 hk).1; simpa using this
      obtain rfl : A = q k := by simp [hkl] at hk; exact hk.symm
      have hr := (hq k (by omega)).2
      obtain ⟨cs', h1, h2⟩ := hx k (by omega)
      obtain ⟨_, hlen, hcell⟩ := World.cells?_some h1
      have h0 : W.cell? ((a.add (k * Try.prog.cellsOf e)).add 0) = cs'[0]? := hcell 0 hz0
      rw [List.getElem?_eq_getElem (by omega)] at h0
      obtain ⟨b, off, spot⟩ := a
      have hspot : spot = none := by
        obtain ⟨cs0, h10, _⟩ := hx 0 (by omega)
        obtain ⟨_, hlen0, hcell0⟩ := World.cells?_some h10
        have h00 := hcell0 0 hz0
        rw [List.getElem?_eq_getElem (by omega)] at h00
        have := World.cell?_spot h00
        simpa [Addr.add] using this
      subst hspot
      have e0 : ∀ j, ((⟨b, off, none⟩ : Addr).add (k * Try.prog.cellsOf e)).add j = ⟨b, off + k * Try.prog.cellsOf e + j, none⟩ := fun j => by rw [add_plain, add_plain]
      rw [e0] at h0
      refine ⟨b, off, rfl, block_lt_of_cell h0, fun j u hu => ?_⟩
      rw [← e0]
      exact hr j u hu
    · obtain ⟨i, hi, rfl⟩ := List.mem_map.1 hA
      exact (hq i (by have := List.mem_range.1 hi; omega)).1
    · rw [hx0] at hw
      have := hw _ (show ((List.range len).map D).length + ((List.range (m - len)).map fun j => D (len + j)).length |> (fun n => n * Try.prog.bytesOf e) |> (fun n => n ∈ _) by
        simp [DataW.weights, ht])
      simp only [List.length_map, List.length_range] at this ⊢
      exact Nat.le_trans (Nat.mul_le_mul_right _ (by omega)) this

theorem array8 {cs : Array Value} (h : cs.size = 8) : ∃ c0 c1 c2 c3 c4 c5 c6 c7, cs = #[c0, c1, c2, c3, c4, c5, c6, c7] := by
  obtain ⟨l⟩ := cs
  match l, h with
  | [c0, c1, c2, c3, c4, c5, c6, c7], _ => exact ⟨c0, c1, c2, c3, c4, c5, c6, c7, rfl⟩
theorem b_acc : Try.prog.bytesOf 42 = 144 := by kernel_rfl
theorem b_tr : Try.prog.bytesOf 71 = 128 := by kernel_rfl

/-- A request, opened. -/
theorem open_rq (hv : Value.okWide Try.prog W .any base 28 v) (h : DataW.Trod enc Try.prog W 0 (fun _ => true) true 28 v d p) :
    ∃ q, RInAt W v q ∧ ((∀ n ∈ d.weights Try.prog 28, n ≤ reachBytes) → q.acs.length ≤ 1000000000000000 ∧ q.trs.length ≤ 1000000000000000) := by
  obtain ⟨cs, rfl, hsz⟩ := okWide_struct Try.underlying28 hv
  rw [c_rq] at hsz
  obtain ⟨c0, c1, c2, c3, c4, c5, c6, c7, rfl⟩ := array8 hsz
  obtain ⟨fuel, hf⟩ := h
  obtain ⟨xs, n, _, hx, hl, hlen, hfl⟩ := DataW.trod_struct Try.underlying28 hf
  have hx7 : xs.length = 7 := hlen
  match xs, hx7 with
  | [y0, y1, y2, y3, y4, y5, y6], _ =>
    obtain ⟨k, e0⟩ := fld_i64 (o := 0) (hfl 0 _ rfl) rfl
    have h1 : DataW.trod enc Try.prog W 0 (fun _ => true) true n 22 [c1] = some y1 := by
      have this : DataW.trod enc Try.prog W 0 (fun _ => true) true n 22 (([c0, c1, c2, c3, c4, c5, c6, c7].drop 1).take (Try.prog.cellsOf 22)) = some y1 := hfl 1 _ rfl
      rw [c_accs] at this
      exact this
    have h2 : DataW.trod enc Try.prog W 0 (fun _ => true) true n 23 [c2] = some y2 := by
      have this : DataW.trod enc Try.prog W 0 (fun _ => true) true n 23 (([c0, c1, c2, c3, c4, c5, c6, c7].drop 2).take (Try.prog.cellsOf 23)) = some y2 := hfl 2 _ rfl
      rw [c_trs] at this
      exact this
    obtain ⟨hi, lo, e3, e4, w3⟩ := fld_num (o := 3) (hfl 3 _ rfl) rfl
    obtain ⟨fr, e5⟩ := fld_i64 (o := 5) (hfl 4 _ rfl) rfl
    obtain ⟨to, e6⟩ := fld_i64 (o := 6) (hfl 5 _ rfl) rfl
    obtain ⟨lim, e7⟩ := fld_i64 (o := 7) (hfl 6 _ rfl) rfl
    obtain ⟨LA, hA, okA, wA⟩ := open_rows ⟨#[], 0, 0, 0, 0⟩ AIn.cs AIn.ok c_acc (by decide) Try.underlying22 trod_acc h1
    obtain ⟨LT, hT, okT, wT⟩ := open_rows ⟨#[], 0, 0, 0, 0, 0, 0, 0, 0, 0, 0, 0, 0, 0⟩ TIn.cs TIn.ok c_tr (by decide) Try.underlying23 trod_tr h2
    obtain rfl : c0 = .int .i64 k := by simpa [Value.cells] using e0
    obtain rfl : c3 = .int .u64 (hi : Nat) := by simpa [Value.cells] using e3
    obtain rfl : c4 = .int .u64 (lo : Nat) := by simpa [Value.cells] using e4
    obtain rfl : c5 = .int .i64 fr := by simpa [Value.cells] using e5
    obtain rfl : c6 = .int .i64 to := by simpa [Value.cells] using e6
    obtain rfl : c7 = .int .i64 lim := by simpa [Value.cells] using e7
    refine ⟨⟨k, LA, LT, hi, lo, fr, to, lim⟩, ⟨⟨c1, c2, rfl, hA, hT⟩, okA, okT, w3⟩, fun hw => ?_⟩
    have hd : d = .agg [y0.1, y1.1, y2.1, y3.1, y4.1, y5.1, y6.1] := (Prod.mk.inj hx).1
    have q1 : ∀ m ∈ y1.1.weights Try.prog 22, m ≤ reachBytes := fun m hm => hw m (by
      rw [hd]
      simp only [DataW.weights, Try.underlying28]
      exact DataW.weights_mem_each (j := 1) (t := 22) (d := y1.1) rfl rfl m hm)
    have q2 : ∀ m ∈ y2.1.weights Try.prog 23, m ≤ reachBytes := fun m hm => hw m (by
      rw [hd]
      simp only [DataW.weights, Try.underlying28]
      exact DataW.weights_mem_each (j := 2) (t := 23) (d := y2.1) rfl rfl m hm)
    have r1 := wA q1
    have r2 := wT q2
    rw [b_acc] at r1
    rw [b_tr] at r2
    simp only [reachBytes] at r1 r2
    exact ⟨by dsimp only; omega, by dsimp only; omega⟩
end
end Go.Proofs.Ytekpkbmelhgneaa
