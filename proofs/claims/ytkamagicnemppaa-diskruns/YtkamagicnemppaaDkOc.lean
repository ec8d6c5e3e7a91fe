
/-
  A slice of Calls as an argument.
-/
import Derived.Test.YtkamagicnemppaaDkCa
import Derived.Test.YtkamagicnemppaaDkOp
import Derived.Deep.Slices
namespace Go.Proofs.Ytkamagicnemppaa
open Go.ChangeShapes Go.WideShapes Go.ChangeAt Go.RowKit Go.Joins Go.Deep
set_option maxRecDepth 100000

theorem at_of_chunk {cs : List Value} {o n : Nat} {l : List Value} (h : (cs.drop o).take n = l) (j : Nat) (hj : j < l.length) : cs[o + j]? = l[j]? := by
  subst h
  have hn : j < n := by simp at hj; omega
  rw [List.getElem?_take_of_lt hn, List.getElem?_drop]

theorem c_call : Try.prog.cellsOf 32 = 6 := by kernel_rfl
section
variable {H : Type} {enc : TypeId × Value → H} {W : World} {v : Value} {d : DataW H} {p : List MemPlace} {base : Nat}

theorem fld_i64 {fuel o : Nat} {cs : List Value} {y : Option (DataW H × List MemPlace)} (h : DataW.trod enc Try.prog W 0 (fun _ => true) true fuel 3 ((cs.drop o).take (Try.prog.cellsOf 3)) = y) (hy : y.isSome = true) : ∃ x, cs[o]? = some (.int .i64 x) ∧ (-9223372036854775808 ≤ x ∧ x ≤ 9223372036854775807) := by
  obtain ⟨y', rfl⟩ := Option.isSome_iff_exists.1 hy
  obtain ⟨x, e, _, wx⟩ := DataW.trod_int Try.underlying3 h
  have := at_of_chunk e 0 (by simp)
  simp [Lit.wf, IntKind.min, IntKind.max, IntKind.signed, IntKind.bits] at wx
  exact ⟨x, by simpa using this, by omega, by omega⟩
theorem fld_u64 {fuel o : Nat} {cs : List Value} {y : Option (DataW H × List MemPlace)} (h : DataW.trod enc Try.prog W 0 (fun _ => true) true fuel 30 ((cs.drop o).take (Try.prog.cellsOf 30)) = y) (hy : y.isSome = true) : ∃ x : Nat, cs[o]? = some (.int .u64 (x : Nat)) ∧ x < 2 ^ 64 := by
  obtain ⟨y', rfl⟩ := Option.isSome_iff_exists.1 hy
  obtain ⟨x, e, _, wx⟩ := DataW.trod_int Try.underlying30 h
  have := at_of_chunk e 0 (by simp)
  obtain ⟨b0, b1⟩ := word_of_wf wx
  exact ⟨x.toNat, by rw [Int.toNat_of_nonneg b0]; simpa using this, by omega⟩
theorem bytes_of_trod {fuel : Nat} {v : Value} {x : DataW H × List MemPlace} (hf : DataW.trod enc Try.prog W 0 (fun _ => true) true fuel 28 [v] = some x) :
    ∃ l, BytesAt W v l ∧ ((x.1 = .nil ∧ l = []) ∨ ∃ E S, x.1 = .slice E S ∧ E.length = l.length) := by
  rcases open_slice1 Try.underlying28 cells_u8 hf with ⟨hcs, hx⟩ | ⟨a, len, cap, m, n, V, D, P0, hcs, _, hl, hm, hmm, hx0, hx⟩
  · obtain rfl : v = .slice none 0 0 := by simpa using hcs
    exact ⟨[], BytesAt.nil _, Or.inl ⟨by rw [hx], rfl⟩⟩
  · obtain rfl : v = .slice (some a) len cap := by simpa using hcs
    simp at hmm
    have each : ∀ i, i < m → ∃ x : Nat, W.cell? (a.add i) = some (.int .u8 (x : Int)) ∧ x < 256 := by
      intro i hi
      obtain ⟨g0, t0⟩ := hx i hi
      obtain ⟨x, e0, _, wx⟩ := DataW.trod_int Try.underlying5 t0
      simp at e0
      rw [e0] at g0
      obtain ⟨b0, b1⟩ := byte_of_wf wx
      exact ⟨x.toNat, by rw [g0, Int.toNat_of_nonneg b0], by omega⟩
    obtain ⟨q, hq⟩ := choose_lt each
    refine ⟨(List.range len).map q, ⟨?_, by simp; omega, some a, cap, by simp, fun i hi => ?_⟩, Or.inr ⟨_, _, by rw [hx0], by simp⟩⟩
    · intro y hy
      obtain ⟨i, hi, rfl⟩ := List.mem_map.1 hy
      exact (hq i (by have := List.mem_range.1 hi; omega)).2
    · have hi' : i < len := by simpa using hi
      obtain ⟨g0, k0⟩ := hq i (by omega)
      obtain ⟨b, off, spot⟩ := a
      have hspot : spot = none := by simpa [Addr.add] using World.cell?_spot (hq 0 (by omega)).1
      subst hspot
      have e0 : (⟨b, off, none⟩ : Addr).add i = ⟨b, off + i, none⟩ := add_plain ..
      rw [e0] at g0
      exact ⟨b, off, rfl, block_lt_of_cell g0, by rw [g0]; simp [hi']⟩

theorem c_bytes : Try.prog.cellsOf 28 = 1 := by kernel_rfl
theorem fld_bytes {fuel o : Nat} {cs : List Value} {y : Option (DataW H × List MemPlace)} (h : DataW.trod enc Try.prog W 0 (fun _ => true) true fuel 28 ((cs.drop o).take (Try.prog.cellsOf 28)) = y) (hy : y.isSome = true) (ho : o < cs.length) : ∃ u l, cs[o]? = some u ∧ BytesAt W u l := by
  obtain ⟨y', rfl⟩ := Option.isSome_iff_exists.1 hy
  have e : (cs.drop o).take (Try.prog.cellsOf 28) = [cs[o]] := by
    rw [c_bytes, List.drop_eq_getElem_cons ho]
    rfl
  rw [e] at h
  obtain ⟨l, hl, _⟩ := bytes_of_trod h
  exact ⟨cs[o], l, List.getElem?_eq_getElem ho, hl⟩
theorem array6 {cs : List Value} (h : cs.length = 6) : ∃ c0 c1 c2 c3 c4 c5, cs = [c0, c1, c2, c3, c4, c5] := by
  match cs, h with
  | [c0, c1, c2, c3, c4, c5], _ => exact ⟨c0, c1, c2, c3, c4, c5, rfl⟩
theorem trod_call {fuel : Nat} {cs : List Value} {y : DataW H × List MemPlace} (h : DataW.trod enc Try.prog W 0 (fun _ => true) true fuel 32 cs = some y) : ∃ a : CIn, a.ok W ∧ a.cs = cs.toArray := by
  obtain ⟨xs, n, _, _, hl, hlen, hf⟩ := DataW.trod_struct Try.underlying32 h
  have hx : xs.length = 6 := hlen
  rw [c_call] at hl
  have sm : ∀ i, i < 6 → (xs[i]?).isSome = true := fun i hi => by rw [List.getElem?_eq_getElem (by omega)]; rfl
  obtain ⟨k, e0, w0⟩ := fld_i64 (o := 0) (hf 0 _ rfl) (sm 0 (by decide))
  obtain ⟨a, e1, w1⟩ := fld_i64 (o := 1) (hf 1 _ rfl) (sm 1 (by decide))
  obtain ⟨u, l, e2, w2⟩ := fld_bytes (o := 2) (hf 2 _ rfl) (sm 2 (by decide)) (by omega)
  obtain ⟨m, e3, w3⟩ := fld_u64 (o := 3) (hf 3 _ rfl) (sm 3 (by decide))
  obtain ⟨t, e4, w4⟩ := fld_i64 (o := 4) (hf 4 _ rfl) (sm 4 (by decide))
  obtain ⟨c, e5, w5⟩ := fld_i64 (o := 5) (hf 5 _ rfl) (sm 5 (by decide))
  obtain ⟨c0, c1, c2, c3, c4, c5, rfl⟩ := array6 hl
  simp at e0 e1 e2 e3 e4 e5
  subst e0 e1 e2 e3 e4 e5
  exact ⟨⟨k, a, c2, l, m, t, c⟩, ⟨w2, w3, w0, w1⟩, rfl⟩
theorem open_rows {α : Type} (dflt : α) (f : α → Array Value) (ok : α → Prop) {t e : TypeId} {z : Nat} (hz : Try.prog.cellsOf e = z) (hz0 : 0 < z) (ht : Try.prog.underlying t = some (.slice e))
    (hel : ∀ {fuel : Nat} {cs : List Value} {y : DataW H × List MemPlace}, DataW.trod enc Try.prog W 0 (fun _ => true) true fuel e cs = some y → ∃ a, ok a ∧ f a = cs.toArray)
    {fuel : Nat} {u : Value} {x : DataW H × List MemPlace} (h : DataW.trod enc Try.prog W 0 (fun _ => true) true fuel t [u] = some x) :
    ∃ L : List α, RowsIn f z W u L ∧ (∀ a ∈ L, ok a) ∧ ((∀ n ∈ x.1.weights Try.prog t, n ≤ reachBytes) → L.length * Try.prog.bytesOf e ≤ reachBytes) := by
  rcases open_slice ht h with ⟨hcs, hx⟩ | ⟨a, len, cap, m, n, D, Pl, hcs, _, hl, hm, hmm, hx0, hx⟩
  · obtain rfl : u = .slice none 0 0 := by simpa using hcs
    exact ⟨[], ⟨by simp, none, 0, rfl, (fun k a hk => by simp at hk)⟩, (fun a h => by cases h), (fun _ => by simp)⟩
  · obtain rfl : u = .slice (some a) len cap := by simpa using hcs
    simp at hmm
    subst hz
    have each : ∀ i, i < m → ∃ A : α, ok A ∧ ∀ j u, (f A).toList[j]? = some u → W.cell? ((a.add (i * Try.prog.cellsOf e)).add j) = some u := by
      intro i hi
      obtain ⟨cs', h1, h2⟩ := hx i hi
      obtain ⟨A, hA, hAc⟩ := hel h2
      obtain ⟨_, hlen, hcell⟩ := World.cells?_some h1
      refine ⟨A, hA, fun j u hu => ?_⟩
      rw [hAc] at hu
      have hj : j < Try.prog.cellsOf e := by rw [← hlen]; exact (List.getElem?_eq_some_iff.1 (by simpa using hu)).1
      rw [hcell j hj]
      simpa using hu
    haveI : Inhabited α := ⟨dflt⟩
    obtain ⟨q, hq⟩ := choose_lt each
    refine ⟨(List.range len).map q, ⟨by simp; omega, some a, cap, by simp, fun k A hk => ?_⟩, fun A hA => ?_, fun hw => ?_⟩
    · have hkl : k < len := by have := (List.getElem?_eq_some_iff.1 hk).1; simpa using this
      obtain rfl : A = q k := by simp [hkl] at hk; exact hk.symm
      have hr := (hq k (by omega)).2
      obtain ⟨cs', h1, h2⟩ := hx k (by omega)
      obtain ⟨_, hlen, hcell⟩ := World.cells?_some h1
      have h0 : W.cell? ((a.add (k * Try.prog.cellsOf e)).add 0) = cs'[0]? := hcell 0 hz0
      rw [List.getElem?_eq_getElem (by omega)] at h0
      obtain ⟨b, off, spot⟩ := a
      have hspot : spot = none := by
        obtain ⟨cs0, h10, _⟩ := hx 0 (by omega)
        obtain ⟨_, hlen0, hcell0⟩ := World.cells?_some h10
        have h00 := hcell0 0 hz0
        rw [List.getElem?_eq_getElem (by omega)] at h00
        have := World.cell?_spot h00
        simpa [Addr.add] using this
      subst hspot
      have e0 : ∀ j, ((⟨b, off, none⟩ : Addr).add (k * Try.prog.cellsOf e)).add j = ⟨b, off + k * Try.prog.cellsOf e + j, none⟩ := fun j => by rw [add_plain, add_plain]
      rw [e0] at h0
      refine ⟨b, off, rfl, block_lt_of_cell h0, fun j u hu => ?_⟩
      rw [← e0]
      exact hr j u hu
    · obtain ⟨i, hi, rfl⟩ := List.mem_map.1 hA
      exact (hq i (by have := List.mem_range.1 hi; omega)).1
    · rw [hx0] at hw
      have := hw _ (show ((List.range len).map D).length + ((List.range (m - len)).map fun j => D (len + j)).length |> (fun n => n * Try.prog.bytesOf e) |> (fun n => n ∈ _) by
        simp [DataW.weights, ht])
      simp only [List.length_map, List.length_range] at this ⊢
      exact Nat.le_trans (Nat.mul_le_mul_right _ (by omega)) this

theorem open_calls (hv : Value.okWide Try.prog W .any base 22 v) (h : DataW.Trod enc Try.prog W 0 (fun _ => true) true 22 v d p) : ∃ L, CallsAt W v L := by
  obtain ⟨a0, len, cap, rfl⟩ := okWide_slice Try.underlying22 hv
  obtain ⟨fuel, hf⟩ := h
  obtain ⟨L, h1, h2, _⟩ := open_rows CIn.none CIn.cs (CIn.ok W) c_call (by decide) Try.underlying22 trod_call (x := (d, p)) hf
  exact ⟨L, h1, h2⟩
end
end Go.Proofs.Ytkamagicnemppaa
