
/-
  A slice of Deeds as an argument.
-/
import Derived.Test.YtfhaphbfbmpbiaaDkCa
import Derived.Test.YtfhaphbfbmpbiaaWaOp
import Derived.Deep.Slices
namespace Go.Proofs.Ytfhaphbfbmpbiaa
open Go.ChangeShapes Go.WideShapes Go.ChangeAt Go.RowKit Go.Joins Go.Deep
set_option maxRecDepth 100000

/-- A slice of Deeds. -/
structure DeedsAt (w : World) (v : Value) (L : List CIn) : Prop where
  at0 : CallsAt w v L
  cap : ∀ c ∈ L, ∀ q n k, c.v = .slice q n k → n ≤ k
theorem DeedsAt.later {w w' : World} {v : Value} {L : List CIn} (h : DeedsAt w v L) (hb : Below w.heap.size w w') : DeedsAt w' v L := ⟨h.at0.later hb, h.cap⟩
theorem c_deed : Try.prog.cellsOf 34 = 6 := by kernel_rfl
section
variable {H : Type} {enc : TypeId × Value → H} {W : World} {v : Value} {d : DataW H} {p : List MemPlace} {base : Nat}

theorem fld_i64 {fuel o : Nat} {cs : List Value} {y : Option (DataW H × List MemPlace)} (h : DataW.trod enc Try.prog W 0 (fun _ => true) true fuel 3 ((cs.drop o).take (Try.prog.cellsOf 3)) = y) (hy : y.isSome = true) : ∃ x, cs[o]? = some (.int .i64 x) ∧ (-9223372036854775808 ≤ x ∧ x ≤ 9223372036854775807) := by
  obtain ⟨y', rfl⟩ := Option.isSome_iff_exists.1 hy
  obtain ⟨x, e, _, wx⟩ := DataW.trod_int Try.underlying3 h
  have := at_of_chunk e 0 (by simp)
  simp [Lit.wf, IntKind.min, IntKind.max, IntKind.signed, IntKind.bits] at wx
  exact ⟨x, by simpa using this, by omega, by omega⟩
theorem fld_u64 {fuel o : Nat} {cs : List Value} {y : Option (DataW H × List MemPlace)} (h : DataW.trod enc Try.prog W 0 (fun _ => true) true fuel 32 ((cs.drop o).take (Try.prog.cellsOf 32)) = y) (hy : y.isSome = true) : ∃ x : Nat, cs[o]? = some (.int .u64 (x : Nat)) ∧ x < 2 ^ 64 := by
  obtain ⟨y', rfl⟩ := Option.isSome_iff_exists.1 hy
  obtain ⟨x, e, _, wx⟩ := DataW.trod_int Try.underlying32 h
  have := at_of_chunk e 0 (by simp)
  obtain ⟨b0, b1⟩ := word_of_wf wx
  exact ⟨x.toNat, by rw [Int.toNat_of_nonneg b0]; simpa using this, by omega⟩
theorem c_bytes : Try.prog.cellsOf 31 = 1 := by kernel_rfl
theorem fld_bytes {fuel o : Nat} {cs : List Value} {y : Option (DataW H × List MemPlace)} (h : DataW.trod enc Try.prog W 0 (fun _ => true) true fuel 31 ((cs.drop o).take (Try.prog.cellsOf 31)) = y) (hy : y.isSome = true) (ho : o < cs.length) : ∃ u l, cs[o]? = some u ∧ BytesAt W u l ∧ ∀ q n c, u = .slice q n c → n ≤ c := by
  obtain ⟨y', rfl⟩ := Option.isSome_iff_exists.1 hy
  have e : (cs.drop o).take (Try.prog.cellsOf 31) = [cs[o]] := by
    rw [c_bytes, List.drop_eq_getElem_cons ho]
    rfl
  rw [e] at h
  obtain ⟨l, hl, hc⟩ := bytes_of_trod h
  exact ⟨cs[o], l, List.getElem?_eq_getElem ho, hl, hc⟩
theorem array6 {cs : List Value} (h : cs.length = 6) : ∃ c0 c1 c2 c3 c4 c5, cs = [c0, c1, c2, c3, c4, c5] := by
  match cs, h with
  | [c0, c1, c2, c3, c4, c5], _ => exact ⟨c0, c1, c2, c3, c4, c5, rfl⟩
theorem trod_deed {fuel : Nat} {cs : List Value} {y : DataW H × List MemPlace} (h : DataW.trod enc Try.prog W 0 (fun _ => true) true fuel 34 cs = some y) : ∃ a : CIn, (a.ok W ∧ ∀ q n c, a.v = .slice q n c → n ≤ c) ∧ a.cs = cs.toArray := by
  obtain ⟨xs, n, _, _, hl, hlen, hf⟩ := DataW.trod_struct Try.underlying34 h
  have hx : xs.length = 6 := hlen
  rw [c_deed] at hl
  have sm : ∀ i, i < 6 → (xs[i]?).isSome = true := fun i hi => by rw [List.getElem?_eq_getElem (by omega)]; rfl
  obtain ⟨k, e0, w0⟩ := fld_i64 (o := 0) (hf 0 _ rfl) (sm 0 (by decide))
  obtain ⟨a, e1, w1⟩ := fld_i64 (o := 1) (hf 1 _ rfl) (sm 1 (by decide))
  obtain ⟨u, l, e2, w2, w2c⟩ := fld_bytes (o := 2) (hf 2 _ rfl) (sm 2 (by decide)) (by omega)
  obtain ⟨m, e3, w3⟩ := fld_u64 (o := 3) (hf 3 _ rfl) (sm 3 (by decide))
  obtain ⟨t, e4, w4⟩ := fld_i64 (o := 4) (hf 4 _ rfl) (sm 4 (by decide))
  obtain ⟨c, e5, w5⟩ := fld_i64 (o := 5) (hf 5 _ rfl) (sm 5 (by decide))
  obtain ⟨c0, c1, c2, c3, c4, c5, rfl⟩ := array6 hl
  simp at e0 e1 e2 e3 e4 e5
  subst e0 e1 e2 e3 e4 e5
  exact ⟨⟨k, a, c2, l, m, t, c⟩, ⟨⟨w2, w3, w0, w1⟩, w2c⟩, rfl⟩
theorem open_rows {α : Type} (dflt : α) (f : α → Array Value) (ok : α → Prop) {t e : TypeId} {z : Nat} (hz : Try.prog.cellsOf e = z) (hz0 : 0 < z) (ht : Try.prog.underlying t = some (.slice e))
    (hel : ∀ {fuel : Nat} {cs : List Value} {y : DataW H × List MemPlace}, DataW.trod enc Try.prog W 0 (fun _ => true) true fuel e cs = some y → ∃ a, ok a ∧ f a = cs.toArray)
    {fuel : Nat} {u : Value} {x : DataW H × List MemPlace} (h : DataW.trod enc Try.prog W 0 (fun _ => true) true fuel t [u] = some x) :
    ∃ L : List α, RowsIn f z W u L ∧ (∀ a ∈ L, ok a) ∧ ((∀ n ∈ x.1.weights Try.prog t, n ≤ reachBytes) → L.length * Try.prog.bytesOf e ≤ reachBytes) := by
  rcases open_slice ht h with ⟨hcs, hx⟩ | ⟨a, len, cap, m, n, D, Pl, hcs, _, hl, hm, hmm, hx0, hx⟩
  · obtain rfl : u = .slice none 0 0 := by simpa using hcs
    exact ⟨[], ⟨by simp, none, 0, rfl, (fun k a hk => by simp at hk)⟩, (fun a h => by cases h), (fun _ => by simp)⟩
  · obtain rfl : u = .slice (some a) len cap := by simpa using hcs
    simp at hmm
    subst hz
    have each : ∀ i, i < m → ∃ A : α, ok A ∧ ∀ j u, (f A).toList[j]? = some u → W.cell? ((a.add (i * Try.prog.cellsOf e)).add j) = some u := by
      intro i hi
      obtain ⟨cs', h1, h2⟩ := hx i hi
      obtain ⟨A, hA, hAc⟩ := hel h2
      obtain ⟨_, hlen, hcell⟩ := World.cells?_some h1
      refine ⟨A, hA, fun j u hu => ?_⟩
      rw [hAc] at hu
      have hj : j < Try.prog.cellsOf e := by rw [← hlen]; exact (List.getElem?_eq_some_iff.1 (by simpa using hu)).1
      rw [hcell j hj]
      simpa using hu
    haveI : Inhabited α := ⟨dflt⟩
    obtain ⟨q, hq⟩ := choose_lt each
    refine ⟨(List.range len).map q, ⟨by simp; omega, some a, cap, by simp, fun k A hk => ?_⟩, fun A hA => ?_, fun hw => ?_⟩
    · have hkl : k < len := by have := (List.getElem?_eq_some_iff.1 hk).1; simpa using this
      obtain rfl : A = q k := by simp [hkl] at hk; exact hk.symm
      have hr := (hq k (by omega)).2
      obtain ⟨cs', h1, h2⟩ := hx k (by omega)
      obtain ⟨_, hlen, hcell⟩ := World.cells?_some h1
      have h0 : W.cell? ((a.add (k * Try.prog.cellsOf e)).add 0) = cs'[0]? := hcell 0 hz0
      rw [List.getElem?_eq_getElem (by omega)] at h0
      obtain ⟨b, off, spot⟩ := a
      have hspot : spot = none := by
        obtain ⟨cs0, h10, _⟩ := hx 0 (by omega)
        obtain ⟨_, hlen0, hcell0⟩ := World.cells?_some h10
        have h00 := hcell0 0 hz0
        rw [List.getElem?_eq_getElem (by omega)] at h00
        have := World.cell?_spot h00
        simpa [Addr.add] using this
      subst hspot
      have e0 : ∀ j, ((⟨b, off, none⟩ : Addr).add (k * Try.prog.cellsOf e)).add j = ⟨b, off + k * Try.prog.cellsOf e + j, none⟩ := fun j => by rw [add_plain, add_plain]
      rw [e0] at h0
      refine ⟨b, off, rfl, block_lt_of_cell h0, fun j u hu => ?_⟩
      rw [← e0]
      exact hr j u hu
    · obtain ⟨i, hi, rfl⟩ := List.mem_map.1 hA
      exact (hq i (by have := List.mem_range.1 hi; omega)).1
    · rw [hx0] at hw
      have := hw _ (show ((List.range len).map D).length + ((List.range (m - len)).map fun j => D (len + j)).length |> (fun n => n * Try.prog.bytesOf e) |> (fun n => n ∈ _) by
        simp [DataW.weights, ht])
      simp only [List.length_map, List.length_range] at this ⊢
      exact Nat.le_trans (Nat.mul_le_mul_right _ (by omega)) this

theorem open_deeds (hv : Value.okWide Try.prog W .any base 22 v) (h : DataW.Trod enc Try.prog W 0 (fun _ => true) true 22 v d p) : ∃ L, DeedsAt W v L := by
  obtain ⟨a0, len, cap, rfl⟩ := okWide_slice Try.underlying22 hv
  obtain ⟨fuel, hf⟩ := h
  obtain ⟨L, h1, h2, _⟩ := open_rows CIn.none CIn.cs (fun a => a.ok W ∧ ∀ q n c, a.v = .slice q n c → n ≤ c) c_deed (by decide) Try.underlying22 trod_deed (x := (d, p)) hf
  exact ⟨L, ⟨h1, fun c hc => (h2 c hc).1⟩, fun c hc => (h2 c hc).2⟩
theorem open_u64 (hv : Value.okWide Try.prog W .any base 32 v) (h : DataW.Trod enc Try.prog W 0 (fun _ => true) true 32 v d p) :
    ∃ x : Nat, v = .int .u64 (x : Int) ∧ x < 2 ^ 64 := by
  obtain ⟨x, rfl, _, _, wx⟩ := open_int Try.underlying32 hv h
  obtain ⟨b0, b1⟩ := word_of_wf wx
  exact ⟨x.toNat, by rw [Int.toNat_of_nonneg b0], by omega⟩
end
end Go.Proofs.Ytfhaphbfbmpbiaa
