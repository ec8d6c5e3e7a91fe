
/-
  Slices of hashes in memory; history's Leaf and Node.
-/
import Derived.Test.YtepohpniflmblaaDoorHiA
import Derived.Test.YtepohpniflmblaaDoorHeld
import Derived.Deep.MidRow
namespace Go.Proofs.YtepohpniflmblaaDoor
open Go.RowKit
set_option maxRecDepth 100000
set_option linter.unusedVariables false
set_option linter.unusedSimpArgs false

/-- A hash. -/
def H32 (l : List Nat) : Prop := l.length = 32 ∧ W8 l
def msgL (b : List Nat) : List Nat := 0 :: b
def msgN (a b : List Nat) : List Nat := 1 :: (a ++ b)
noncomputable def hsh (m : List Nat) : List Nat := hashF KW m
theorem hsh_32 (m : List Nat) : H32 (hsh m) := ⟨hash_len m, tellF_ok _⟩
theorem msgN_len {a b : List Nat} (ha : H32 a) (hb : H32 b) : (msgN a b).length = 65 := by unfold msgN; simp [ha.1, hb.1]
/-- A slice of hashes. -/
structure HsAt (w : World) (v : Value) (L : List (List Nat)) : Prop where
  ok : ∀ l ∈ L, H32 l
  ex : ∃ p c, v = .slice p L.length c ∧ L.length ≤ c ∧ c ≤ maxLen ∧ ∀ i, i < L.length → ∃ g off cs, p = some ⟨g, off, none⟩ ∧ Row w g cs 28 ∧ ∀ j, j < 32 → cs[off + i * 32 + j]? = (bytesL (L.getD i []))[j]?
theorem HsAt.tstep {base : Nat} {w w' : World} {v : Value} {L : List (List Nat)} (h : HsAt w v L) (hs : TStep base w w') : HsAt w' v L := by
  obtain ⟨h1, p, c, e, h2, h3, h4⟩ := h
  refine ⟨h1, p, c, e, h2, h3, fun i hi => ?_⟩
  obtain ⟨g, off, cs, e, hr, hc⟩ := h4 i hi
  exact ⟨g, off, cs, e, hr.tstep hs (by decide) (by decide), hc⟩
theorem HsAt.later {w w' : World} {v : Value} {L : List (List Nat)} (h : HsAt w v L) (hb : Below w.heap.size w w') : HsAt w' v L := h.tstep (base := 0) (.of hb)
theorem HsAt.at {w : World} {p : Option Addr} {n c : Nat} {L : List (List Nat)} (h : HsAt w (.slice p n c) L) {i : Nat} (hi : i < L.length) : ∃ g off, p = some ⟨g, off, none⟩ ∧ g < w.heap.size ∧ w.rangeAt g (off + i * 32) (bytesL (L.getD i [])).toList ∧ H32 (L.getD i []) := by
  obtain ⟨h1, p, c, e, h2, h3, h4⟩ := h
  cases e
  obtain ⟨g, off, cs, e, hr, hc⟩ := h4 i hi
  have hm : L.getD i [] ∈ L := by simp only [List.getD]; rw [List.getElem?_eq_getElem hi]; exact List.getElem_mem _
  refine ⟨g, off, e, hr.lt, fun j x hx => ?_, h1 _ hm⟩
  have hj : j < 32 := by
    have := (List.getElem?_eq_some_iff.1 hx).1
    rw [Array.length_toList, bytesL_size, (h1 _ hm).1] at this
    exact this
  rw [hr.cell, hc j hj, ← hx, Array.getElem?_toList]
theorem HsAt.form {w : World} {v : Value} {L : List (List Nat)} (h : HsAt w v L) : ∃ p c, v = .slice p L.length c ∧ L.length ≤ c ∧ c ≤ maxLen := by
  obtain ⟨h1, p, c, e, h2, h3, h4⟩ := h
  exact ⟨p, c, e, h2, h3⟩
theorem HsAt.take {w : World} {p : Option Addr} {n c : Nat} {L : List (List Nat)} (h : HsAt w (.slice p n c) L) (k : Nat) (hk : k ≤ L.length) : HsAt w (.slice p k c) (L.take k) := by
  obtain ⟨h1, p, c, e, h2, h3, h4⟩ := h
  cases e
  refine ⟨fun l hl => h1 l (List.mem_of_mem_take hl), p, c, by rw [List.length_take, Nat.min_eq_left hk], by rw [List.length_take]; omega, h3, fun i hi => ?_⟩
  rw [List.length_take] at hi
  obtain ⟨g, off, cs, e, hr, hc⟩ := h4 i (by omega)
  refine ⟨g, off, cs, e, hr, fun j hj => ?_⟩
  rw [hc j hj]
  congr 2
  simp [List.getD, List.getElem?_take, show i < k by omega]
theorem HsAt.drop {w : World} {p : Option Addr} {n c : Nat} {L : List (List Nat)} (h : HsAt w (.slice p n c) L) (k : Nat) (hk : k ≤ L.length) : HsAt w (.slice (if c = k then p else p.map (·.add (k * 32))) (L.length - k) (c - k)) (L.drop k) := by
  obtain ⟨h1, p, c, e, h2, h3, h4⟩ := h
  cases e
  refine ⟨fun l hl => h1 l (List.mem_of_mem_drop hl), _, _, by rw [List.length_drop], by rw [List.length_drop]; omega, by omega, fun i hi => ?_⟩
  rw [List.length_drop] at hi
  obtain ⟨g, off, cs, e, hr, hc⟩ := h4 (k + i) (by omega)
  refine ⟨g, off + k * 32, cs, ?_, hr, fun j hj => ?_⟩
  · rw [if_neg (by omega), e, Option.map_some, Addr.add_lit]
  · have e2 : (L.drop k).getD i [] = L.getD (k + i) [] := by simp [List.getD, List.getElem?_drop]
    rw [e2, ← hc j hj]
    congr 1
    omega
theorem HsAt.nil (w : World) (c : Nat) (hc : c ≤ maxLen) (p : Option Addr) : HsAt w (.slice p 0 c) [] := ⟨(fun l hl => by cases hl), p, c, rfl, Nat.zero_le _, hc, fun i hi => by simp at hi⟩

set_option maxHeartbeats 1000000 in
theorem leaf_any (u : Value) (b : List Nat) (base : Nat) (tv : Value) (N : List (List Nat)) (w : World) (hu : BytesAt w u b) (hb : b.length ≤ 10000) (ht : Tab w) (h0 : 0 < base) (hbw : base ≤ w.heap.size) (htp : TpAt w base tv N) (hN : N.length ≤ 1000) :
    Calls Tryd.prog 20 #[tv, u] w fun e w' => e = .returned (.agg (bytesL (hsh (msgL b)))) ∧ TpAt w' base tv (N ++ [msgL b]) ∧ TStep base w w' := by
  obtain ⟨pt, rfl⟩ := htp.form
  have hu8 := hu.1
  obtain ⟨_, hum, pu, cu, rfl, _⟩ := id hu
  have HB : Hid (b.length ≤ 10000) := hb
  have HU : Hid (BytesAt w (.slice pu b.length cu) b) := hu
  have HT : Hid (Tab w) := ht
  have h32 := hsh_32 (msgL b)
  generalize hH : hsh (msgL b) = H at *
  have HH : Hid (hashF KW (msgL b) = H) := hH
  have hsz : (Tryd.prog.info? 28).map (·.size) = some (bytesL H).size := by rw [bytesL_size, h32.1]; exact info_hash
  clear hb hu ht hH hum
  go_enter Tryd.func20, Tryd.ntmps20
  go_wp2_with (go_at_call 25; refine stop ?_)
  rw [zeros32b]
  have b1 := below1 w (.cells (bytesL (List.replicate 32 0)) 28)
  have r0 := Row.new w (bytesL (List.replicate 32 0)) 28 rfl
  generalize hw1 : w.alloc (.cells (bytesL (List.replicate 32 0)) 28) = w1 at *
  have s1 : w1.heap.size = w.heap.size + 1 := by rw [← hw1]; simp
  have HU1 := HU.out.later b1
  have l7 : BytesAt (w1.alloc (.cells #[.int .u8 0] 5)) (.slice (some ⟨w1.heap.size, 0, none⟩) 1 1) [0] := (Row.new w1 _ _ rfl : Row (w1.alloc (.cells (bytesL [0]) 5)) w1.heap.size (bytesL [0]) 5).bytes (by intro x hx; simp at hx; omega) (by unfold maxLen; decide) 1 1 rfl
  have hP := parts2 (w1.alloc (.cells #[.int .u8 0] 5)) 37 l7 (HU1.later (below1 _ _)) 2
  have s2 : (w1.alloc (.cells #[.int .u8 0] 5)).heap.size = w1.heap.size + 1 := by simp
  rw [s2, s1] at hP
  have b3 := chain b1 (below2 w1 (.cells #[.int .u8 0] 5) (.cells #[.slice (some ⟨w1.heap.size, 0, none⟩) 1 1, .slice pu b.length cu] 37))
  rw [s1] at b3
  refine (of_tp _ [[0], b] (msgL b) H base _ N _ hP (by simp [msgL]) (by simp [msgL]; have := HB.out; omega) (HT.out.later b3) h0 (by have := b3.size; omega) HH.out (htp.later b3) hN).mono ?_
  rintro e w4 ⟨rfl, ht4, hs4⟩
  have r4 : Row w4 w.heap.size (bytesL (List.replicate 32 0)) 28 := ((r0.alloc _).alloc _).tstep hs4 (by decide) (by decide)
  have hs5 := (TStep.of b3).trans hs4
  clear hP l7 HU1 b1 b3 r0 s1 s2 hs4 htp
  go_wp2_with (refine wpList_store_row rfl 28 _ _ rfl w.heap.size (bytesL H) rfl rfl 28 _ r4 hsz (by simp [bytesL_size, h32.1]) (bytesL_one _) ?_)
  have hsz4 := r4.lt
  have bset : Below w4.heap.size w4 (w4.setRow w.heap.size (bytesL H)) ∨ True := Or.inr trivial
  refine bodyPost_ret (v := .agg (bytesL H)) (results_cell_row Tryd.results20 _ _ w.heap.size 28 (bytesL H) (0, 0) _ ?hp ?hg Tryd.underlying28 rfl hsz) rfl ⟨rfl, ?_, ?_⟩
  case hp => rfl
  case hg => exact r4.setRow _
  · exact ht4.setNew r4 (by decide) (by decide) (by decide) _
  · exact hs5.setNew (Nat.le_refl _) _
end Go.Proofs.YtepohpniflmblaaDoor
