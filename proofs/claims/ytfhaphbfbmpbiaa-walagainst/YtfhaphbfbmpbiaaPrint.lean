
/-
  u128.Print: the decimal digits of any number.
-/
import Derived.Test.YtfhaphbfbmpbiaaDiv
import Derived.Test.YtfhaphbfbmpbiaaDec
import Derived.Laws.BytesArg
namespace Go.Proofs.Ytfhaphbfbmpbiaa
open Go.RowKit

/-- What holds ahead of each round of Print's loop: p cells are free; what is left of the number; the digits behind. -/
structure PR (w wr : World) (n p : Nat) (hi lo : Int) (ds : List Int) : Prop where
  p39 : p ≤ 39
  h0 : 0 ≤ hi
  h1 : hi < 18446744073709551616
  l0 : 0 ≤ lo
  l1 : lo < 18446744073709551616
  c0 : wr.cell? ⟨w.heap.size, 0, none⟩ = some (.int .u64 hi)
  c1 : wr.cell? ⟨w.heap.size, 1, none⟩ = some (.int .u64 lo)
  f0 : wr.frozen? ⟨w.heap.size, 0, none⟩ = false
  f1 : wr.frozen? ⟨w.heap.size, 1, none⟩ = false
  X : ∀ j, j < 39 → (∃ v, wr.cell? ⟨w.heap.size + 1, j, none⟩ = some v) ∧ wr.frozen? ⟨w.heap.size + 1, j, none⟩ = false
  L : ds.length = 39 - p
  D : ∀ i, i < 39 - p → wr.cell? ⟨w.heap.size + 1, p + i, none⟩ = some (.int .u8 (ds.getD i 0))
  R : (p = 39 ∧ (hi * 18446744073709551616 + lo).toNat = n) ∨ (p < 39 ∧ dec n = dT p (hi * 18446744073709551616 + lo).toNat ++ ds)
  B : (hi * 18446744073709551616 + lo).toNat < 10 ^ p
  bel : Below w.heap.size w wr
  z : w.heap.size + 1 < wr.heap.size

/-- One round: the last digit of what is left goes ahead of those that are there. -/
theorem PR.step {w wr w1 : World} {n p : Nat} {hi lo : Int} {ds : List Int} (h : PR w wr n (p + 1) hi lo ds) (hb : Below wr.heap.size wr w1) (hc : p = 38 ∨ (hi * 18446744073709551616 + lo) ≠ 0) :
    PR w (((w1.setCell ⟨w.heap.size, 0, none⟩ (.int .u64 (hi / 10))).setCell ⟨w.heap.size, 1, none⟩ (.int .u64 ((hi % 10 * 18446744073709551616 + lo) / 10))).setCell ⟨w.heap.size + 1, p, none⟩ (.int .u8 (48 + (hi % 10 * 18446744073709551616 + lo) % 10)))
      n p (hi / 10) ((hi % 10 * 18446744073709551616 + lo) / 10) ((48 + (hi % 10 * 18446744073709551616 + lo) % 10) :: ds) := by
  obtain ⟨p39, h0, h1, l0, l1, c0, c1, f0, f1, X, L, D, R, B, bel, z⟩ := h
  have z' : w.heap.size < wr.heap.size := by omega
  have d0 := (hb.cell (p := ⟨w.heap.size, 0, none⟩) z').trans c0
  have d1 := (hb.cell (p := ⟨w.heap.size, 1, none⟩) z').trans c1
  have e0 := (hb.frozen (p := ⟨w.heap.size, 0, none⟩) z').trans f0
  have e1 := (hb.frozen (p := ⟨w.heap.size, 1, none⟩) z').trans f1
  have dj := fun j => hb.cell (p := ⟨w.heap.size + 1, j, none⟩) z
  have ej := fun j => hb.frozen (p := ⟨w.heap.size + 1, j, none⟩) z
  have hz1 := hb.size
  have em : (hi * 18446744073709551616 + lo).toNat / 10 = (hi / 10 * 18446744073709551616 + (hi % 10 * 18446744073709551616 + lo) / 10).toNat := by omega
  have ed : ((48 + (hi * 18446744073709551616 + lo).toNat % 10 : Nat) : Int) = 48 + (hi % 10 * 18446744073709551616 + lo) % 10 := by omega
  refine ⟨by omega, by omega, by omega, by omega, by omega, ?_, ?_, ?_, ?_, ?_, ?_, ?_, ?_, ?_, ?_, ?_⟩
  · simp [go_sem, d0]
  · simp [go_sem, d1]
  · simp [go_sem, e0]
  · simp [go_sem, e1]
  · intro j hj
    obtain ⟨⟨v, hv⟩, hf⟩ := X j hj
    have dv := (dj j).trans hv
    have ev := (ej j).trans hf
    by_cases hjp : j = p
    · subst hjp
      exact ⟨⟨_, by simp [go_sem, dv]; rfl⟩, by simp [go_sem, ev]⟩
    · exact ⟨⟨v, by simp [go_sem, dv]⟩, by simp [go_sem, ev]⟩
  · simp [L]; omega
  · intro i hi'
    cases i with
    | zero =>
      obtain ⟨⟨v, hv⟩, hf⟩ := X p (by omega)
      have dv := (dj p).trans hv
      simp [go_sem, dv]
    | succ i =>
      have dv := (dj (p + 1 + i)).trans (D i (by omega))
      rw [show p + (i + 1) = p + 1 + i from by omega]
      simp [go_sem, dv]
  · right
    refine ⟨by omega, ?_⟩
    rw [← em, ← ed]
    rcases R with ⟨hp, hn⟩ | ⟨hp, hn⟩
    · obtain rfl : p = 38 := by omega
      have : ds = [] := by apply List.eq_nil_of_length_eq_zero; omega
      subst this
      rw [hn]
      exact dec_first n
    · have hm : (hi * 18446744073709551616 + lo).toNat ≠ 0 := by omega
      exact dec_more hn hm B
  · rw [← em]
    rw [Nat.pow_succ] at B
    omega
  · exact (((bel.trans (hb.mono (by omega))).setCell (by simp) _).setCell (by simp) _).setCell (by simp) _
  · simp [World.setCell]; omega

end Go.Proofs.Ytfhaphbfbmpbiaa
