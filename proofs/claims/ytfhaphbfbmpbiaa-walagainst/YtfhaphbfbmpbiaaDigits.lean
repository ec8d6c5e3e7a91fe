
/-
  paciolilaw01.digits: the bytes of a number, the lowest first, and a nought behind. For every number.
-/
import Derived.Test.YtfhaphbfbmpbiaaOrd
import Derived.BigRegion
import Derived.Deep.MidRow
namespace Go.Proofs.Ytfhaphbfbmpbiaa
open Go.RowKit

/-- Byte j, the lowest first, once k rounds are done. -/
def dK (ah al : Int) (k j : Nat) : Int :=
  if j < 8 then (if j < k then al / 256 ^ j % 256 else 0) else if j < 16 then (if j - 8 < k then ah / 256 ^ (j - 8) % 256 else 0) else 0

structure DigR (w wr : World) (ah al : Int) (k : Nat) : Prop where
  k8 : k ≤ 8
  a : NumAt wr w.heap.size ah al
  d : ∀ j, j < 17 → wr.cell? ⟨w.heap.size + 1 + 1, j, none⟩ = some (.int .i64 (dK ah al k j)) ∧ wr.frozen? ⟨w.heap.size + 1 + 1, j, none⟩ = false
  r : ∀ j, j < 17 → wr.cell? ⟨w.heap.size + 1, j, none⟩ = some (.int .i64 0) ∧ wr.frozen? ⟨w.heap.size + 1, j, none⟩ = false
  bel : Below w.heap.size w wr
  z : w.heap.size + 1 + 1 < wr.heap.size

theorem byte_and (x : Int) (k : Nat) (h0 : 0 ≤ x) (h1 : x < 18446744073709551616) : wrap64 (bits BinOp.and IntKind.u64 (x / 2 ^ (8 * k)) 255) = x / 256 ^ k % 256 := by
  have e : x / 2 ^ (8 * k) ≤ x := Int.ediv_le_self _ h0
  have e0 : 0 ≤ x / 2 ^ (8 * k) := Int.ediv_nonneg h0 (Int.le_of_lt (Int.pow_pos (by decide)))
  have ep : (2 : Int) ^ (8 * k) = 256 ^ k := by rw [Int.pow_mul]; rfl
  rw [ep] at e e0 ⊢
  obtain ⟨n, hn⟩ := Int.eq_ofNat_of_zero_le e0
  rw [hn]
  have h := bits_and_u64_nat n 255 (by omega) (by omega)
  have e2 : n &&& 255 = n % 256 := Nat.and_two_pow_sub_one_eq_mod n 8
  rw [e2] at h
  have h2 : bits BinOp.and IntKind.u64 ((n : Nat) : Int) 255 = ((n % 256 : Nat) : Int) := h
  rw [h2]
  unfold wrap64
  omega

theorem DigR.step {w wr : World} {ah al : Int} {k : Nat} (h : DigR w wr ah al k) (hk : k < 8) (h1 : Word ah) (h2 : Word al) :
    DigR w ((wr.setCell ⟨w.heap.size + 1 + 1, k, none⟩ (.int .i64 (wrap64 (bits BinOp.and IntKind.u64 (al / 2 ^ (8 * k)) 255)))).setCell ⟨w.heap.size + 1 + 1, k + 8, none⟩
      (.int .i64 (wrap64 (bits BinOp.and IntKind.u64 (ah / 2 ^ (8 * k)) 255)))).drew ah al (k + 1) := by
  obtain ⟨k8, ⟨z0, a0, a1⟩, d, r, bel, z⟩ := h
  rw [byte_and al k h2.1 h2.2, byte_and ah k h1.1 h1.2]
  refine ⟨by omega, ⟨by simpa [World.setCell] using z0, by simp [go_sem, a0], by simp [go_sem, a1]⟩, fun j hj => ?_, fun j hj => ?_, ((bel.setCell (by simp; omega) _).setCell (by simp; omega) _).drew, by simpa [World.setCell] using z⟩
  · obtain ⟨d0, d1⟩ := d j hj
    refine ⟨?_, by simp [go_sem, d1]⟩
    by_cases e1 : j = k
    · subst e1
      have : ¬ j = j + 8 := by omega
      simp [go_sem, d0, dK, hk]
    · by_cases e2 : j = k + 8
      · subst e2
        have e3 : ¬ k + 8 < 8 := by omega
        have e4 : k + 8 < 16 := by omega
        have e6 : dK ah al (k + 1) (k + 8) = ah / 256 ^ k % 256 := by rw [dK, if_neg e3, if_pos e4, if_pos (by omega)]; simp
        rw [e6]
        simp [go_sem, d0]
      · have e5 : dK ah al (k + 1) j = dK ah al k j := by
          unfold dK
          by_cases c1 : j < 8
          · rw [if_pos c1, if_pos c1]
            by_cases c2 : j < k
            · rw [if_pos c2, if_pos (by omega)]
            · rw [if_neg c2, if_neg (by omega)]
          · rw [if_neg c1, if_neg c1]
            by_cases c3 : j < 16
            · rw [if_pos c3, if_pos c3]
              by_cases c2 : j - 8 < k
              · rw [if_pos c2, if_pos (by omega)]
              · rw [if_neg c2, if_neg (by omega)]
            · rw [if_neg c3, if_neg c3]
        rw [e5]
        have n1 : (⟨w.heap.size + 1 + 1, j, none⟩ : Addr) ≠ ⟨w.heap.size + 1 + 1, k, none⟩ := fun h => e1 (by cases h; rfl)
        have n2 : (⟨w.heap.size + 1 + 1, j, none⟩ : Addr) ≠ ⟨w.heap.size + 1 + 1, k + 8, none⟩ := fun h => e2 (by cases h; rfl)
        simp [go_sem, d0]
  · obtain ⟨d0, d1⟩ := r j hj
    exact ⟨by simp [go_sem, d0], by simp [go_sem, d1]⟩

theorem dK_zero (ah al : Int) (j : Nat) : dK ah al 0 j = 0 := by unfold dK; simp
theorem zeros17 (j : Nat) (h : j < 17) : (#[Value.int .i64 0, .int .i64 0, .int .i64 0, .int .i64 0, .int .i64 0, .int .i64 0, .int .i64 0, .int .i64 0, .int .i64 0, .int .i64 0, .int .i64 0, .int .i64 0, .int .i64 0, .int .i64 0, .int .i64 0, .int .i64 0, .int .i64 0] : Array Value)[j]? = some (.int .i64 0) := by
  show (Array.replicate 17 (Value.int .i64 0))[j]? = _
  simp [h]

/-- The digits, as a list of values. -/
def digs (ah al : Int) (k : Nat) : List Value := (List.range 17).map fun j => Value.int .i64 (dK ah al k j)
theorem digs_len (ah al : Int) (k : Nat) : (digs ah al k).length = 17 := by simp [digs]
theorem digs_one (ah al : Int) (k : Nat) : ∀ v ∈ digs ah al k, v.oneCell' = true := by
  intro v hv
  simp only [digs, List.mem_map] at hv
  obtain ⟨j, _, rfl⟩ := hv
  rfl
theorem digs_at (ah al : Int) (k j : Nat) (h : j < 17) : (digs ah al k)[j]? = some (.int .i64 (dK ah al k j)) := by simp [digs, h]

theorem below_setCells {B : Nat} {a : World} : ∀ (vs : List Value) (o : Nat) (w : World) (b : Nat), Below B a w → B ≤ b → Below B a (w.setCells b o vs)
  | [], _, _, _, h, _ => h
  | v :: vs, o, _, b, h, hb => below_setCells vs (o + 1) _ b (h.setCell (p := ⟨b, o, none⟩) hb v) hb

theorem asAddr_ptr {P : Program} (a : Addr) (w : World) : (asAddr (.pointer (some a))).run P w = .ok a w := rfl

end Go.Proofs.Ytfhaphbfbmpbiaa
