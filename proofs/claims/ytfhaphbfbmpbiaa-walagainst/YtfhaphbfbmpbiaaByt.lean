
/-
  u128.Bytes: the sixteen bytes of a number, the highest first. For every number.
-/
import Derived.Test.YtfhaphbfbmpbiaaDigits
import Derived.Laws.MakeOwn
import Derived.Laws.Bits64b
namespace Go.Proofs.Ytfhaphbfbmpbiaa
open Go.RowKit

theorem info_u8 : (Try.prog.info? 5).map (fun i => (i.zero, i.size, i.bytes)) = some (some (.int .u8 0), 1, 1) := by kernel_rfl
theorem made16 : madeCells (Value.int .u8 0).cells 16 = Array.replicate 16 (.int .u8 0) := by kernel_rfl
theorem make16 (w : World) : (Instr.makeSlice 31 (.int .i64 16) (.int .i64 16)).run Try.prog w = .ok (.slice (some ⟨w.heap.size, 0, none⟩) 16 16) (w.alloc (.cells (Array.replicate 16 (.int .u8 0)) 5)) := by
  cases hi : Try.prog.info? 5 with
  | none => have h := info_u8; rw [hi] at h; cases h
  | some i =>
    have h := info_u8
    rw [hi] at h
    have h' : (i.zero, i.size, i.bytes) = (some (.int .u8 0), 1, 1) := Option.some.inj h
    have z0 : i.zero = some (.int .u8 0) := congrArg (·.1) h'
    have z1 : i.size = 1 := congrArg (·.2.1) h'
    have z2 : i.bytes = 1 := congrArg (·.2.2) h'
    have e := run_makeSlice (P := Try.prog) w 31 5 i _ (by kernel_rfl) hi z0 .i64 .i64 16 16 (by decide) (by decide) (by rw [z1]; decide) (by rw [z2]; decide) (by decide)
    rw [z1] at e
    rw [e]
    show Result.ok _ (w.alloc (.cells (madeCells (Value.int .u8 0).cells 16) _)) = _
    rw [made16]
    rfl

/-- Byte j, the highest first. -/
def bH (ah al : Int) (j : Nat) : Int := if j < 8 then ah / 2 ^ (8 * (7 - j)) % 256 else al / 2 ^ (8 * (15 - j)) % 256
structure BytR (w wr : World) (ah al : Int) (k : Nat) : Prop where
  k8 : k ≤ 8
  a : NumAt wr w.heap.size ah al
  d : ∀ j, j < 16 → wr.cell? ⟨w.heap.size + 1, j, none⟩ = some (.int .u8 (if j % 8 < k then bH ah al j else 0)) ∧ wr.frozen? ⟨w.heap.size + 1, j, none⟩ = false
  bel : Below w.heap.size w wr
  z : w.heap.size + 1 < wr.heap.size

theorem BytR.step {w wr : World} {ah al : Int} {k : Nat} (h : BytR w wr ah al k) (hk : k < 8) :
    BytR w ((wr.setCell ⟨w.heap.size + 1, k, none⟩ (.int .u8 (ah / 2 ^ (8 * (7 - k)) % 256))).setCell ⟨w.heap.size + 1, 8 + k, none⟩ (.int .u8 (al / 2 ^ (8 * (7 - k)) % 256))) ah al (k + 1) := by
  obtain ⟨k8, ⟨z0, a0, a1⟩, d, bel, z⟩ := h
  refine ⟨by omega, ⟨by simpa [World.setCell] using z0, by simp [go_sem, a0], by simp [go_sem, a1]⟩, fun j hj => ?_, (bel.setCell (by simp) _).setCell (by simp) _, by simpa [World.setCell] using z⟩
  obtain ⟨d0, d1⟩ := d j hj
  refine ⟨?_, by simp [go_sem, d1]⟩
  by_cases e1 : j = k
  · subst e1
    have n1 : ¬ j = 8 + j := by omega
    have n2 : j % 8 < j + 1 := by omega
    simp [go_sem, d0, bH, hk, n2]
  · by_cases e2 : j = 8 + k
    · subst e2
      have n2 : (8 + k) % 8 < k + 1 := by omega
      have n3 : ¬ 8 + k < 8 := by omega
      have n4 : 15 - (8 + k) = 7 - k := by omega
      rw [if_pos n2, bH, if_neg n3, n4]
      simp [go_sem, d0]
    · have e5 : (if j % 8 < k + 1 then bH ah al j else 0) = (if j % 8 < k then bH ah al j else 0) := by
        by_cases c : j % 8 < k
        · rw [if_pos c, if_pos (by omega)]
        · rw [if_neg c, if_neg (by omega)]
      rw [e5]
      have n1 : (⟨w.heap.size + 1, j, none⟩ : Addr) ≠ ⟨w.heap.size + 1, k, none⟩ := fun h => e1 (by cases h; rfl)
      have n2 : (⟨w.heap.size + 1, j, none⟩ : Addr) ≠ ⟨w.heap.size + 1, 8 + k, none⟩ := fun h => e2 (by cases h; rfl)
      simp [go_sem, d0]

/-- A row of bytes. -/
def BytesIn (w : World) (p : Option Addr) (n : Nat) (z : Nat → Int) : Prop :=
  n ≤ maxLen ∧ ∀ i, i < n → ∃ bb off, p = some ⟨bb, off, none⟩ ∧ bb < w.heap.size ∧ w.cell? ⟨bb, off + i, none⟩ = some (.int .u8 (z i)) ∧ 0 ≤ z i ∧ z i < 256
theorem BytesIn.later {w w1 : World} {p : Option Addr} {n : Nat} {z : Nat → Int} (h : BytesIn w p n z) (hb : Below w.heap.size w w1) : BytesIn w1 p n z :=
  ⟨h.1, fun i hi => by
    obtain ⟨bb, off, e, hbb, c, r⟩ := h.2 i hi
    exact ⟨bb, off, e, Nat.lt_of_lt_of_le hbb hb.size, (hb.cell (p := ⟨bb, off + i, none⟩) hbb).trans c, r⟩⟩

/-- The number of k bytes, the highest first. -/
def rd (z : Nat → Int) : Nat → Int
  | 0 => 0
  | k + 1 => rd z k * 256 + z k
theorem rd_lt {z : Nat → Int} : ∀ k, (∀ i, i < k → 0 ≤ z i ∧ z i < 256) → 0 ≤ rd z k ∧ rd z k < 256 ^ k
  | 0, _ => ⟨by simp [rd], by simp [rd]⟩
  | k + 1, h => by
    obtain ⟨i0, i1⟩ := rd_lt k fun i hi => h i (by omega)
    obtain ⟨z0, z1⟩ := h k (by omega)
    rw [Int.pow_succ]
    unfold rd
    constructor <;> omega

structure RdR (w wr : World) (z : Nat → Int) (k : Nat) : Prop where
  k8 : k ≤ 8
  a : NumAt wr (w.heap.size + 1) (rd z k) (rd (fun j => z (8 + j)) k)
  f0 : wr.frozen? ⟨w.heap.size + 1, 0, none⟩ = false
  f1 : wr.frozen? ⟨w.heap.size + 1, 1, none⟩ = false
  r : NumAt wr w.heap.size 0 0
  r0 : wr.frozen? ⟨w.heap.size, 0, none⟩ = false
  r1 : wr.frozen? ⟨w.heap.size, 1, none⟩ = false
  bel : Below w.heap.size w wr

theorem or_byte (x z : Int) (h0 : 0 ≤ x) (h1 : x < 72057594037927936) (z0 : 0 ≤ z) (z1 : z < 256) : bits BinOp.or IntKind.u64 (x * 256) z = x * 256 + z := by
  obtain ⟨a, rfl⟩ := Int.eq_ofNat_of_zero_le h0
  obtain ⟨b, rfl⟩ := Int.eq_ofNat_of_zero_le z0
  have e : (a : Int) * 256 = ((2 ^ 8 * a : Nat) : Int) := by omega
  rw [e, bits_or_u64_nat _ _ (by omega) (by omega), ← Nat.two_pow_add_eq_or_of_lt (by omega)]
  omega
theorem rd_small {z : Nat → Int} {k : Nat} (hk : k < 8) (h : ∀ i, i < k → 0 ≤ z i ∧ z i < 256) : 0 ≤ rd z k ∧ rd z k < 72057594037927936 := by
  obtain ⟨a, b⟩ := rd_lt k h
  have e : 256 ^ k ≤ 256 ^ 7 := Nat.pow_le_pow_right (by decide) (show k ≤ 7 by omega)
  have e2 : (256 : Int) ^ k = ((256 ^ k : Nat) : Int) := by simp
  rw [e2] at b
  omega
theorem RdR.step {w wr : World} {z : Nat → Int} {k : Nat} (h : RdR w wr z k) (hk : k < 8) :
    RdR w ((wr.setCell ⟨w.heap.size + 1, 0, none⟩ (.int .u64 (rd z k * 256 + z k))).setCell ⟨w.heap.size + 1, 1, none⟩ (.int .u64 (rd (fun j => z (8 + j)) k * 256 + z (8 + k)))).drew.drew z (k + 1) := by
  obtain ⟨k8, ⟨z0, a0, a1⟩, f0, f1, ⟨y0, b0, b1⟩, g0, g1, bel⟩ := h
  refine ⟨by omega, ⟨by simpa [World.setCell] using z0, by simp [go_sem, a0, rd], by simp [go_sem, a1, rd]⟩, by simp [go_sem, f0], by simp [go_sem, f1], ⟨by simpa [World.setCell] using y0, by simp [go_sem, b0], by simp [go_sem, b1]⟩, by simp [go_sem, g0], by simp [go_sem, g1], ((bel.setCell (by simp) _).setCell (by simp) _).drew.drew⟩

end Go.Proofs.Ytfhaphbfbmpbiaa
