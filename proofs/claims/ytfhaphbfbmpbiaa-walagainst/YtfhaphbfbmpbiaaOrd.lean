
/-
  Plain facts on comparing numbers of two words; numbers that lie in a block; Add of none.
-/
import Derived.Test.YtfhaphbfbmpbiaaFit
namespace Go.Proofs.Ytfhaphbfbmpbiaa
open Go.RowKit

theorem cmp2_num (ah al bh bl : Int) (h1 : Word ah) (h2 : Word al) (h3 : Word bh) (h4 : Word bl) : cmp2 ah al bh bl = cmpI (ah * 18446744073709551616 + al) (bh * 18446744073709551616 + bl) := by
  obtain ⟨_, _⟩ := h1; obtain ⟨_, _⟩ := h2; obtain ⟨_, _⟩ := h3; obtain ⟨_, _⟩ := h4
  unfold cmp2 cmpI
  by_cases p1 : ah < bh
  · simp only [if_pos p1]; rw [if_pos (by decide), if_pos (by omega)]
  · by_cases p2 : bh < ah
    · simp only [if_neg p1, if_pos p2]; rw [if_pos (by decide), if_neg (by omega), if_pos (by omega)]
    · simp only [if_neg p1, if_neg p2]
      obtain rfl : ah = bh := by omega
      rw [if_neg (by decide)]
      by_cases q1 : al < bl
      · rw [if_pos q1, if_pos (by omega)]
      · by_cases q2 : bl < al
        · rw [if_neg q1, if_pos q2, if_neg (by omega), if_pos (by omega)]
        · rw [if_neg q1, if_neg q2, if_neg (by omega), if_neg (by omega)]

theorem cmpI_le (x y : Int) : cmpI x y ≤ 0 ↔ x ≤ y := by
  unfold cmpI; split
  · constructor <;> intro <;> omega
  · split <;> constructor <;> intro <;> omega
theorem cmpI_eq (x y : Int) : cmpI x y = 0 ↔ x = y := by
  unfold cmpI; split
  · constructor <;> intro <;> omega
  · split <;> constructor <;> intro <;> omega
theorem cmpI_ge (x y : Int) : 0 ≤ cmpI x y ↔ y ≤ x := by
  unfold cmpI; split
  · constructor <;> intro <;> omega
  · split <;> constructor <;> intro <;> omega

theorem addV_form (s : Int) : ∃ h l ok, addV s = .tuple #[.agg #[.int .u64 h, .int .u64 l], .bool ok] := by
  by_cases h : s < 340282366920938463463374607431768211456
  · exact ⟨_, _, _, addV_yes h⟩
  · exact ⟨_, _, _, addV_no h⟩

/-- A number that lies in a block. -/
def NumAt (w : World) (b : Nat) (hi lo : Int) : Prop := b < w.heap.size ∧ w.cell? ⟨b, 0, none⟩ = some (.int .u64 hi) ∧ w.cell? ⟨b, 1, none⟩ = some (.int .u64 lo)
theorem NumAt.later {w w' : World} {b : Nat} {hi lo : Int} (h : NumAt w b hi lo) (hb : Below w.heap.size w w') : NumAt w' b hi lo :=
  ⟨Nat.lt_of_lt_of_le h.1 hb.size, (hb.cell (p := ⟨b, 0, none⟩) h.1).trans h.2.1, (hb.cell (p := ⟨b, 1, none⟩) h.1).trans h.2.2⟩
theorem NumAt.new (w : World) (hi lo : Int) (t : TypeId) : NumAt (w.alloc (.cells #[.int .u64 hi, .int .u64 lo] t)) w.heap.size hi lo := ⟨by simp, by simp, by simp⟩


theorem cmpI_lt (x y : Int) : cmpI x y < 0 ↔ x < y := by
  unfold cmpI; split
  · constructor <;> intro <;> omega
  · split <;> constructor <;> intro <;> omega
theorem cmpI_neg (x y : Int) : cmpI y x = -cmpI x y := by
  unfold cmpI
  by_cases h1 : x < y
  · rw [if_neg (by omega), if_pos h1, if_pos h1]; rfl
  · by_cases h2 : y < x
    · rw [if_pos h2, if_neg h1, if_pos h2]
    · rw [if_neg h2, if_neg h1, if_neg h1, if_neg h2]; rfl
theorem cmpI_bd (x y : Int) : -1 ≤ cmpI x y ∧ cmpI x y ≤ 1 := by
  unfold cmpI; split
  · omega
  · split <;> omega
end Go.Proofs.Ytfhaphbfbmpbiaa
