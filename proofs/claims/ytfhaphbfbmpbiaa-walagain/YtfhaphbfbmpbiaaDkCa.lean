
/-
  Calls as they are handed in: in memory, and as plain lists. (In part my own texts of the stage before, over this seat's types.)
-/
import Derived.Test.YtfhaphbfbmpbiaaDkG
import Derived.SizedLaws
namespace Go.Proofs.Ytfhaphbfbmpbiaa
open Go.RowKit
set_option maxRecDepth 100000
set_option linter.unusedVariables false

/-- Rows of z cells in memory. -/
def RowsIn {α : Type} (f : α → Array Value) (z : Nat) (w : World) (v : Value) (L : List α) : Prop :=
  L.length ≤ maxLen ∧ ∃ p c, v = .slice p L.length c ∧ ∀ k a, L[k]? = some a → ∃ b off, p = some ⟨b, off, none⟩ ∧ b < w.heap.size ∧ w.rangeAt b (off + k * z) (f a).toList
theorem RowsIn.later {α : Type} {f : α → Array Value} {z : Nat} {w w' : World} {v : Value} {L : List α} (h : RowsIn f z w v L) (hb : Below w.heap.size w w') : RowsIn f z w' v L := by
  obtain ⟨h1, p, c, e, h⟩ := h
  refine ⟨h1, p, c, e, fun k a hk => ?_⟩
  obtain ⟨b, off, e, hlt, hr⟩ := h k a hk
  exact ⟨b, off, e, Nat.lt_of_lt_of_le hlt hb.size, fun j u hu => (hb.cell (p := ⟨b, off + k * z + j, none⟩) hlt).trans (hr j u hu)⟩
/-- A Call. -/
structure CIn where
  kind : Int
  at0 : Int
  v : Value
  data : List Nat
  mask : Nat
  torn : Int
  cut : Int
def CIn.cs (c : CIn) : Array Value := #[.int .i64 c.kind, .int .i64 c.at0, c.v, .int .u64 c.mask, .int .i64 c.torn, .int .i64 c.cut]
structure CIn.ok (w : World) (c : CIn) : Prop where
  data : BytesAt w c.v c.data
  mask : c.mask < 2 ^ 64
  kind : -9223372036854775808 ≤ c.kind ∧ c.kind ≤ 9223372036854775807
  at0 : -9223372036854775808 ≤ c.at0 ∧ c.at0 ≤ 9223372036854775807
theorem CIn.ok.later {w w' : World} {c : CIn} (h : c.ok w) (hb : Below w.heap.size w w') : c.ok w' := ⟨h.data.later hb, h.mask, h.kind, h.at0⟩
def CIn.none : CIn := ⟨0, 0, .slice Option.none 0 0, [], 0, 0, 0⟩
/-- A slice of Calls. -/
structure CallsAt (w : World) (v : Value) (L : List CIn) : Prop where
  rows : RowsIn CIn.cs 6 w v L
  each : ∀ c ∈ L, c.ok w
theorem CallsAt.later {w w' : World} {v : Value} {L : List CIn} (h : CallsAt w v L) (hb : Below w.heap.size w w') : CallsAt w' v L := ⟨h.rows.later hb, fun c hc => (h.each c hc).later hb⟩
theorem CallsAt.at {w : World} {v : Value} {L : List CIn} (h : CallsAt w v L) {k : Nat} (hk : k < L.length) : ∃ b off c, v = .slice (some ⟨b, off, Option.none⟩) L.length c ∧ b < w.heap.size ∧ w.rangeAt b (off + k * 6) (L.getD k CIn.none).cs.toList ∧ (L.getD k CIn.none).ok w := by
  obtain ⟨_, p, c, rfl, hr⟩ := h.rows
  obtain ⟨b, off, rfl, hb, hr⟩ := hr k (L.getD k CIn.none) (by simp [List.getD, hk])
  exact ⟨b, off, c, rfl, hb, hr, h.each _ (by simp only [List.getD]; rw [List.getElem?_eq_getElem hk]; exact List.getElem_mem _)⟩
end Go.Proofs.Ytfhaphbfbmpbiaa
