
/-
  The walk of ShaSteps, up to what Clash answers of an empty tape.
-/
import Derived.Test.YtepohpniflmblaaDoorShN
namespace Go.Proofs.YtepohpniflmblaaDoor
open Go.RowKit
set_option maxRecDepth 100000
set_option linter.unusedVariables false
set_option linter.unusedSimpArgs false

/-- What Clash answers of an empty tape. -/
def ClashNone : Prop := ∀ (w : World) (T : Nat), Row w T #[.slice none 0 0] 40 → Tab w →
  Calls Tryd.prog 21 #[.pointer (some ⟨T, 0, none⟩)] w fun e w' => e = .returned (.bool false) ∧ Below w.heap.size w w'
theorem PartsAt.take {w : World} {p : Option Addr} {c : Nat} {L : List (List Nat)} (h : PartsAt w (.slice p L.length c) L) (n : Nat) (hn : n ≤ L.length) (c' : Nat) : PartsAt w (.slice p n c') (L.take n) := by
  obtain ⟨h2, p', cc, e, h3⟩ := h
  cases e
  refine ⟨by rw [List.length_take]; omega, p, c', by rw [List.length_take, Nat.min_eq_left hn], fun i hi => ?_⟩
  rw [List.length_take] at hi
  obtain ⟨b, off, u, e, hb, hc, hu⟩ := h3 i (by omega)
  refine ⟨b, off, u, e, hb, hc, ?_⟩
  have : (L.take n).getD i [] = L.getD i [] := by simp [List.getD, List.getElem?_take, show i < n by omega]
  rw [this]
  exact hu
theorem flat_succ (L : List (List Nat)) (k : Nat) (h : k < L.length) : (L.take (k + 1)).flatten = (L.take k).flatten ++ L.getD k [] := by
  rw [List.take_succ_eq_append_getElem h, List.flatten_append]
  simp [List.getD, h]
theorem ownsRow_keep {w w1 : World} {base : Nat} {e : TypeId} {v : Value} {ns : List Value} {n : Nat} (h : w.ownsRow base e 1 v n ns) (hb : ∀ g, v.ownBlock = some g → w1.heap[g]? = w.heap[g]?) : w1.ownsRow base e 1 v n ns :=
  ⟨h.1, h.2.imp id fun ⟨g, cap, cur, e, h1, h2, h3⟩ => ⟨g, cap, cur, e, h1, (hb g (by rw [e]; rfl)).trans h2, h3⟩⟩
theorem ownsRow_lt {w : World} {base : Nat} {e : TypeId} {v : Value} {ns : List Value} {n : Nat} (h : w.ownsRow base e 1 v n ns) (g : Nat) (hg : v.ownBlock = some g) : base ≤ g ∧ g < w.heap.size := by
  obtain ⟨_, ⟨rfl, h0⟩ | ⟨g', cap, cur, rfl, h1, h2, _⟩⟩ := h
  · cases hg
  · simp [Value.ownBlock] at hg
    subst hg
    exact ⟨h1, (Array.getElem?_eq_some_iff.1 h2).1⟩
theorem TapeAt.grown {w w1 : World} {base T : Nat} {vN u : Value} {ns : List Value} {xs : List Nat} (h : TapeAt w base T vN ns) (hu : Own w base u xs) (gr : w.grownBy w1 u.ownBlock) : TapeAt w1 base T vN ns := by
  refine ⟨(gr.block T h.row.lt (fun hh => own_ne hu h.row (by decide) hh.symm)).trans h.row, ownsRow_keep h.own fun g hg => gr.block g (ownsRow_lt h.own g hg).2 fun hh => ?_, h.ne, h.le⟩
  rcases own_own h.own hu (by decide) with h1 | h1
  · rw [h1] at hg; cases hg
  · exact h1 (hg.trans hh)
theorem TapeAt.later {w w1 : World} {base T : Nat} {vN : Value} {ns : List Value} (h : TapeAt w base T vN ns) (hb : Below w.heap.size w w1) : TapeAt w1 base T vN ns :=
  ⟨h.row.later hb, ownsRow_later h.own hb, h.ne, h.le⟩
theorem Own.noted {w w1 : World} {base T : Nat} {vN u : Value} {ns : List Value} {xs : List Nat} (hu : Own w base u xs) (h : TapeAt w base T vN ns) (k : KeptBut w w1 T vN) : Own w1 base u xs := by
  refine ownsRow_keep hu fun g hg => k.block g (ownsRow_lt hu g hg).2 (fun hh => own_ne hu h.row (by decide) (by rw [hg, hh])) (fun hh => ?_)
  rcases own_own h.own hu (by decide) with h1 | h1
  · rw [h1] at hh; cases hh
  · exact h1 (by rw [hg, hh])
theorem Below.noted {w0 w w1 : World} {T : Nat} {vN : Value} {ns : List Value} (hb : Below w0.heap.size w0 w) (h : TapeAt w w0.heap.size T vN ns) (k : KeptBut w w1 T vN) : Below w0.heap.size w0 w1 :=
  hb.trans ⟨k.os, k.tape, k.output, k.size, fun i hi => k.block i (Nat.lt_of_lt_of_le hi hb.size) (fun e => by have := h.le; omega) (fun e => by have := (ownsRow_lt h.own i e.symm).1; omega)⟩
/-- What ShaSteps holds behind k parts. -/
structure StpR (w wr : World) (L : List (List Nat)) (T k : Nat) (vN u : Value) (ns : List Value) : Prop where
  ta : TapeAt wr w.heap.size T vN ns
  len : ns.length = k
  own : Own wr w.heap.size u (L.take k).flatten
  below : Below w.heap.size w wr
  small : (L.take k).flatten.length ≤ 200 * k

end Go.Proofs.YtepohpniflmblaaDoor
