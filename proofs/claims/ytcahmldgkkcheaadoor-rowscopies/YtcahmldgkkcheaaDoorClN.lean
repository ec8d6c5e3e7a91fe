
/-
  noted: the hashes of leaves, noted on a tape.
-/
import Derived.Test.YtcahmldgkkcheaaDoorHiH
namespace Go.Proofs.YtcahmldgkkcheaaDoor
open Go.RowKit
set_option maxRecDepth 100000
set_option linter.unusedVariables false
set_option linter.unusedSimpArgs false

/-- All that is no row of hashes lies as it lay. -/
structure Nh (w w' : World) : Prop where
  size : w.heap.size ≤ w'.heap.size
  block : ∀ (k : Nat) (cs : Array Value) (t : TypeId) (f : Nat × Nat), w.heap[k]? = some (Obj.cells cs t f) → t ≠ 42 → w'.heap[k]? = some (Obj.cells cs t f)
theorem Nh.below {w w' : World} (h : Below w.heap.size w w') : Nh w w' := ⟨h.size, fun k cs t f hk _ => (h.block k (Array.getElem?_eq_some_iff.1 hk).1).trans hk⟩
theorem Nh.trans {a b c : World} (h : Nh a b) (k : Nh b c) : Nh a c := ⟨Nat.le_trans h.size k.size, fun i cs t f hi ht => k.block i cs t f (h.block i cs t f hi ht) ht⟩
theorem Nh.row {w w' : World} {g : Nat} {cs : Array Value} (hr : Row w g cs 42) (ds : Array Value) : Nh w (w.setRow g ds) :=
  ⟨by simp [World.setRow], fun k cs' t f hk ht => by
    have hne : k ≠ g := by
      rintro rfl
      have e := hk.symm.trans hr
      cases e
      exact ht rfl
    exact (setRow_other w g k ds hne).trans hk⟩
theorem Nh.cell {w w' : World} {g o : Nat} {cs : Array Value} (hr : Row w g cs 42) (v : Value) : Nh w (w.setCell ⟨g, o, none⟩ v) :=
  ⟨by simp, fun k cs' t f hk ht => by
    have hne : k ≠ g := by
      rintro rfl
      have e := hk.symm.trans hr
      cases e
      exact ht rfl
    exact (heap_setCell_other w ⟨g, o, none⟩ k v hne).trans hk⟩
theorem Nh.grown {w w' : World} {v : Value} {b : Nat} {L : List (List Nat)} (ho : OwnH w b v L) (hg : w.grownBy w' v.ownBlock) : Nh w w' :=
  ⟨hg.size, fun k cs t f hk ht => (hg.block k (Array.getElem?_eq_some_iff.1 hk).1 (fun e => by
    obtain ⟨_, ⟨rfl, _⟩ | ⟨g, cap, cur, rfl, _, h2, _⟩⟩ := id ho
    · cases e
    · simp [Value.ownBlock] at e
      subst e
      rw [hk] at h2
      cases h2
      exact ht rfl)).trans hk⟩
theorem ownsRow_nh {b n sz : Nat} {w w' : World} {e : TypeId} {v : Value} {xs : List Value} (h : w.ownsRow b e sz v n xs) (hs : Nh w w') (h1 : e ≠ 42) : w'.ownsRow b e sz v n xs :=
  ⟨h.1, h.2.imp id fun ⟨g, cap, cur, e, k1, k2, k3⟩ => ⟨g, cap, cur, e, k1, hs.block g _ _ _ k2 h1, k3⟩⟩
theorem TpAt.nh {w w' : World} {base : Nat} {tv : Value} {N : List (List Nat)} (h : TpAt w base tv N) (hs : Nh w w') : TpAt w' base tv N := by
  rcases h with h | ⟨T, vN, ns, e, ht, hl, ho, h8⟩
  · exact Or.inl h
  · exact Or.inr ⟨T, vN, ns, e, ⟨hs.block _ _ _ _ ht.row (by decide), ownsRow_nh ht.own hs (by decide), ht.ne, ht.le⟩, hl, fun i hi => ownsRow_nh (ho i hi) hs (by decide), h8⟩
theorem TStep.grown {base : Nat} {w w5 w6 : World} (h : TStep base w w5) (hb : Below w.heap.size w5 w6) : TStep base w w6 :=
  ⟨hb.os.trans h.os, hb.tape.trans h.tape, hb.output.trans h.output, Nat.le_trans h.size hb.size, fun k o hk hs => (hb.block k (Array.getElem?_eq_some_iff.1 hk).1).trans (h.block k o hk hs)⟩
/-- What lies below base stays. -/
theorem PartsAt.low {W0 w wr : World} {v : Value} {L : List (List Nat)} {base : Nat} (h : PartsAt W0 v L) (hb : Below W0.heap.size W0 w) (h0 : W0.heap.size ≤ base) (hs : TStep base w wr) : PartsAt wr v L := by
  have hbb : Below W0.heap.size W0 wr := ⟨hs.os.trans hb.os, hs.tape.trans hb.tape, hs.output.trans hb.output, Nat.le_trans hb.size hs.size, fun k hk => by
    have e := hb.block k hk
    have hk2 : k < W0.heap.size := hk
    rw [← e]
    have hk3 : k < w.heap.size := Nat.lt_of_lt_of_le hk hb.size
    have := hs.block k w.heap[k] (by simp [hk3]) (Or.inl (by omega))
    rw [this]
    simp [hk3]⟩
  exact h.later hbb
theorem BytesAt.low {W0 w wr : World} {v : Value} {l : List Nat} {base : Nat} (h : BytesAt W0 v l) (hb : Below W0.heap.size W0 w) (h0 : W0.heap.size ≤ base) (hs : TStep base w wr) : BytesAt wr v l := by
  have hbb : Below W0.heap.size W0 wr := ⟨hs.os.trans hb.os, hs.tape.trans hb.tape, hs.output.trans hb.output, Nat.le_trans hb.size hs.size, fun k hk => by
    have e := hb.block k hk
    rw [← e]
    have hk3 : k < w.heap.size := Nat.lt_of_lt_of_le hk hb.size
    have := hs.block k w.heap[k] (by simp [hk3]) (Or.inl (by omega))
    rw [this]
    simp [hk3]⟩
  exact h.later hbb

end Go.Proofs.YtcahmldgkkcheaaDoor
