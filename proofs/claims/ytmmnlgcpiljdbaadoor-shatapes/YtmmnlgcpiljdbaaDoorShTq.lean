
/-
  ShaTapes: what is held behind the append of what is wanted.
-/
import Derived.Test.YtmmnlgcpiljdbaaDoorShTp
set_option maxRecDepth 100000
namespace Go.Proofs.YtmmnlgcpiljdbaaDoor
open Go.RowKit
set_option linter.unusedVariables false

theorem tp_wrote {w w9 w10 : World} {L : List (List Nat)} {b3 b4 b6 T k : Nat} {st : Int} {vN vW vW' : Value} {ns : List Value} {B : List Nat} {o : Obj} (hB : L.getD k [] = B) (hB8 : W8 B)
    (ta : TapeAt w9 w.heap.size T vN ns) (hl : ns.length = k + 1) (n9 : ∀ i, i < k + 1 → Own w9 w.heap.size (ns.getD i undef) (L.getD i [] ++ [7])) (r3 : Row w9 b3 #[.int .i64 st] 3) (r4 : Row w9 b4 #[.bool false] 4) (r6 : Row w9 b6 #[vW] 33)
    (want9 : w9.ownsRow w.heap.size 9 1 vW k ((List.range k).map fun i => .string (strL (L.getD i [] ++ [7])))) (bel9 : Below w.heap.size w w9)
    (own10 : w10.ownsRow w.heap.size 9 1 vW' (k + 1) (((List.range k).map fun i => .string (strL (L.getD i [] ++ [7]))) ++ [.string (strL B ++ ⟨#[7]⟩)])) (gr10 : (w9.alloc o).grownBy w10 vW.ownBlock)
    (g3 : w.heap.size ≤ b3) (g4 : w.heap.size ≤ b4) (g6 : w.heap.size ≤ b6) (h3 : b3 ≠ b6) (h4 : b4 ≠ b6) (hT : T ≠ b6) : TpR w (w10.setCell ⟨b6, 0, none⟩ vW') L b3 b4 b6 T (k + 1) st vN vW' ns := by
  have keep1 : ∀ g, g < w9.heap.size → some g ≠ vW.ownBlock → w10.heap[g]? = w9.heap[g]? := fun g hg h1 => (gr10.block g (by simp; omega) h1).trans (heap_alloc_old w9 _ hg)
  have keep : ∀ g, g < w9.heap.size → some g ≠ vW.ownBlock → g ≠ b6 → (w10.setCell ⟨b6, 0, none⟩ vW').heap[g]? = w9.heap[g]? := fun g hg h1 h2 => (heap_setCell_other w10 ⟨b6, 0, none⟩ g vW' h2).trans (keep1 g hg h1)
  have r610 : Row w10 b6 #[vW] 33 := (keep1 b6 r6.lt (fun e => own_ne want9 r6 (by decide) e.symm)).trans r6
  have own : ∀ (e : TypeId) (v : Value) (n : Nat) (xs : List Value), w9.ownsRow w.heap.size e 1 v n xs → e ≠ 9 → e ≠ 33 → (w10.setCell ⟨b6, 0, none⟩ vW').ownsRow w.heap.size e 1 v n xs := fun e v n xs ho h1 h2 =>
    ownsRow_keep ho fun g hg => keep g (ownsRow_lt ho g hg).2 (fun hh => by
      rcases own_own ho want9 h1 with h | h
      · rw [h] at hg; cases hg
      · exact h (hg.trans hh)) (fun hh => own_ne ho r6 h2 (by rw [hg, hh]))
  have row : ∀ (b : Nat) (cs : Array Value) (t : TypeId), Row w9 b cs t → b ≠ b6 → 9 ≠ t → Row (w10.setCell ⟨b6, 0, none⟩ vW') b cs t := fun b cs t hr h1 h2 => (keep b hr.lt (fun e => own_ne want9 hr h2 e.symm) h1).trans hr
  refine ⟨⟨row _ _ _ ta.row hT (by decide), own _ _ _ _ ta.own (by decide) (by decide), ta.ne, ta.le⟩, hl, fun i hi => own _ _ _ _ (n9 i hi) (by decide) (by decide), row _ _ _ r3 h3 (by decide), row _ _ _ r4 h4 (by decide), r610.set 0 vW', ?_, ?_, g3, g4, g6⟩
  · have e : ((List.range (k + 1)).map fun i => Value.string (strL (L.getD i [] ++ [7]))) = ((List.range k).map fun i => Value.string (strL (L.getD i [] ++ [7]))) ++ [.string (strL B ++ ⟨#[7]⟩)] := by
      rw [List.range_succ, List.map_append, List.map_cons, List.map_nil, hB, str_snoc B hB8]
    rw [e]
    exact ownsRow_set own10 (own_ne own10 r610 (by decide)) vW'
  · exact (below_grown (chainA bel9 o) (chainA bel9 o).size gr10 (fun j hj => (ownsRow_lt want9 j hj).1)).setCell (p := ⟨b6, 0, none⟩) g6 vW'

/-- A cell of a row of bytes that is none of these. -/
theorem TpR.other {w wr : World} {L : List (List Nat)} {b3 b4 b6 T k : Nat} {st : Int} {vN vW : Value} {ns : List Value} (h : TpR w wr L b3 b4 b6 T k st vN vW ns) {g : Nat} {cs : Array Value} (hg : Row wr g cs 5) (hge : w.heap.size ≤ g) (hn : ∀ i, i < k → (ns.getD i undef).ownBlock ≠ some g) (i : Nat) (u : Value) : TpR w (wr.setCell ⟨g, i, none⟩ u) L b3 b4 b6 T k st vN vW ns := by
  have row : ∀ (b : Nat) (ds : Array Value) (t : TypeId), Row wr b ds t → t ≠ 5 → Row (wr.setCell ⟨g, i, none⟩ u) b ds t := fun b ds t hr h1 => (heap_setCell_other wr ⟨g, i, none⟩ b u (fun e => by
    have e' : b = g := e
    subst e'
    have e2 := hr.symm.trans hg
    simp at e2
    exact h1 e2.2)).trans hr
  exact ⟨⟨row _ _ _ h.ta.row (by decide), ownsRow_set h.ta.own (own_ne h.ta.own hg (by decide)) u, h.ta.ne, h.ta.le⟩, h.len, fun j hj => ownsRow_set (h.notes j hj) (hn j hj) u, row _ _ _ h.r3 (by decide), row _ _ _ h.r4 (by decide), row _ _ _ h.r6 (by decide),
    ownsRow_set h.want (own_ne h.want hg (by decide)) u, h.below.setCell (p := ⟨g, i, none⟩) hge u, h.g3, h.g4, h.g6⟩
theorem own_wrote {w9 w10 : World} {b6 base base' k : Nat} {vW vW' x : Value} {xs : List Value} {l : List Nat} {o : Obj} (hx : Own w9 base' x l) (r6 : Row w9 b6 #[vW] 33) (want9 : w9.ownsRow base 9 1 vW k xs) (gr10 : (w9.alloc o).grownBy w10 vW.ownBlock) : Own (w10.setCell ⟨b6, 0, none⟩ vW') base' x l :=
  ownsRow_keep hx fun g hg => (heap_setCell_other w10 ⟨b6, 0, none⟩ g vW' (fun hh => own_ne hx r6 (by decide) (by rw [hg]; exact congrArg some hh))).trans ((gr10.block g (by have := (ownsRow_lt hx g hg).2; simp; omega) (fun hh => by
      rcases own_own hx want9 (by decide) with h | h
      · rw [h] at hg; cases hg
      · exact h (hg.trans hh))).trans (heap_alloc_old w9 _ (ownsRow_lt hx g hg).2))
theorem Own.setAt {w : World} {B g n c : Nat} {l : List Nat} (h : Own w B (.slice (some ⟨g, 0, none⟩) n c) l) (k : Nat) (hk : k < l.length) (y : Nat) : Own (w.setCell ⟨g, k, none⟩ (.int .u8 (y : Nat))) B (.slice (some ⟨g, 0, none⟩) n c) (l.set k y) := by
  obtain ⟨hl, ⟨e, _⟩ | ⟨g', cap, cur, e, hb, hg, h1, h2, h3, h4⟩⟩ := h
  · cases e
  · cases e
    refine ⟨by simp, .inr ⟨g, c, cur.setIfInBounds k (.int .u8 (y : Nat)), by simp, hb, heap_setCell_same w g k cur _ _ hg, by simpa using h1, h2, by simpa using h3, ?_⟩⟩
    rw [List.map_set, List.length_set, Array.toList_setIfInBounds, List.take_set, h4]
theorem Own.rowOf {w : World} {B : Nat} {v : Value} {l : List Nat} (h : Own w B v l) (hne : l ≠ []) : ∃ g c cs, v = .slice (some ⟨g, 0, none⟩) l.length c ∧ B ≤ g ∧ Row w g cs 5 := by
  obtain ⟨hl, ⟨rfl, h0⟩ | ⟨g', cap, cur, e, hb, hg, h1, h2, h3, h4⟩⟩ := h
  · exact absurd (List.eq_nil_of_length_eq_zero h0) hne
  · exact ⟨g', cap, cur, e, hb, hg⟩
theorem W8.setN {l : List Nat} (h : W8 l) (k y : Nat) (hy : y < 256) : W8 (l.set k y) := by
  intro x hx
  rcases List.mem_or_eq_of_mem_set hx with h1 | rfl
  · exact h x h1
  · exact hy
end Go.Proofs.YtmmnlgcpiljdbaaDoor
