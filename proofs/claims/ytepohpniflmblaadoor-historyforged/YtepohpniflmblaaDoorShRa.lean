
/-
  A range over a tape's All (a bound method): a round is the body's walk.
-/
import Derived.Test.YtepohpniflmblaaDoorShAf
namespace Go.Proofs.YtepohpniflmblaaDoor
open Go.RowKit
set_option maxRecDepth 100000
set_option linter.unusedVariables false
set_option linter.unusedSimpArgs false

/-- All blocks but D lie as they lay. -/
structure Kb (D : Nat) (W W' : World) : Prop where
  os : W'.os = W.os
  tape : W'.tape = W.tape
  output : W'.output = W.output
  size : W.heap.size ≤ W'.heap.size
  block : ∀ i, i < W.heap.size → i ≠ D → W'.heap[i]? = W.heap[i]?
  nc : ∀ cs t f, W.heap[D]? ≠ some (.cells cs t f)
theorem ncl {W : World} {D : Nat} {r : Loop} (h : W.heap[D]? = some (.loop r)) : ∀ cs t f, W.heap[D]? ≠ some (.cells cs t f) := fun cs t f e => by rw [h] at e; cases e
theorem Kb.put (D : Nat) (W : World) (o : Obj) (h : ∀ cs t f, W.heap[D]? ≠ some (.cells cs t f)) : Kb D W (W.putObj D o) := ⟨rfl, rfl, rfl, by simp, fun i _ h => World.putObj_heap_other h, h⟩
theorem Kb.of {W W' : World} (D : Nat) (h : Below W.heap.size W W') (hn : ∀ cs t f, W.heap[D]? ≠ some (.cells cs t f)) : Kb D W W' := ⟨h.os, h.tape, h.output, h.size, fun i hi _ => h.block i hi, hn⟩
/-- How a round's body may be left. -/
def rpost (I : Nat → World → Prop) (Ix : Code → World → Prop) (D k : Nat) (W : World) : Exit → Act → World → Prop
  | .normal, _, W' => (W'.heap[D]? = W.heap[D]? ∧ W'.heap[D + 1]? = W.heap[D + 1]?) ∧ I (k + 1) W'
  | .ret, _, W' => (W'.heap[D]? = W.heap[D]? ∧ W'.heap[D + 1]? = W.heap[D + 1]?) ∧ Ix .ret W'
  | .exit id, _, W' => (W'.heap[D]? = W.heap[D]? ∧ W'.heap[D + 1]? = W.heap[D + 1]?) ∧ Ix (.exit id) W'
  | _, _, _ => False
theorem BytesAt.put {W : World} {u : Value} {l : List Nat} (h : BytesAt W u l) {D : Nat} {r : Loop} (hD : W.heap[D]? = some (.loop r)) (o : Obj) : BytesAt (W.putObj D o) u l := by
  obtain ⟨h8, hm, p, c, rfl, hc⟩ := h
  refine ⟨h8, hm, p, c, rfl, fun i hi => ?_⟩
  obtain ⟨b, off, e, hb, hcell⟩ := hc i hi
  exact ⟨b, off, e, by simpa using hb, cell_kept hcell (grownBy_putObj' _ D o) (fun r e => by cases e; exact ⟨_, hD, rfl⟩)⟩

set_option maxHeartbeats 1000000 in
theorem wpIn_range_all {g : Operand} {ps : Array Tmp} {assign body : Code} {Q : Exit → Act → World → Prop} {a : Act} {w : World} (T : Nat) (vN : Value) (L : List (List Nat))
    (hg : a.eval g = .func (.func 26) #[.pointer (some ⟨T, 0, none⟩)] #[]) (hps : ps.size = 1) (hTl : T < w.heap.size) (hT : w.cell? ⟨T, 0, none⟩ = some vN)
    (I : Nat → World → Prop) (Ix : Code → World → Prop) (hP : ∀ k W, I k W → PartsAt W vN L) (hI : ∀ k W W', I k W → Kb (w.heap.size + 1) W W' → I k W') (hIx : ∀ c W W', Ix c W → Kb (w.heap.size + 1) W W' → Ix c W')
    (hlen : ∀ k, k < L.length → (L.getD k []).length ≤ 1000) (h0 : I 0 w) (a₁ : Value → Act)
    (hassign : ∀ (u : Value) (W : World) (K : Act → World → Prop), K (a₁ u) W → assign.wpIn (Fence.wide.inRound (w.heap.size + 1)) 1 Tryd.prog (Exit.then K (fun _ _ _ => False)) { tmps := (ps.zip #[u]).foldl (fun t (p, v) => t.setIfInBounds p v) a.tmps, defers := [] } W)
    (hbody : ∀ k W u, k < L.length → I k W → BytesAt W u (L.getD k []) → w.heap.size + 2 ≤ W.heap.size → body.wpIn (Fence.wide.inRound (w.heap.size + 1)) 1 Tryd.prog (rpost I Ix w.heap.size k W) (a₁ u) W)
    (hdone : ∀ W, I L.length W → W.heap[w.heap.size]? = some (.deferred (some [])) → Q .normal { a with defers := { target := .collected w.heap.size, args := #[] } :: a.defers } W)
    (hstop : ∀ c W, Ix c W → W.heap[w.heap.size]? = some (.deferred (some [])) → c.wpIn Fence.wide 3 Tryd.prog Q { a with defers := { target := .collected w.heap.size, args := #[] } :: a.defers } W) :
    (Code.rangeFunc g ps assign body).wpIn Fence.wide 3 Tryd.prog Q a w := by
  refine wpIn_rangeFunc ?_
  intro fn hfn
  rw [show Fence.wide.round = none from rfl]
  have eg := Go.Proofs.enters_of Tryd.func26 (by kernel_rfl) rfl
  unfold Go.Proofs.Enters at eg
  obtain ⟨rc, hrc⟩ : ∃ rc : LoopState → Option Code → Loop, rc = fun st pe => { state := st, pending := pe, fn, tmps := a.tmps, params := ps, assign, body, defers := w.heap.size } := ⟨_, rfl⟩
  obtain ⟨W1, hW1⟩ : ∃ W1, (w.alloc (.deferred (some []))).alloc (.loop (rc .ready none)) = W1 := ⟨_, rfl⟩
  have hL1 : W1.heap[w.heap.size + 1]? = some (.loop (rc .ready none)) := by
    rw [← hW1]; have := World.alloc_heap_new (w.alloc (.deferred (some []))) (.loop (rc .ready none)); rwa [World.size_alloc] at this
  have hK1 : W1.heap[w.heap.size]? = some (.deferred (some [])) := by
    rw [← hW1]; exact (Below.heap_alloc _ _ _ (by simp)).trans (World.alloc_heap_new w _)
  have hb1 : Below w.heap.size w W1 := by rw [← hW1]; exact below2 w _ _
  refine ⟨w.heap.size + 1, [{ target := .collected w.heap.size, args := #[] }], W1, { target := .fn (.func 26) #[], args := #[.pointer (some ⟨T, 0, none⟩), .func (.yield (w.heap.size + 1)) #[] #[]] }, W1, 26,
    #[.pointer (some ⟨T, 0, none⟩), .func (.yield (w.heap.size + 1)) #[] #[]], W1, ?_, ?_, fun _ _ => trivial, ?_, fun _ => by omega, ?_⟩
  · rw [← hW1, hrc]; exact run_enterLoop_outer _ _ _ _ _
  · simp only [resolve, rangeCall, hg]
    simp [go_sem]
  · simp [invoke, go_sem, eg]
  · refine (all_full (w.heap.size + 1) T vN L
      (fun k W => I k W ∧ W.heap[w.heap.size + 1]? = some (.loop (rc .ready none)) ∧ W.heap[w.heap.size]? = some (.deferred (some [])))
      (fun W => ∃ c, Ix c W ∧ W.heap[w.heap.size + 1]? = some (.loop (rc .done (some c))) ∧ W.heap[w.heap.size]? = some (.deferred (some [])))
      (fun k W h => hP k W h.1)
      (fun k W W' h hb => ⟨hI k W W' h.1 (Kb.of _ hb (ncl h.2.1)), (hb.block _ (Array.getElem?_eq_some_iff.1 h.2.1).1).trans h.2.1, (hb.block _ (Array.getElem?_eq_some_iff.1 h.2.2).1).trans h.2.2⟩)
      hlen ?_ W1 ((hb1.cell (p := ⟨T, 0, none⟩) hTl).trans hT) ⟨hI _ _ _ h0 (Kb.of _ hb1 (fun cs t f e => by have := (Array.getElem?_eq_some_iff.1 e).1; omega)), hL1, hK1⟩).mono ?_
    · rintro k W u hlt ⟨hi, hl, hk⟩ hu
      have hlD : w.heap.size + 1 < W.heap.size := (Array.getElem?_eq_some_iff.1 hl).1
      have hy := run_yield (P := Tryd.prog) (args := #[u]) hl (by rw [hrc]; simp [hps])
      rw [hrc] at hy
      refine ⟨fn, _, assign, body, hy, roundIn_of_wpIn hfn (hassign u W _ ⟨_, run_beginRound hl (by rw [hrc]), ?_⟩)⟩
      have hl2 : (W.putObj (w.heap.size + 1) (.loop { rc .ready none with state := .busy })).heap[w.heap.size + 1]? = some (.loop { rc .ready none with state := .busy }) := World.putObj_heap_same hlD
      have hk2 : (W.putObj (w.heap.size + 1) (.loop { rc .ready none with state := .busy })).heap[w.heap.size]? = some (.deferred (some [])) := (World.putObj_heap_other (by omega)).trans hk
      refine wpIn_mono (hbody k _ u hlt (hI _ _ _ hi (Kb.put _ _ _ (ncl hl))) (hu.put hl _) (by simp; omega)) ?_
      have fin : ∀ (j : Option Code) (W3 : World), W3.heap[w.heap.size]? = (W.putObj (w.heap.size + 1) (.loop { rc .ready none with state := .busy })).heap[w.heap.size]? → W3.heap[w.heap.size + 1]? = (W.putObj (w.heap.size + 1) (.loop { rc .ready none with state := .busy })).heap[w.heap.size + 1]? →
          (Instr.endRound (w.heap.size + 1) j).run Tryd.prog W3 = .ok (.bool j.isNone) (W3.putObj (w.heap.size + 1) (.loop (rc (if j.isNone then .ready else .done) j))) ∧
          (W3.putObj (w.heap.size + 1) (.loop (rc (if j.isNone then .ready else .done) j))).heap[w.heap.size + 1]? = some (.loop (rc (if j.isNone then .ready else .done) j)) ∧
          (W3.putObj (w.heap.size + 1) (.loop (rc (if j.isNone then .ready else .done) j))).heap[w.heap.size]? = some (.deferred (some [])) := fun j W3 g1 g2 => by
        have hl3 := g2.trans hl2
        have := run_endRound (P := Tryd.prog) j hl3
        refine ⟨?_, World.putObj_heap_same (Array.getElem?_eq_some_iff.1 hl3).1, (World.putObj_heap_other (by omega)).trans (g1.trans hk2)⟩
        rw [hrc] at this ⊢
        exact this
      rintro e a3 W3 hp
      cases e with
      | normal =>
        obtain ⟨⟨g1, g2⟩, hi3⟩ := hp
        obtain ⟨hr, hl4, hk4⟩ := fin none W3 g1 g2
        exact ⟨_, _, hr, .inl ⟨rfl, hI _ _ _ hi3 (Kb.put _ _ _ (ncl (g2.trans hl2))), hl4, hk4⟩⟩
      | ret =>
        obtain ⟨⟨g1, g2⟩, hi3⟩ := hp
        obtain ⟨hr, hl4, hk4⟩ := fin (some .ret) W3 g1 g2
        exact ⟨_, _, hr, .inr ⟨rfl, .ret, hIx _ _ _ hi3 (Kb.put _ _ _ (ncl (g2.trans hl2))), hl4, hk4⟩⟩
      | exit id =>
        obtain ⟨⟨g1, g2⟩, hi3⟩ := hp
        obtain ⟨hr, hl4, hk4⟩ := fin (some (.exit id)) W3 g1 g2
        exact ⟨_, _, hr, .inr ⟨rfl, .exit id, hIx _ _ _ hi3 (Kb.put _ _ _ (ncl (g2.trans hl2))), hl4, hk4⟩⟩
      | goto t => exact hp.elim
      | panic ch => exact hp.elim
      | outgrown => exact hp.elim
    · rintro e W2 ⟨⟨v, rfl⟩, (⟨hi, hl, hk⟩ | ⟨c, hi, hl, hk⟩)⟩
      · exact ⟨none, _, by have := run_endLoop (P := Tryd.prog) hl (by rw [hrc]; simp); rw [hrc] at this; exact this, hdone _ (hI _ _ _ hi (Kb.put _ _ _ (ncl hl))) ((World.putObj_heap_other (by omega)).trans hk)⟩
      · exact ⟨some c, _, by have := run_endLoop (P := Tryd.prog) hl (by rw [hrc]; simp); rw [hrc] at this; exact this, hstop _ _ (hIx _ _ _ hi (Kb.put _ _ _ (ncl hl))) ((World.putObj_heap_other (by omega)).trans hk)⟩
end Go.Proofs.YtepohpniflmblaaDoor
