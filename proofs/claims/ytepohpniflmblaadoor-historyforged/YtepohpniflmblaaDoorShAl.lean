
/-
  A tape's All, and Clash: on an empty tape.
-/
import Derived.Test.YtepohpniflmblaaDoorShN
import Derived.Test.YtepohpniflmblaaDoorShLSt
import Derived.Shelf.Abstract
import Derived.RangeFuncNested
import Derived.RangeFuncBound
import Derived.RangeFuncCalls
import Derived.RangeFuncLeaves
import Derived.OwnWalkIn
import Derived.TacticsInMore
import Derived.LoopNIn
import Derived.LoopIn
import Derived.Maps.OwnIn
namespace Go.Proofs.YtepohpniflmblaaDoor
open Go.RowKit
set_option maxRecDepth 100000
set_option linter.unusedVariables false
set_option linter.unusedSimpArgs false
attribute [local go_sem] Oper.semAt_some

theorem yield_eq1 (l : Nat) (w : World) : (eqGuard .eql 64 (.tmp 9) (.const .nilFunc) (.func (.yield l) #[] #[]) .nilFunc).run Tryd.prog w = .ok () w := by
  first | rfl | simp [eqGuard]
theorem yield_eq2 (l : Nat) (w : World) : (binOp .eql 64 (.func (.yield l) #[] #[]) .nilFunc).run Tryd.prog w = .ok (.bool false) w := by
  first | rfl | kernel_rfl | (simp [binOp, go_sem]; trace_state; done)
set_option maxHeartbeats 1000000 in
theorem all_none (w : World) (T : Nat) (l : Nat) (hT : Row w T #[.slice none 0 0] 40) :
    Calls Tryd.prog 26 #[.pointer (some ⟨T, 0, none⟩), .func (.yield l) #[] #[]] w fun e w' => (∃ v, e = .returned v) ∧ w' = w := by
  have cT := hT.cell 0
  simp only [List.getElem?_toArray, List.getElem?_cons_zero] at cT
  have e1 := yield_eq1 l
  have e2 := yield_eq2 l
  go_enter Tryd.func26, Tryd.ntmps26
  go_wp2
  go_loopw [17] (fun i wr => i = .int .i64 0 ∧ wr = w) (fun _ _ => 0)
  case atStart => exact ⟨rfl, rfl⟩
  case round =>
    obtain ⟨rfl, rfl⟩ := hrel
    go_wp2
    first | go_end0 | go_ret
    exact ⟨⟨_, rfl⟩, rfl⟩

/-- A range over a method's value that calls no yield. -/
theorem wpIn_rangeFunc_none {n : Nat} {P : Program} {g : Operand} {ps : Array Tmp} {assign body : Code} {Q : Exit → Act → World → Prop} {a : Act} {w : World} (h1 : 1 ≤ n) (gf : Nat) (fs : Array Value) (hg : a.eval g = .func (.func gf) fs #[])
    (eg : ∀ args w, (callFunc gf args).run P w = .ok (.enter gf args) w)
    (hc : ∀ l W, Below w.heap.size w W → Calls P gf (fs ++ #[.func (.yield l) #[] #[]]) W fun e W' => (∃ v, e = .returned v) ∧ W' = W)
    (hdone : ∀ W, Below w.heap.size w W → W.heap[w.heap.size]? = some (.deferred (some [])) → Q .normal { a with defers := { target := .collected w.heap.size, args := #[] } :: a.defers } W) :
    (Code.rangeFunc g ps assign body).wpIn Fence.wide n P Q a w := by
  refine wpIn_rangeFunc ?_
  intro fn hfn
  rw [show Fence.wide.round = none from rfl]
  obtain ⟨rec, hrec⟩ : ∃ rec : LoopState → Option Code → Loop, rec = fun st pe => { state := st, pending := pe, fn, tmps := a.tmps, params := ps, assign, body, defers := w.heap.size } := ⟨_, rfl⟩
  obtain ⟨W1, hW1⟩ : ∃ W1, (w.alloc (.deferred (some []))).alloc (.loop (rec .ready none)) = W1 := ⟨_, rfl⟩
  have hL1 : W1.heap[w.heap.size + 1]? = some (.loop (rec .ready none)) := by
    rw [← hW1]; have := World.alloc_heap_new (w.alloc (.deferred (some []))) (.loop (rec .ready none)); rwa [World.size_alloc] at this
  have hK1 : W1.heap[w.heap.size]? = some (.deferred (some [])) := by
    rw [← hW1]; exact (Below.heap_alloc _ _ _ (by simp)).trans (World.alloc_heap_new w _)
  have hb1 : Below w.heap.size w W1 := by rw [← hW1]; exact below2 w _ _
  refine ⟨w.heap.size + 1, [{ target := .collected w.heap.size, args := #[] }], W1, { target := .fn (.func gf) #[], args := fs ++ #[.func (.yield (w.heap.size + 1)) #[] #[]] }, W1, gf,
    fs ++ #[.func (.yield (w.heap.size + 1)) #[] #[]], W1, ?_, ?_, fun _ _ => trivial, ?_, fun _ => h1, ?_⟩
  · rw [← hW1, hrec]; exact run_enterLoop_outer _ _ _ _ _
  · simp only [resolve, rangeCall, hg]
    simp [go_sem]
  · simp [invoke, go_sem, eg]
  · refine callsIn_wide.2 ((hc _ _ hb1).mono ?_)
    rintro e W2 ⟨⟨v, rfl⟩, rfl⟩
    refine ⟨none, _, by have := run_endLoop (P := P) hL1 (by rw [hrec]; simp); rw [hrec] at this; exact this, hdone _ (hb1.trans (belowK_b (w := w) (Nat.le_refl _) _ _ _ _ (by omega) hL1 rfl rfl)) ((World.putObj_heap_other (by omega)).trans hK1)⟩

set_option maxHeartbeats 1000000 in
theorem clash_none : ClashNone := by
  intro w T hT ht
  refine (callsIn_wide (n := 3)).1 ?_
  refine callsIn_of_wp_marks Tryd.func21 rfl trivial ?_ rfl
  simp only [Tryd.ntmps21, List.size_toArray, List.length_cons, List.length_nil, Nat.reduceAdd, Nat.reduceSub, Array.replicate_succ, Array.replicate_zero, List.push_toArray, List.append_toArray, List.nil_append, List.cons_append]
  have hmm := @run_makeMap Tryd.prog
  gi_wp2
  have hB0 := below3 w (.cells #[.bool false] 4) (.map #[] 0) (.cells #[.map (some (w.heap.size + 1))] 59)
  have hT0 := hT.later hB0
  have hr0 : Row (((w.alloc (.cells #[.bool false] 4)).alloc (.map #[] 0)).alloc (.cells #[.map (some (w.heap.size + 1))] 59)) w.heap.size #[.bool false] 4 := ((Row.new w _ _ rfl).alloc _).alloc _
  generalize ((w.alloc (.cells #[.bool false] 4)).alloc (.map #[] 0)).alloc (.cells #[.map (some (w.heap.size + 1))] 59) = W0 at *
  refine wpIn_rangeFunc_none (by omega) 26 #[.pointer (some ⟨T, 0, none⟩)] rfl (Go.Proofs.enters_of Tryd.func26 (by kernel_rfl) rfl) (fun l W hb => all_none W T l (hT0.later hb)) ?_
  intro W hb hK
  have hB := chain hB0 hb
  have hr := hr0.later hb
  have hD := hB0.size
  generalize W0.heap.size = D at *
  have hcr := hr.cell 0
  simp only [List.getElem?_toArray, List.getElem?_cons_zero] at hcr
  have hfr := hr.frozen 0
  clear hb
  gi_wp2
  have hK' := (KeepsOthers.setCell W ⟨w.heap.size, 0, none⟩ (.bool false)).same D _ hK rfl
  refine ⟨by simp, .inl ⟨_, _, rfl, run_takeDeferred hK', ?_⟩⟩
  have hc5 := cell_kept (World.cell?_setCell_same' W ⟨w.heap.size, 0, none⟩ (.bool false) (by rw [hcr]; rfl)) (grownBy_putObj' _ D (.deferred none)) (fun r e => by cases e; exact ⟨_, hK', rfl⟩)
  refine ⟨.bool false, ?_, rfl, (hB.setCell (p := ⟨w.heap.size, 0, none⟩) (Nat.le_refl _) _).trans (belowK_b (w := w) (Nat.le_refl _) _ D _ _ (by omega) hK' rfl rfl)⟩
  simp [results, Tryd.f21, go_sem, hc5]
end Go.Proofs.YtepohpniflmblaaDoor
