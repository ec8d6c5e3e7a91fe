
/-
  package wire: ReadRequest, for all bytes up to 2^20; the anchor of layer 3's statements.
-/
import Derived.Test.YtekpkbmelhgneaaWiF
namespace Go.Proofs.Ytekpkbmelhgneaa
open Go.RowKit
set_option maxRecDepth 100000

def Rq.zero : Rq := ⟨0, [], [], 0, 0, 0, 0, 0⟩
/-- What the fields of a request are; its error; what the reader is behind them. -/
def rF (s : List Nat × Bool) : Rq × Nat × (List Nat × Bool) :=
  if rI 1 s = 1 then
    if 8 < rI 1 (rDrop 1 s) then (⟨1, [], [], 0, 0, 0, 0, 0⟩, 2, rDrop 1 (rDrop 1 s))
    else (⟨1, evs rAc rAcS (rI 1 (rDrop 1 s)) (rDrop 1 (rDrop 1 s)), [], 0, 0, 0, 0, 0⟩, 0, itS rAcS (rI 1 (rDrop 1 s)) (rDrop 1 (rDrop 1 s)))
  else if rI 1 s = 2 then
    if 8 < rI 1 (rDrop 1 s) then (⟨2, [], [], 0, 0, 0, 0, 0⟩, 2, rDrop 1 (rDrop 1 s))
    else (⟨2, [], evs rTr rTrS (rI 1 (rDrop 1 s)) (rDrop 1 (rDrop 1 s)), 0, 0, 0, 0, 0⟩, 0, itS rTrS (rI 1 (rDrop 1 s)) (rDrop 1 (rDrop 1 s)))
  else if rI 1 s = 3 then (⟨3, [], [], 0, 0, rI 4 (rDrop 1 s), 0, 0⟩, 0, rDrop 4 (rDrop 1 s))
  else if rI 1 s = 4 ∨ rI 1 s = 5 ∨ rI 1 s = 7 then (⟨rI 1 s, [], [], rHi (rDrop 1 s), rLo (rDrop 1 s), 0, 0, 0⟩, 0, rDrop 16 (rDrop 1 s))
  else if rI 1 s = 6 ∨ rI 1 s = 8 then (⟨rI 1 s, [], [], rHi (rDrop 1 s), rLo (rDrop 1 s), rI 6 (rDrop 16 (rDrop 1 s)), rI 6 (rDrop 6 (rDrop 16 (rDrop 1 s))), rI 1 (rDrop 6 (rDrop 6 (rDrop 16 (rDrop 1 s))))⟩, 0, rDrop 1 (rDrop 6 (rDrop 6 (rDrop 16 (rDrop 1 s)))))
  else if rI 1 s = 9 then (⟨9, [], [], 0, 0, rI 4 (rDrop 1 s), rI 4 (rDrop 4 (rDrop 1 s)), 0⟩, 0, rDrop 4 (rDrop 4 (rDrop 1 s)))
  else (⟨rI 1 s, [], [], 0, 0, 0, 0, 0⟩, 1, rDrop 1 s)

theorem readF_any (w : World) (R D : Nat) (s : List Nat × Bool) (h : RdAt w R D s) :
    Calls Try.prog 39 #[.pointer (some ⟨R, 0, none⟩)] w fun e w' =>
      ∃ v, e = .returned (.tuple #[v, .int .i64 ((rF s).2.1 : Nat)]) ∧ RqAt w' w.heap.size v (rF s).1 ∧ RdAt w' R D (rF s).2.2 ∧ Else R w w' := by
  unfold rF
  by_cases h1 : rI 1 s = 1
  · by_cases hc : 8 < rI 1 (rDrop 1 s)
    · rw [if_pos h1, if_pos hc]
      exact readF_acsL w R D 1 s h h1 rfl hc
    · rw [if_pos h1, if_neg hc]
      exact readF_acs w R D 1 s h h1 rfl (by omega)
  rw [if_neg h1]
  by_cases h2 : rI 1 s = 2
  · by_cases hc : 8 < rI 1 (rDrop 1 s)
    · rw [if_pos h2, if_pos hc]
      exact readF_trsL w R D 2 s h h2 rfl hc
    · rw [if_pos h2, if_neg hc]
      exact readF_trs w R D 2 s h h2 rfl (by omega)
  rw [if_neg h2]
  by_cases h3 : rI 1 s = 3
  · rw [if_pos h3]
    exact readF_tick w R D 3 s h h3 rfl
  rw [if_neg h3]
  by_cases h4 : rI 1 s = 4 ∨ rI 1 s = 5 ∨ rI 1 s = 7
  · rw [if_pos h4]
    exact readF_find w R D _ s h rfl h4
  rw [if_neg h4]
  by_cases h6 : rI 1 s = 6 ∨ rI 1 s = 8
  · rw [if_pos h6]
    exact readF_span w R D _ s h rfl h6
  rw [if_neg h6]
  by_cases h9 : rI 1 s = 9
  · rw [if_pos h9]
    exact readF_grow w R D 9 s h h9 rfl
  rw [if_neg h9]
  exact readF_none w R D _ s h rfl (by omega)

/-- Is nothing left, and wasn't there too little? -/
def rDone (s : List Nat × Bool) : Bool := !s.2 && s.1.length == 0
/-- The request of bytes, and its error. -/
def parse (l : List Nat) : Rq × Nat :=
  if (rF (l, false)).2.1 = 0 then (if rDone (rF (l, false)).2.2 = true then ((rF (l, false)).1, 0) else (Rq.zero, 1)) else (Rq.zero, (rF (l, false)).2.1)

theorem RqAt.keep {w w1 : World} {base b2 : Nat} {v : Value} {q : Rq} (h : RqAt w base v q) (hb : b2 ≤ base) (hk : ∀ k, base ≤ k → k < w.heap.size → w1.heap[k]? = w.heap[k]?) : RqAt w1 b2 v q := by
  obtain ⟨va, vt, e, ha, ht⟩ := h
  refine ⟨va, vt, e, ?_, ?_⟩
  · exact ownsRow_keep (w := w) ⟨ha.1, ha.2.imp id fun ⟨g, cap, cur, e, h1, h2⟩ => ⟨g, cap, cur, e, by omega, h2⟩⟩ (fun k _ h2 h3 => hk k (ha.lt k h3).1 h2)
  · exact ownsRow_keep (w := w) ⟨ht.1, ht.2.imp id fun ⟨g, cap, cur, e, h1, h2⟩ => ⟨g, cap, cur, e, by omega, h2⟩⟩ (fun k _ h2 h3 => hk k (ht.lt k h3).1 h2)
theorem RqAt.zero (w : World) (base : Nat) : RqAt w base (.agg (rqC 0 (.slice none 0 0) (.slice none 0 0) 0 0 0 0 0)) Rq.zero := ⟨_, _, rfl, acs_nil _ _, trs_nil _ _⟩
theorem RqAt.row {w : World} {base : Nat} {v : Value} {q : Rq} (h : RqAt w base v q) : ∃ cs : Array Value, v = .agg cs ∧ cs.size = 8 ∧ cs.all (·.oneCell') = true := by
  obtain ⟨va, vt, e, ha, ht⟩ := h
  exact ⟨_, e, rfl, rqC_one _ _ _ _ _ _ _ _ (slice_one ha) (slice_one ht)⟩

set_option maxHeartbeats 2000000 in
theorem readReq_err (v : Value) (l : List Nat) (w : World) (h : BytesAt w v l) (hl : l.length ≤ 1048576) (q : Rq) (E : Nat) (s : List Nat × Bool) (hF : rF (l, false) = (q, E, s)) (hE : E ≠ 0) :
    Calls Try.prog 15 #[v] w fun e w' => ∃ u, e = .returned (.tuple #[u, .int .i64 (E : Nat)]) ∧ RqAt w' w.heap.size u Rq.zero ∧ Below w.heap.size w w' := by
  have HF : Hid (rF (l, false) = (q, E, s)) := hF
  clear hF
  have e0 : ((E : Int) == 0) = false := by simp; omega
  have hlt0 := h.1
  go_enter Try.func15, Try.ntmps15
  go_wp2_with (go_at_call 19; refine stop ?_)
  rw [rq_lit]
  have rB0 : Row (w.alloc (.cells (rqC 0 (.slice none 0 0) (.slice none 0 0) 0 0 0 0 0) 28)) w.heap.size (rqC 0 (.slice none 0 0) (.slice none 0 0) 0 0 0 0 0) 28 := Row.new _ _ _ rfl
  have hv0 := h.later (below1 w (.cells (rqC 0 (.slice none 0 0) (.slice none 0 0) 0 0 0 0 0) 28))
  have hb0 := below1 w (.cells (rqC 0 (.slice none 0 0) (.slice none 0 0) 0 0 0 0 0) 28)
  generalize w.alloc (.cells (rqC 0 (.slice none 0 0) (.slice none 0 0) 0 0 0 0 0) 28) = w0 at *
  refine (new_any v l w0 hv0 hl).mono ?_
  rintro e w1 ⟨R, D, rfl, hR0, hD0, hR, hb1⟩
  have rB1 := rB0.later hb1
  have hb1' := chain hb0 hb1
  have z0 := rB0.lt
  clear rB0 hv0 hb0 hb1
  go_wp2_with (go_at_call 39; refine stop ?_)
  refine (readF_any w1 R D _ hR).mono ?_
  rw [HF.out]
  dsimp only
  rintro e w2 ⟨u, rfl, hq, hR2, he2⟩
  have z1 := rB1.lt
  have rB2 := rB1.else he2 (by omega)
  have hb2 : Below w.heap.size w w2 := hb1'.trans (he2.below (by omega) (by omega))
  obtain ⟨cs, rfl, hcs, hone⟩ := hq.row
  have hsz : (Try.prog.info? 28).map (·.size) = some cs.size := by rw [hcs]; exact info_rq
  have z2 := rB2.lt
  clear rB1 hb1' he2 hR
  have rA3 := Row.new w2 (rqC 0 (.slice none 0 0) (.slice none 0 0) 0 0 0 0 0) 28 rfl
  have rA4 := rA3.setRow cs
  have rB4 := (rB2.alloc (.cells (rqC 0 (.slice none 0 0) (.slice none 0 0) 0 0 0 0 0) 28)).setRowOther (g := w2.heap.size) cs (by omega)
  have hR4 := (hR2.alloc (.cells (rqC 0 (.slice none 0 0) (.slice none 0 0) 0 0 0 0 0) 28)).setRow (A := w2.heap.size) cs (by have := hR2.lt; omega) (by have := hR2.dl; omega)
  have hb4 : Below w.heap.size w ((w2.alloc (.cells (rqC 0 (.slice none 0 0) (.slice none 0 0) 0 0 0 0 0) 28)).setRow w2.heap.size cs) := Below.row (chainA hb2 _) _ (by omega)
  have hq4 : RqAt ((w2.alloc (.cells (rqC 0 (.slice none 0 0) (.slice none 0 0) 0 0 0 0 0) 28)).setRow w2.heap.size cs) w1.heap.size (.agg cs) q := hq.keep (Nat.le_refl _) (fun k _ h2 => (setRow_other _ _ _ _ (by omega)).trans (heap_alloc_old w2 _ h2))
  clear rB2 hR2 hb2 hq
  go_wp2_with (refine wpList_store_row rfl 28 _ _ rfl w2.heap.size cs rfl rfl 28 _ (heap_alloc_new w2 _) hsz (by rw [hcs]; rfl) hone ?_; refine stop ?_)
  unfold Stop
  rw [rq_lit]
  generalize (w2.alloc (.cells (rqC 0 (.slice none 0 0) (.slice none 0 0) 0 0 0 0 0) 28)).setRow w2.heap.size cs = w3 at *
  go_wp2_with (refine wpList_store_row rfl 28 _ _ rfl w.heap.size (rqC 0 (.slice none 0 0) (.slice none 0 0) 0 0 0 0 0) rfl rfl 28 _ rB4 info_rq rfl (rqC_one _ _ _ _ _ _ _ _ rfl rfl) ?_)
  refine bodyPost_ret (v := .tuple #[.agg (rqC 0 (.slice none 0 0) (.slice none 0 0) 0 0 0 0 0), .int .i64 (E : Nat)]) (results_cell_slot Try.results15 _ _ w.heap.size (rqC 0 (.slice none 0 0) (.slice none 0 0) 0 0 0 0 0) (.int .i64 (E : Nat)) ?hp ?hq ?hg) rfl ⟨_, rfl, ?hw, Below.row hb4 _ (Nat.le_refl _)⟩
  case hp => rfl
  case hq => rfl
  case hg => exact run_loadVar_row _ w.heap.size 28 28 (rqC 0 (.slice none 0 0) (.slice none 0 0) 0 0 0 0 0) (0, 0) _ (rB4.setRow _) Try.underlying28 rfl info_rq
  case hw => exact RqAt.zero _ _

set_option maxHeartbeats 2000000 in
theorem readReq_more (v : Value) (l : List Nat) (w : World) (h : BytesAt w v l) (hl : l.length ≤ 1048576) (q : Rq) (s : List Nat × Bool) (hF : rF (l, false) = (q, 0, s)) (hD : rDone s = false) :
    Calls Try.prog 15 #[v] w fun e w' => ∃ u, e = .returned (.tuple #[u, .int .i64 1]) ∧ RqAt w' w.heap.size u Rq.zero ∧ Below w.heap.size w w' := by
  have HF : Hid (rF (l, false) = (q, 0, s)) := hF
  clear hF
  have hlt0 := h.1
  go_enter Try.func15, Try.ntmps15
  go_wp2_with (go_at_call 19; refine stop ?_)
  rw [rq_lit]
  have rB0 : Row (w.alloc (.cells (rqC 0 (.slice none 0 0) (.slice none 0 0) 0 0 0 0 0) 28)) w.heap.size (rqC 0 (.slice none 0 0) (.slice none 0 0) 0 0 0 0 0) 28 := Row.new _ _ _ rfl
  have hv0 := h.later (below1 w (.cells (rqC 0 (.slice none 0 0) (.slice none 0 0) 0 0 0 0 0) 28))
  have hb0 := below1 w (.cells (rqC 0 (.slice none 0 0) (.slice none 0 0) 0 0 0 0 0) 28)
  generalize w.alloc (.cells (rqC 0 (.slice none 0 0) (.slice none 0 0) 0 0 0 0 0) 28) = w0 at *
  refine (new_any v l w0 hv0 hl).mono ?_
  rintro e w1 ⟨R, D, rfl, hR0, hD0, hR, hb1⟩
  have rB1 := rB0.later hb1
  have hb1' := chain hb0 hb1
  have z0 := rB0.lt
  clear rB0 hv0 hb0 hb1
  go_wp2_with (go_at_call 39; refine stop ?_)
  refine (readF_any w1 R D _ hR).mono ?_
  rw [HF.out]
  dsimp only
  rintro e w2 ⟨u, rfl, hq, hR2, he2⟩
  have z1 := rB1.lt
  have rB2 := rB1.else he2 (by omega)
  have hb2 : Below w.heap.size w w2 := hb1'.trans (he2.below (by omega) (by omega))
  obtain ⟨cs, rfl, hcs, hone⟩ := hq.row
  have hsz : (Try.prog.info? 28).map (·.size) = some cs.size := by rw [hcs]; exact info_rq
  have z2 := rB2.lt
  clear rB1 hb1' he2 hR
  have rA3 := Row.new w2 (rqC 0 (.slice none 0 0) (.slice none 0 0) 0 0 0 0 0) 28 rfl
  have rA4 := rA3.setRow cs
  have rB4 := (rB2.alloc (.cells (rqC 0 (.slice none 0 0) (.slice none 0 0) 0 0 0 0 0) 28)).setRowOther (g := w2.heap.size) cs (by omega)
  have hR4 := (hR2.alloc (.cells (rqC 0 (.slice none 0 0) (.slice none 0 0) 0 0 0 0 0) 28)).setRow (A := w2.heap.size) cs (by have := hR2.lt; omega) (by have := hR2.dl; omega)
  have hb4 : Below w.heap.size w ((w2.alloc (.cells (rqC 0 (.slice none 0 0) (.slice none 0 0) 0 0 0 0 0) 28)).setRow w2.heap.size cs) := Below.row (chainA hb2 _) _ (by omega)
  have hq4 : RqAt ((w2.alloc (.cells (rqC 0 (.slice none 0 0) (.slice none 0 0) 0 0 0 0 0) 28)).setRow w2.heap.size cs) w1.heap.size (.agg cs) q := hq.keep (Nat.le_refl _) (fun k _ h2 => (setRow_other _ _ _ _ (by omega)).trans (heap_alloc_old w2 _ h2))
  clear rB2 hR2 hb2 hq
  go_wp2_with (refine wpList_store_row rfl 28 _ _ rfl w2.heap.size cs rfl rfl 28 _ (heap_alloc_new w2 _) hsz (by rw [hcs]; rfl) hone ?_; refine stop ?_)
  unfold Stop
  rw [rq_lit]
  generalize (w2.alloc (.cells (rqC 0 (.slice none 0 0) (.slice none 0 0) 0 0 0 0 0) 28)).setRow w2.heap.size cs = w3 at *
  have hdn := done_any w3 R D s hR4
  rw [show (!s.2 && s.1.length == 0) = false from hD] at hdn
  go_wp2_with (first | (go_at_call 21; refine hdn.mono ?_; rintro e w4 ⟨rfl, rfl⟩) | refine wpList_store_row rfl 28 _ _ rfl w.heap.size (rqC 0 (.slice none 0 0) (.slice none 0 0) 0 0 0 0 0) rfl rfl 28 _ rB4 info_rq rfl (rqC_one _ _ _ _ _ _ _ _ rfl rfl) ?_)
  refine bodyPost_ret (v := .tuple #[.agg (rqC 0 (.slice none 0 0) (.slice none 0 0) 0 0 0 0 0), .int .i64 1]) (results_cell_slot Try.results15 _ _ w.heap.size (rqC 0 (.slice none 0 0) (.slice none 0 0) 0 0 0 0 0) (.int .i64 1) ?hp ?hq ?hg) rfl ⟨_, rfl, ?hw, Below.row hb4 _ (Nat.le_refl _)⟩
  case hp => rfl
  case hq => rfl
  case hg => exact run_loadVar_row _ w.heap.size 28 28 (rqC 0 (.slice none 0 0) (.slice none 0 0) 0 0 0 0 0) (0, 0) _ (rB4.setRow _) Try.underlying28 rfl info_rq
  case hw => exact RqAt.zero _ _

set_option maxHeartbeats 2000000 in
theorem readReq_ok (v : Value) (l : List Nat) (w : World) (h : BytesAt w v l) (hl : l.length ≤ 1048576) (q : Rq) (s : List Nat × Bool) (hF : rF (l, false) = (q, 0, s)) (hD : rDone s = true) :
    Calls Try.prog 15 #[v] w fun e w' => ∃ u, e = .returned (.tuple #[u, .int .i64 0]) ∧ RqAt w' w.heap.size u q ∧ Below w.heap.size w w' := by
  have HF : Hid (rF (l, false) = (q, 0, s)) := hF
  clear hF
  have hlt0 := h.1
  go_enter Try.func15, Try.ntmps15
  go_wp2_with (go_at_call 19; refine stop ?_)
  rw [rq_lit]
  have rB0 : Row (w.alloc (.cells (rqC 0 (.slice none 0 0) (.slice none 0 0) 0 0 0 0 0) 28)) w.heap.size (rqC 0 (.slice none 0 0) (.slice none 0 0) 0 0 0 0 0) 28 := Row.new _ _ _ rfl
  have hv0 := h.later (below1 w (.cells (rqC 0 (.slice none 0 0) (.slice none 0 0) 0 0 0 0 0) 28))
  have hb0 := below1 w (.cells (rqC 0 (.slice none 0 0) (.slice none 0 0) 0 0 0 0 0) 28)
  generalize w.alloc (.cells (rqC 0 (.slice none 0 0) (.slice none 0 0) 0 0 0 0 0) 28) = w0 at *
  refine (new_any v l w0 hv0 hl).mono ?_
  rintro e w1 ⟨R, D, rfl, hR0, hD0, hR, hb1⟩
  have rB1 := rB0.later hb1
  have hb1' := chain hb0 hb1
  have z0 := rB0.lt
  clear rB0 hv0 hb0 hb1
  go_wp2_with (go_at_call 39; refine stop ?_)
  refine (readF_any w1 R D _ hR).mono ?_
  rw [HF.out]
  dsimp only
  rintro e w2 ⟨u, rfl, hq, hR2, he2⟩
  have z1 := rB1.lt
  have rB2 := rB1.else he2 (by omega)
  have hb2 : Below w.heap.size w w2 := hb1'.trans (he2.below (by omega) (by omega))
  obtain ⟨cs, rfl, hcs, hone⟩ := hq.row
  have hsz : (Try.prog.info? 28).map (·.size) = some cs.size := by rw [hcs]; exact info_rq
  have z2 := rB2.lt
  clear rB1 hb1' he2 hR
  have rA3 := Row.new w2 (rqC 0 (.slice none 0 0) (.slice none 0 0) 0 0 0 0 0) 28 rfl
  have rA4 := rA3.setRow cs
  have rB4 := (rB2.alloc (.cells (rqC 0 (.slice none 0 0) (.slice none 0 0) 0 0 0 0 0) 28)).setRowOther (g := w2.heap.size) cs (by omega)
  have hR4 := (hR2.alloc (.cells (rqC 0 (.slice none 0 0) (.slice none 0 0) 0 0 0 0 0) 28)).setRow (A := w2.heap.size) cs (by have := hR2.lt; omega) (by have := hR2.dl; omega)
  have hb4 : Below w.heap.size w ((w2.alloc (.cells (rqC 0 (.slice none 0 0) (.slice none 0 0) 0 0 0 0 0) 28)).setRow w2.heap.size cs) := Below.row (chainA hb2 _) _ (by omega)
  have hq4 : RqAt ((w2.alloc (.cells (rqC 0 (.slice none 0 0) (.slice none 0 0) 0 0 0 0 0) 28)).setRow w2.heap.size cs) w1.heap.size (.agg cs) q := hq.keep (Nat.le_refl _) (fun k _ h2 => (setRow_other _ _ _ _ (by omega)).trans (heap_alloc_old w2 _ h2))
  clear rB2 hR2 hb2 hq
  go_wp2_with (refine wpList_store_row rfl 28 _ _ rfl w2.heap.size cs rfl rfl 28 _ (heap_alloc_new w2 _) hsz (by rw [hcs]; rfl) hone ?_; refine stop ?_)
  unfold Stop
  rw [rq_lit]
  generalize (w2.alloc (.cells (rqC 0 (.slice none 0 0) (.slice none 0 0) 0 0 0 0 0) 28)).setRow w2.heap.size cs = w3 at *
  have hdn := done_any w3 R D s hR4
  rw [show (!s.2 && s.1.length == 0) = true from hD] at hdn
  go_wp2_with (first | (go_at_call 21; refine hdn.mono ?_; rintro e w4 ⟨rfl, rfl⟩) | refine wpList_load_row rfl 28 _ rfl w2.heap.size rfl 28 cs (0, 0) _ rA4 Try.underlying28 rfl hsz ?_ | refine wpList_store_row rfl 28 _ _ rfl w.heap.size cs rfl rfl 28 _ rB4 hsz (by rw [hcs]; rfl) hone ?_)
  refine bodyPost_ret (v := .tuple #[.agg cs, .int .i64 0]) (results_cell_slot Try.results15 _ _ w.heap.size cs (.int .i64 0) ?hp ?hq ?hg) rfl ⟨_, rfl, ?hw, Below.row hb4 _ (Nat.le_refl _)⟩
  case hp => rfl
  case hq => rfl
  case hg => exact run_loadVar_row _ w.heap.size 28 28 cs (0, 0) _ (rB4.setRow _) Try.underlying28 rfl hsz
  case hw => exact hq4.keep (by omega) (fun k h1 _ => setRow_other _ _ _ _ (by omega))

theorem readReq_any (v : Value) (l : List Nat) (w : World) (h : BytesAt w v l) (hl : l.length ≤ 1048576) :
    Calls Try.prog 15 #[v] w fun e w' => ∃ u, e = .returned (.tuple #[u, .int .i64 ((parse l).2 : Nat)]) ∧ RqAt w' w.heap.size u (parse l).1 ∧ Below w.heap.size w w' := by
  obtain ⟨q, E, s, hF⟩ : ∃ q E s, rF (l, false) = (q, E, s) := ⟨_, _, _, rfl⟩
  unfold parse
  rw [hF]
  dsimp only
  by_cases hE : E = 0
  · subst hE
    rw [if_pos rfl]
    cases hD : rDone s with
    | true => rw [if_pos rfl]; exact readReq_ok v l w h hl q s hF hD
    | false => rw [if_neg (by simp)]; exact readReq_more v l w h hl q s hF hD
  · rw [if_neg hE]
    exact readReq_err v l w h hl q E s hF hE
end Go.Proofs.Ytekpkbmelhgneaa
