
/-
  package wire: readFields, kind by kind, for all bytes.
-/
import Derived.Test.YtekpkbmelhgneaaWiV
namespace Go.Proofs.Ytekpkbmelhgneaa
open Go.RowKit
set_option maxRecDepth 100000

/-- A request; its cells. -/
structure Rq where
  kind : Nat
  acs : List Ac
  trs : List Tr
  hi : Nat
  lo : Nat
  fr : Nat
  to : Nat
  lim : Nat
def rqC (k : Nat) (va vt : Value) (hi lo fr to lim : Nat) : Array Value := #[.int .i64 k, va, vt, .int .u64 hi, .int .u64 lo, .int .i64 fr, .int .i64 to, .int .i64 lim]
theorem rqC_size (k : Nat) (va vt : Value) (hi lo fr to lim : Nat) : (rqC k va vt hi lo fr to lim).size = 8 := rfl
theorem rqC_one (k : Nat) (va vt : Value) (hi lo fr to lim : Nat) (h1 : va.oneCell' = true) (h2 : vt.oneCell' = true) : (rqC k va vt hi lo fr to lim).all (·.oneCell') = true := by
  have e : ∀ (j : IntKind) (x : Int), (Value.int j x).oneCell' = true := fun _ _ => rfl
  simp [rqC, e, h1, h2]
theorem info_rq : (Try.prog.info? 28).map (·.size) = some 8 := by kernel_rfl
theorem rq_lit : (#[.int .i64 0, .slice none 0 0, .slice none 0 0, .int .u64 0, .int .u64 0, .int .i64 0, .int .i64 0, .int .i64 0] : Array Value) = rqC 0 (.slice none 0 0) (.slice none 0 0) 0 0 0 0 0 := rfl
def RqAt (w : World) (base : Nat) (v : Value) (q : Rq) : Prop := ∃ va vt, v = .agg (rqC q.kind va vt q.hi q.lo q.fr q.to q.lim) ∧ AcsAt w base va q.acs ∧ TrsAt w base vt q.trs
theorem slice_one {w : World} {base : Nat} {e : TypeId} {v : Value} {ns : List Value} {n sz : Nat} (h : w.ownsRow base e sz v n ns) : v.oneCell' = true := by
  obtain ⟨_, _, _, rfl, _⟩ := ownsRow_form h
  rfl
theorem acs_nil (w : World) (base : Nat) : AcsAt w base (.slice none 0 0) [] := World.ownsRow_nil _ _ _ _
theorem trs_nil (w : World) (base : Nat) : TrsAt w base (.slice none 0 0) [] := World.ownsRow_nil _ _ _ _

theorem results_cell_slot {fn : Func} {p q : Tmp} {ty : TypeId} (h : fn.results = #[.cell p ty, .tmp q]) (tmps : Array Value) (w : World) (g : Nat) (cs : Array Value) (u : Value)
    (hp : tmps.getD p undef = .pointer (some ⟨g, 0, none⟩)) (hq : tmps.getD q undef = u) (hl : (loadVar ty ⟨g, 0, none⟩).run Try.prog w = .ok (.agg cs) w) :
    (results fn tmps).run Try.prog w = .ok (.tuple #[.agg cs, u]) w := by
  have hp' : tmps[p]?.getD undef = .pointer (some ⟨g, 0, none⟩) := by simpa using hp
  have hq' : tmps[q]?.getD undef = u := by simpa using hq
  simp [results, h, hp', hq', asAddr, hl]

set_option maxHeartbeats 4000000 in
theorem readF_tick (w : World) (R D K : Nat) (s : List Nat × Bool) (h : RdAt w R D s) (hK : rI 1 s = K) (hk : K = 3) :
    Calls Try.prog 39 #[.pointer (some ⟨R, 0, none⟩)] w fun e w' =>
      ∃ v, e = .returned (.tuple #[v, .int .i64 0]) ∧ RqAt w' w.heap.size v ⟨K, [], [], 0, 0, rI 4 (rDrop 1 s), 0, 0⟩ ∧ RdAt w' R D (rDrop 4 (rDrop 1 s)) ∧ Else R w w' := by
  have hlt := h.lt
  have hdl := h.dl
  subst hk
  go_enter Try.func39, Try.ntmps39
  go_wp2_with (go_at_call 29; refine stop ?_)
  rw [rq_lit]
  have rB0 : Row (w.alloc (.cells (rqC 0 (.slice none 0 0) (.slice none 0 0) 0 0 0 0 0) 28)) w.heap.size (rqC 0 (.slice none 0 0) (.slice none 0 0) 0 0 0 0 0) 28 := Row.new _ _ _ rfl
  have hR0 := h.alloc (.cells (rqC 0 (.slice none 0 0) (.slice none 0 0) 0 0 0 0 0) 28)
  have he0 : Else R w (w.alloc (.cells (rqC 0 (.slice none 0 0) (.slice none 0 0) 0 0 0 0 0) 28)) := Else.of (below1 w _)
  generalize w.alloc (.cells (rqC 0 (.slice none 0 0) (.slice none 0 0) 0 0 0 0 0) 28) = w0 at *
  refine (rint2 1 (by decide) _ rfl _ R D _ hR0).mono ?_
  rintro e w1 ⟨x, t, hx, ht, rfl, hq, hd⟩
  obtain rfl := hx.out.trans hK
  have rB1 := rB0.else hd (by omega)
  have he1 := he0.trans hd
  have z1 := rB1.lt
  clear rB0 hR0 he0 hd hx hK
  go_wp2_with (go_at_call 29; refine stop ?_)
  rw [show (#[.int .i64 3, .slice none 0 0, .slice none 0 0, .int .u64 0, .int .u64 0, .int .i64 0, .int .i64 0, .int .i64 0] : Array Value) = (rqC 3 (.slice none 0 0) (.slice none 0 0) 0 0 0 0 0) from rfl]
  have rA0 := Row.new w1 (rqC 3 (.slice none 0 0) (.slice none 0 0) 0 0 0 0 0) 28 rfl
  have rB2 := rB1.alloc (.cells (rqC 3 (.slice none 0 0) (.slice none 0 0) 0 0 0 0 0) 28)
  have hR1 := hq.alloc (.cells (rqC 3 (.slice none 0 0) (.slice none 0 0) 0 0 0 0 0) 28)
  have he2 := he1.alloc (.cells (rqC 3 (.slice none 0 0) (.slice none 0 0) 0 0 0 0 0) 28)
  have zA : w1.heap.size < (w1.alloc (.cells (rqC 3 (.slice none 0 0) (.slice none 0 0) 0 0 0 0 0) 28)).heap.size := by simp
  clear rB1 hq he1
  generalize w1.alloc (.cells (rqC 3 (.slice none 0 0) (.slice none 0 0) 0 0 0 0 0) 28) = w2 at *
  refine (rint2 4 (by decide) _ rfl _ R D _ hR1).mono ?_
  rintro e v0 ⟨x0, t0, hx0, ht0, rfl, hq0, hd0⟩
  have qA0 := rA0.else hd0 (by omega)
  have qB0 := rB2.else hd0 (by omega)
  have qe0 := he2.trans hd0
  have c00 := qA0.cell 5
  rw [show (rqC 3 (.slice none 0 0) (.slice none 0 0) 0 0 0 0 0)[5]? = some (.int .i64 (0 : Nat)) from rfl] at c00
  have f00 := qA0.frozen 5
  clear rA0 rB2 hR1 he2 hd0
  have pA0 : Row (v0.setCell ⟨w1.heap.size, 5, none⟩ (.int .i64 (x0 : Nat))) w1.heap.size (rqC 3 (.slice none 0 0) (.slice none 0 0) 0 0 x0 0 0) 28 := (qA0.set 5 (.int .i64 (x0 : Nat)))
  have pB0 : Row (v0.setCell ⟨w1.heap.size, 5, none⟩ (.int .i64 (x0 : Nat))) w.heap.size (rqC 0 (.slice none 0 0) (.slice none 0 0) 0 0 0 0 0) 28 := (qB0.setOther (a := ⟨w1.heap.size, 5, none⟩) (.int .i64 (x0 : Nat)) (by simp; omega))
  have pR0 : RdAt (v0.setCell ⟨w1.heap.size, 5, none⟩ (.int .i64 (x0 : Nat))) R D t0 := (hq0.set (A := w1.heap.size) 5 (.int .i64 (x0 : Nat)) (by omega) (by omega))
  have pe0 : Else R w (v0.setCell ⟨w1.heap.size, 5, none⟩ (.int .i64 (x0 : Nat))) := (qe0.setNew (A := w1.heap.size) (by omega) 5 (.int .i64 (x0 : Nat)))
  clear qA0 qB0 hq0 qe0
  go_wp2_with (first | refine wpList_load_row rfl 28 _ rfl w1.heap.size rfl 28 (rqC 3 (.slice none 0 0) (.slice none 0 0) 0 0 x0 0 0) (0, 0) _ pA0 Try.underlying28 rfl info_rq ?_ | refine wpList_store_row rfl 28 _ _ rfl w.heap.size (rqC 3 (.slice none 0 0) (.slice none 0 0) 0 0 x0 0 0) rfl rfl 28 _ pB0 info_rq rfl (rqC_one _ _ _ _ _ _ _ _ rfl rfl) ?_)
  refine bodyPost_ret (v := .tuple #[.agg (rqC 3 (.slice none 0 0) (.slice none 0 0) 0 0 x0 0 0), .int .i64 0]) (results_cell_slot Try.results39 _ _ w.heap.size (rqC 3 (.slice none 0 0) (.slice none 0 0) 0 0 x0 0 0) (.int .i64 0) ?hp ?hq ?hg) rfl ⟨_, rfl, ?hw, ?hr, pe0.rowNew (Nat.le_refl _) _⟩
  case hp => rfl
  case hq => rfl
  case hg => exact run_loadVar_row _ w.heap.size 28 28 (rqC 3 (.slice none 0 0) (.slice none 0 0) 0 0 x0 0 0) (0, 0) _ (pB0.setRow _) Try.underlying28 rfl info_rq
  case hw =>
    obtain rfl := ht.out
    obtain rfl := hx0.out
    obtain rfl := ht0.out
    exact ⟨_, _, rfl, acs_nil _ _, trs_nil _ _⟩
  case hr =>
    have hz := pR0.setRow (A := w.heap.size) (rqC 3 (.slice none 0 0) (.slice none 0 0) 0 0 x0 0 0) (by omega) (by omega)
    obtain rfl := ht.out
    obtain rfl := hx0.out
    obtain rfl := ht0.out
    exact hz

set_option maxHeartbeats 4000000 in
theorem readF_find (w : World) (R D K : Nat) (s : List Nat × Bool) (h : RdAt w R D s) (hK : rI 1 s = K) (hk : K = 4 ∨ K = 5 ∨ K = 7) :
    Calls Try.prog 39 #[.pointer (some ⟨R, 0, none⟩)] w fun e w' =>
      ∃ v, e = .returned (.tuple #[v, .int .i64 0]) ∧ RqAt w' w.heap.size v ⟨K, [], [], rHi (rDrop 1 s), rLo (rDrop 1 s), 0, 0, 0⟩ ∧ RdAt w' R D (rDrop 16 (rDrop 1 s)) ∧ Else R w w' := by
  have hlt := h.lt
  have hdl := h.dl
  rcases hk with rfl | rfl | rfl
  · go_enter Try.func39, Try.ntmps39
    go_wp2_with (go_at_call 29; refine stop ?_)
    rw [rq_lit]
    have rB0 : Row (w.alloc (.cells (rqC 0 (.slice none 0 0) (.slice none 0 0) 0 0 0 0 0) 28)) w.heap.size (rqC 0 (.slice none 0 0) (.slice none 0 0) 0 0 0 0 0) 28 := Row.new _ _ _ rfl
    have hR0 := h.alloc (.cells (rqC 0 (.slice none 0 0) (.slice none 0 0) 0 0 0 0 0) 28)
    have he0 : Else R w (w.alloc (.cells (rqC 0 (.slice none 0 0) (.slice none 0 0) 0 0 0 0 0) 28)) := Else.of (below1 w _)
    generalize w.alloc (.cells (rqC 0 (.slice none 0 0) (.slice none 0 0) 0 0 0 0 0) 28) = w0 at *
    refine (rint2 1 (by decide) _ rfl _ R D _ hR0).mono ?_
    rintro e w1 ⟨x, t, hx, ht, rfl, hq, hd⟩
    obtain rfl := hx.out.trans hK
    have rB1 := rB0.else hd (by omega)
    have he1 := he0.trans hd
    have z1 := rB1.lt
    clear rB0 hR0 he0 hd hx hK
    go_wp2_with (go_at_call 31; refine stop ?_)
    rw [show (#[.int .i64 4, .slice none 0 0, .slice none 0 0, .int .u64 0, .int .u64 0, .int .i64 0, .int .i64 0, .int .i64 0] : Array Value) = (rqC 4 (.slice none 0 0) (.slice none 0 0) 0 0 0 0 0) from rfl]
    have rA0 := Row.new w1 (rqC 4 (.slice none 0 0) (.slice none 0 0) 0 0 0 0 0) 28 rfl
    have rB2 := rB1.alloc (.cells (rqC 4 (.slice none 0 0) (.slice none 0 0) 0 0 0 0 0) 28)
    have hR1 := hq.alloc (.cells (rqC 4 (.slice none 0 0) (.slice none 0 0) 0 0 0 0 0) 28)
    have he2 := he1.alloc (.cells (rqC 4 (.slice none 0 0) (.slice none 0 0) 0 0 0 0 0) 28)
    have zA : w1.heap.size < (w1.alloc (.cells (rqC 4 (.slice none 0 0) (.slice none 0 0) 0 0 0 0 0) 28)).heap.size := by simp
    clear rB1 hq he1
    generalize w1.alloc (.cells (rqC 4 (.slice none 0 0) (.slice none 0 0) 0 0 0 0 0) 28) = w2 at *
    refine (rnum2 _ R D _ hR1).mono ?_
    rintro e v0 ⟨x0, y0, t0, hx0, hy0, ht0, rfl, hq0, hd0⟩
    have qA0 := rA0.else hd0 (by omega)
    have qB0 := rB2.else hd0 (by omega)
    have qe0 := he2.trans hd0
    have c00 := qA0.cell 3
    rw [show (rqC 4 (.slice none 0 0) (.slice none 0 0) 0 0 0 0 0)[3]? = some (.int .u64 (0 : Nat)) from rfl] at c00
    have f00 := qA0.frozen 3
    have c01 := qA0.cell 4
    rw [show (rqC 4 (.slice none 0 0) (.slice none 0 0) 0 0 0 0 0)[4]? = some (.int .u64 (0 : Nat)) from rfl] at c01
    have f01 := qA0.frozen 4
    clear rA0 rB2 hR1 he2 hd0
    have pA0 : Row ((v0.setCell ⟨w1.heap.size, 3, none⟩ (.int .u64 (x0 : Nat))).setCell ⟨w1.heap.size, 4, none⟩ (.int .u64 (y0 : Nat))) w1.heap.size (rqC 4 (.slice none 0 0) (.slice none 0 0) x0 y0 0 0 0) 28 := ((qA0.set 3 (.int .u64 (x0 : Nat))).set 4 (.int .u64 (y0 : Nat)))
    have pB0 : Row ((v0.setCell ⟨w1.heap.size, 3, none⟩ (.int .u64 (x0 : Nat))).setCell ⟨w1.heap.size, 4, none⟩ (.int .u64 (y0 : Nat))) w.heap.size (rqC 0 (.slice none 0 0) (.slice none 0 0) 0 0 0 0 0) 28 := ((qB0.setOther (a := ⟨w1.heap.size, 3, none⟩) (.int .u64 (x0 : Nat)) (by simp; omega)).setOther (a := ⟨w1.heap.size, 4, none⟩) (.int .u64 (y0 : Nat)) (by simp; omega))
    have pR0 : RdAt ((v0.setCell ⟨w1.heap.size, 3, none⟩ (.int .u64 (x0 : Nat))).setCell ⟨w1.heap.size, 4, none⟩ (.int .u64 (y0 : Nat))) R D t0 := ((hq0.set (A := w1.heap.size) 3 (.int .u64 (x0 : Nat)) (by omega) (by omega)).set (A := w1.heap.size) 4 (.int .u64 (y0 : Nat)) (by omega) (by omega))
    have pe0 : Else R w ((v0.setCell ⟨w1.heap.size, 3, none⟩ (.int .u64 (x0 : Nat))).setCell ⟨w1.heap.size, 4, none⟩ (.int .u64 (y0 : Nat))) := ((qe0.setNew (A := w1.heap.size) (by omega) 3 (.int .u64 (x0 : Nat))).setNew (A := w1.heap.size) (by omega) 4 (.int .u64 (y0 : Nat)))
    clear qA0 qB0 hq0 qe0
    go_wp2_with (first | refine wpList_load_row rfl 28 _ rfl w1.heap.size rfl 28 (rqC 4 (.slice none 0 0) (.slice none 0 0) x0 y0 0 0 0) (0, 0) _ pA0 Try.underlying28 rfl info_rq ?_ | refine wpList_store_row rfl 28 _ _ rfl w.heap.size (rqC 4 (.slice none 0 0) (.slice none 0 0) x0 y0 0 0 0) rfl rfl 28 _ pB0 info_rq rfl (rqC_one _ _ _ _ _ _ _ _ rfl rfl) ?_)
    refine bodyPost_ret (v := .tuple #[.agg (rqC 4 (.slice none 0 0) (.slice none 0 0) x0 y0 0 0 0), .int .i64 0]) (results_cell_slot Try.results39 _ _ w.heap.size (rqC 4 (.slice none 0 0) (.slice none 0 0) x0 y0 0 0 0) (.int .i64 0) ?hp ?hq ?hg) rfl ⟨_, rfl, ?hw, ?hr, pe0.rowNew (Nat.le_refl _) _⟩
    case hp => rfl
    case hq => rfl
    case hg => exact run_loadVar_row _ w.heap.size 28 28 (rqC 4 (.slice none 0 0) (.slice none 0 0) x0 y0 0 0 0) (0, 0) _ (pB0.setRow _) Try.underlying28 rfl info_rq
    case hw =>
      obtain rfl := ht.out
      obtain rfl := hx0.out
      obtain rfl := hy0.out
      obtain rfl := ht0.out
      exact ⟨_, _, rfl, acs_nil _ _, trs_nil _ _⟩
    case hr =>
      have hz := pR0.setRow (A := w.heap.size) (rqC 4 (.slice none 0 0) (.slice none 0 0) x0 y0 0 0 0) (by omega) (by omega)
      obtain rfl := ht.out
      obtain rfl := hx0.out
      obtain rfl := hy0.out
      obtain rfl := ht0.out
      exact hz
  · go_enter Try.func39, Try.ntmps39
    go_wp2_with (go_at_call 29; refine stop ?_)
    rw [rq_lit]
    have rB0 : Row (w.alloc (.cells (rqC 0 (.slice none 0 0) (.slice none 0 0) 0 0 0 0 0) 28)) w.heap.size (rqC 0 (.slice none 0 0) (.slice none 0 0) 0 0 0 0 0) 28 := Row.new _ _ _ rfl
    have hR0 := h.alloc (.cells (rqC 0 (.slice none 0 0) (.slice none 0 0) 0 0 0 0 0) 28)
    have he0 : Else R w (w.alloc (.cells (rqC 0 (.slice none 0 0) (.slice none 0 0) 0 0 0 0 0) 28)) := Else.of (below1 w _)
    generalize w.alloc (.cells (rqC 0 (.slice none 0 0) (.slice none 0 0) 0 0 0 0 0) 28) = w0 at *
    refine (rint2 1 (by decide) _ rfl _ R D _ hR0).mono ?_
    rintro e w1 ⟨x, t, hx, ht, rfl, hq, hd⟩
    obtain rfl := hx.out.trans hK
    have rB1 := rB0.else hd (by omega)
    have he1 := he0.trans hd
    have z1 := rB1.lt
    clear rB0 hR0 he0 hd hx hK
    go_wp2_with (go_at_call 31; refine stop ?_)
    rw [show (#[.int .i64 5, .slice none 0 0, .slice none 0 0, .int .u64 0, .int .u64 0, .int .i64 0, .int .i64 0, .int .i64 0] : Array Value) = (rqC 5 (.slice none 0 0) (.slice none 0 0) 0 0 0 0 0) from rfl]
    have rA0 := Row.new w1 (rqC 5 (.slice none 0 0) (.slice none 0 0) 0 0 0 0 0) 28 rfl
    have rB2 := rB1.alloc (.cells (rqC 5 (.slice none 0 0) (.slice none 0 0) 0 0 0 0 0) 28)
    have hR1 := hq.alloc (.cells (rqC 5 (.slice none 0 0) (.slice none 0 0) 0 0 0 0 0) 28)
    have he2 := he1.alloc (.cells (rqC 5 (.slice none 0 0) (.slice none 0 0) 0 0 0 0 0) 28)
    have zA : w1.heap.size < (w1.alloc (.cells (rqC 5 (.slice none 0 0) (.slice none 0 0) 0 0 0 0 0) 28)).heap.size := by simp
    clear rB1 hq he1
    generalize w1.alloc (.cells (rqC 5 (.slice none 0 0) (.slice none 0 0) 0 0 0 0 0) 28) = w2 at *
    refine (rnum2 _ R D _ hR1).mono ?_
    rintro e v0 ⟨x0, y0, t0, hx0, hy0, ht0, rfl, hq0, hd0⟩
    have qA0 := rA0.else hd0 (by omega)
    have qB0 := rB2.else hd0 (by omega)
    have qe0 := he2.trans hd0
    have c00 := qA0.cell 3
    rw [show (rqC 5 (.slice none 0 0) (.slice none 0 0) 0 0 0 0 0)[3]? = some (.int .u64 (0 : Nat)) from rfl] at c00
    have f00 := qA0.frozen 3
    have c01 := qA0.cell 4
    rw [show (rqC 5 (.slice none 0 0) (.slice none 0 0) 0 0 0 0 0)[4]? = some (.int .u64 (0 : Nat)) from rfl] at c01
    have f01 := qA0.frozen 4
    clear rA0 rB2 hR1 he2 hd0
    have pA0 : Row ((v0.setCell ⟨w1.heap.size, 3, none⟩ (.int .u64 (x0 : Nat))).setCell ⟨w1.heap.size, 4, none⟩ (.int .u64 (y0 : Nat))) w1.heap.size (rqC 5 (.slice none 0 0) (.slice none 0 0) x0 y0 0 0 0) 28 := ((qA0.set 3 (.int .u64 (x0 : Nat))).set 4 (.int .u64 (y0 : Nat)))
    have pB0 : Row ((v0.setCell ⟨w1.heap.size, 3, none⟩ (.int .u64 (x0 : Nat))).setCell ⟨w1.heap.size, 4, none⟩ (.int .u64 (y0 : Nat))) w.heap.size (rqC 0 (.slice none 0 0) (.slice none 0 0) 0 0 0 0 0) 28 := ((qB0.setOther (a := ⟨w1.heap.size, 3, none⟩) (.int .u64 (x0 : Nat)) (by simp; omega)).setOther (a := ⟨w1.heap.size, 4, none⟩) (.int .u64 (y0 : Nat)) (by simp; omega))
    have pR0 : RdAt ((v0.setCell ⟨w1.heap.size, 3, none⟩ (.int .u64 (x0 : Nat))).setCell ⟨w1.heap.size, 4, none⟩ (.int .u64 (y0 : Nat))) R D t0 := ((hq0.set (A := w1.heap.size) 3 (.int .u64 (x0 : Nat)) (by omega) (by omega)).set (A := w1.heap.size) 4 (.int .u64 (y0 : Nat)) (by omega) (by omega))
    have pe0 : Else R w ((v0.setCell ⟨w1.heap.size, 3, none⟩ (.int .u64 (x0 : Nat))).setCell ⟨w1.heap.size, 4, none⟩ (.int .u64 (y0 : Nat))) := ((qe0.setNew (A := w1.heap.size) (by omega) 3 (.int .u64 (x0 : Nat))).setNew (A := w1.heap.size) (by omega) 4 (.int .u64 (y0 : Nat)))
    clear qA0 qB0 hq0 qe0
    go_wp2_with (first | refine wpList_load_row rfl 28 _ rfl w1.heap.size rfl 28 (rqC 5 (.slice none 0 0) (.slice none 0 0) x0 y0 0 0 0) (0, 0) _ pA0 Try.underlying28 rfl info_rq ?_ | refine wpList_store_row rfl 28 _ _ rfl w.heap.size (rqC 5 (.slice none 0 0) (.slice none 0 0) x0 y0 0 0 0) rfl rfl 28 _ pB0 info_rq rfl (rqC_one _ _ _ _ _ _ _ _ rfl rfl) ?_)
    refine bodyPost_ret (v := .tuple #[.agg (rqC 5 (.slice none 0 0) (.slice none 0 0) x0 y0 0 0 0), .int .i64 0]) (results_cell_slot Try.results39 _ _ w.heap.size (rqC 5 (.slice none 0 0) (.slice none 0 0) x0 y0 0 0 0) (.int .i64 0) ?hp ?hq ?hg) rfl ⟨_, rfl, ?hw, ?hr, pe0.rowNew (Nat.le_refl _) _⟩
    case hp => rfl
    case hq => rfl
    case hg => exact run_loadVar_row _ w.heap.size 28 28 (rqC 5 (.slice none 0 0) (.slice none 0 0) x0 y0 0 0 0) (0, 0) _ (pB0.setRow _) Try.underlying28 rfl info_rq
    case hw =>
      obtain rfl := ht.out
      obtain rfl := hx0.out
      obtain rfl := hy0.out
      obtain rfl := ht0.out
      exact ⟨_, _, rfl, acs_nil _ _, trs_nil _ _⟩
    case hr =>
      have hz := pR0.setRow (A := w.heap.size) (rqC 5 (.slice none 0 0) (.slice none 0 0) x0 y0 0 0 0) (by omega) (by omega)
      obtain rfl := ht.out
      obtain rfl := hx0.out
      obtain rfl := hy0.out
      obtain rfl := ht0.out
      exact hz
  · go_enter Try.func39, Try.ntmps39
    go_wp2_with (go_at_call 29; refine stop ?_)
    rw [rq_lit]
    have rB0 : Row (w.alloc (.cells (rqC 0 (.slice none 0 0) (.slice none 0 0) 0 0 0 0 0) 28)) w.heap.size (rqC 0 (.slice none 0 0) (.slice none 0 0) 0 0 0 0 0) 28 := Row.new _ _ _ rfl
    have hR0 := h.alloc (.cells (rqC 0 (.slice none 0 0) (.slice none 0 0) 0 0 0 0 0) 28)
    have he0 : Else R w (w.alloc (.cells (rqC 0 (.slice none 0 0) (.slice none 0 0) 0 0 0 0 0) 28)) := Else.of (below1 w _)
    generalize w.alloc (.cells (rqC 0 (.slice none 0 0) (.slice none 0 0) 0 0 0 0 0) 28) = w0 at *
    refine (rint2 1 (by decide) _ rfl _ R D _ hR0).mono ?_
    rintro e w1 ⟨x, t, hx, ht, rfl, hq, hd⟩
    obtain rfl := hx.out.trans hK
    have rB1 := rB0.else hd (by omega)
    have he1 := he0.trans hd
    have z1 := rB1.lt
    clear rB0 hR0 he0 hd hx hK
    go_wp2_with (go_at_call 31; refine stop ?_)
    rw [show (#[.int .i64 7, .slice none 0 0, .slice none 0 0, .int .u64 0, .int .u64 0, .int .i64 0, .int .i64 0, .int .i64 0] : Array Value) = (rqC 7 (.slice none 0 0) (.slice none 0 0) 0 0 0 0 0) from rfl]
    have rA0 := Row.new w1 (rqC 7 (.slice none 0 0) (.slice none 0 0) 0 0 0 0 0) 28 rfl
    have rB2 := rB1.alloc (.cells (rqC 7 (.slice none 0 0) (.slice none 0 0) 0 0 0 0 0) 28)
    have hR1 := hq.alloc (.cells (rqC 7 (.slice none 0 0) (.slice none 0 0) 0 0 0 0 0) 28)
    have he2 := he1.alloc (.cells (rqC 7 (.slice none 0 0) (.slice none 0 0) 0 0 0 0 0) 28)
    have zA : w1.heap.size < (w1.alloc (.cells (rqC 7 (.slice none 0 0) (.slice none 0 0) 0 0 0 0 0) 28)).heap.size := by simp
    clear rB1 hq he1
    generalize w1.alloc (.cells (rqC 7 (.slice none 0 0) (.slice none 0 0) 0 0 0 0 0) 28) = w2 at *
    refine (rnum2 _ R D _ hR1).mono ?_
    rintro e v0 ⟨x0, y0, t0, hx0, hy0, ht0, rfl, hq0, hd0⟩
    have qA0 := rA0.else hd0 (by omega)
    have qB0 := rB2.else hd0 (by omega)
    have qe0 := he2.trans hd0
    have c00 := qA0.cell 3
    rw [show (rqC 7 (.slice none 0 0) (.slice none 0 0) 0 0 0 0 0)[3]? = some (.int .u64 (0 : Nat)) from rfl] at c00
    have f00 := qA0.frozen 3
    have c01 := qA0.cell 4
    rw [show (rqC 7 (.slice none 0 0) (.slice none 0 0) 0 0 0 0 0)[4]? = some (.int .u64 (0 : Nat)) from rfl] at c01
    have f01 := qA0.frozen 4
    clear rA0 rB2 hR1 he2 hd0
    have pA0 : Row ((v0.setCell ⟨w1.heap.size, 3, none⟩ (.int .u64 (x0 : Nat))).setCell ⟨w1.heap.size, 4, none⟩ (.int .u64 (y0 : Nat))) w1.heap.size (rqC 7 (.slice none 0 0) (.slice none 0 0) x0 y0 0 0 0) 28 := ((qA0.set 3 (.int .u64 (x0 : Nat))).set 4 (.int .u64 (y0 : Nat)))
    have pB0 : Row ((v0.setCell ⟨w1.heap.size, 3, none⟩ (.int .u64 (x0 : Nat))).setCell ⟨w1.heap.size, 4, none⟩ (.int .u64 (y0 : Nat))) w.heap.size (rqC 0 (.slice none 0 0) (.slice none 0 0) 0 0 0 0 0) 28 := ((qB0.setOther (a := ⟨w1.heap.size, 3, none⟩) (.int .u64 (x0 : Nat)) (by simp; omega)).setOther (a := ⟨w1.heap.size, 4, none⟩) (.int .u64 (y0 : Nat)) (by simp; omega))
    have pR0 : RdAt ((v0.setCell ⟨w1.heap.size, 3, none⟩ (.int .u64 (x0 : Nat))).setCell ⟨w1.heap.size, 4, none⟩ (.int .u64 (y0 : Nat))) R D t0 := ((hq0.set (A := w1.heap.size) 3 (.int .u64 (x0 : Nat)) (by omega) (by omega)).set (A := w1.heap.size) 4 (.int .u64 (y0 : Nat)) (by omega) (by omega))
    have pe0 : Else R w ((v0.setCell ⟨w1.heap.size, 3, none⟩ (.int .u64 (x0 : Nat))).setCell ⟨w1.heap.size, 4, none⟩ (.int .u64 (y0 : Nat))) := ((qe0.setNew (A := w1.heap.size) (by omega) 3 (.int .u64 (x0 : Nat))).setNew (A := w1.heap.size) (by omega) 4 (.int .u64 (y0 : Nat)))
    clear qA0 qB0 hq0 qe0
    go_wp2_with (first | refine wpList_load_row rfl 28 _ rfl w1.heap.size rfl 28 (rqC 7 (.slice none 0 0) (.slice none 0 0) x0 y0 0 0 0) (0, 0) _ pA0 Try.underlying28 rfl info_rq ?_ | refine wpList_store_row rfl 28 _ _ rfl w.heap.size (rqC 7 (.slice none 0 0) (.slice none 0 0) x0 y0 0 0 0) rfl rfl 28 _ pB0 info_rq rfl (rqC_one _ _ _ _ _ _ _ _ rfl rfl) ?_)
    refine bodyPost_ret (v := .tuple #[.agg (rqC 7 (.slice none 0 0) (.slice none 0 0) x0 y0 0 0 0), .int .i64 0]) (results_cell_slot Try.results39 _ _ w.heap.size (rqC 7 (.slice none 0 0) (.slice none 0 0) x0 y0 0 0 0) (.int .i64 0) ?hp ?hq ?hg) rfl ⟨_, rfl, ?hw, ?hr, pe0.rowNew (Nat.le_refl _) _⟩
    case hp => rfl
    case hq => rfl
    case hg => exact run_loadVar_row _ w.heap.size 28 28 (rqC 7 (.slice none 0 0) (.slice none 0 0) x0 y0 0 0 0) (0, 0) _ (pB0.setRow _) Try.underlying28 rfl info_rq
    case hw =>
      obtain rfl := ht.out
      obtain rfl := hx0.out
      obtain rfl := hy0.out
      obtain rfl := ht0.out
      exact ⟨_, _, rfl, acs_nil _ _, trs_nil _ _⟩
    case hr =>
      have hz := pR0.setRow (A := w.heap.size) (rqC 7 (.slice none 0 0) (.slice none 0 0) x0 y0 0 0 0) (by omega) (by omega)
      obtain rfl := ht.out
      obtain rfl := hx0.out
      obtain rfl := hy0.out
      obtain rfl := ht0.out
      exact hz

set_option maxHeartbeats 4000000 in
theorem readF_span (w : World) (R D K : Nat) (s : List Nat × Bool) (h : RdAt w R D s) (hK : rI 1 s = K) (hk : K = 6 ∨ K = 8) :
    Calls Try.prog 39 #[.pointer (some ⟨R, 0, none⟩)] w fun e w' =>
      ∃ v, e = .returned (.tuple #[v, .int .i64 0]) ∧ RqAt w' w.heap.size v ⟨K, [], [], rHi (rDrop 1 s), rLo (rDrop 1 s), rI 6 (rDrop 16 (rDrop 1 s)), rI 6 (rDrop 6 (rDrop 16 (rDrop 1 s))), rI 1 (rDrop 6 (rDrop 6 (rDrop 16 (rDrop 1 s))))⟩ ∧ RdAt w' R D (rDrop 1 (rDrop 6 (rDrop 6 (rDrop 16 (rDrop 1 s))))) ∧ Else R w w' := by
  have hlt := h.lt
  have hdl := h.dl
  rcases hk with rfl | rfl
  · go_enter Try.func39, Try.ntmps39
    go_wp2_with (go_at_call 29; refine stop ?_)
    rw [rq_lit]
    have rB0 : Row (w.alloc (.cells (rqC 0 (.slice none 0 0) (.slice none 0 0) 0 0 0 0 0) 28)) w.heap.size (rqC 0 (.slice none 0 0) (.slice none 0 0) 0 0 0 0 0) 28 := Row.new _ _ _ rfl
    have hR0 := h.alloc (.cells (rqC 0 (.slice none 0 0) (.slice none 0 0) 0 0 0 0 0) 28)
    have he0 : Else R w (w.alloc (.cells (rqC 0 (.slice none 0 0) (.slice none 0 0) 0 0 0 0 0) 28)) := Else.of (below1 w _)
    generalize w.alloc (.cells (rqC 0 (.slice none 0 0) (.slice none 0 0) 0 0 0 0 0) 28) = w0 at *
    refine (rint2 1 (by decide) _ rfl _ R D _ hR0).mono ?_
    rintro e w1 ⟨x, t, hx, ht, rfl, hq, hd⟩
    obtain rfl := hx.out.trans hK
    have rB1 := rB0.else hd (by omega)
    have he1 := he0.trans hd
    have z1 := rB1.lt
    clear rB0 hR0 he0 hd hx hK
    go_wp2_with (go_at_call 31; refine stop ?_)
    rw [show (#[.int .i64 6, .slice none 0 0, .slice none 0 0, .int .u64 0, .int .u64 0, .int .i64 0, .int .i64 0, .int .i64 0] : Array Value) = (rqC 6 (.slice none 0 0) (.slice none 0 0) 0 0 0 0 0) from rfl]
    have rA0 := Row.new w1 (rqC 6 (.slice none 0 0) (.slice none 0 0) 0 0 0 0 0) 28 rfl
    have rB2 := rB1.alloc (.cells (rqC 6 (.slice none 0 0) (.slice none 0 0) 0 0 0 0 0) 28)
    have hR1 := hq.alloc (.cells (rqC 6 (.slice none 0 0) (.slice none 0 0) 0 0 0 0 0) 28)
    have he2 := he1.alloc (.cells (rqC 6 (.slice none 0 0) (.slice none 0 0) 0 0 0 0 0) 28)
    have zA : w1.heap.size < (w1.alloc (.cells (rqC 6 (.slice none 0 0) (.slice none 0 0) 0 0 0 0 0) 28)).heap.size := by simp
    clear rB1 hq he1
    generalize w1.alloc (.cells (rqC 6 (.slice none 0 0) (.slice none 0 0) 0 0 0 0 0) 28) = w2 at *
    refine (rnum2 _ R D _ hR1).mono ?_
    rintro e v0 ⟨x0, y0, t0, hx0, hy0, ht0, rfl, hq0, hd0⟩
    have qA0 := rA0.else hd0 (by omega)
    have qB0 := rB2.else hd0 (by omega)
    have qe0 := he2.trans hd0
    have c00 := qA0.cell 3
    rw [show (rqC 6 (.slice none 0 0) (.slice none 0 0) 0 0 0 0 0)[3]? = some (.int .u64 (0 : Nat)) from rfl] at c00
    have f00 := qA0.frozen 3
    have c01 := qA0.cell 4
    rw [show (rqC 6 (.slice none 0 0) (.slice none 0 0) 0 0 0 0 0)[4]? = some (.int .u64 (0 : Nat)) from rfl] at c01
    have f01 := qA0.frozen 4
    clear rA0 rB2 hR1 he2 hd0
    have pA0 : Row ((v0.setCell ⟨w1.heap.size, 3, none⟩ (.int .u64 (x0 : Nat))).setCell ⟨w1.heap.size, 4, none⟩ (.int .u64 (y0 : Nat))) w1.heap.size (rqC 6 (.slice none 0 0) (.slice none 0 0) x0 y0 0 0 0) 28 := ((qA0.set 3 (.int .u64 (x0 : Nat))).set 4 (.int .u64 (y0 : Nat)))
    have pB0 : Row ((v0.setCell ⟨w1.heap.size, 3, none⟩ (.int .u64 (x0 : Nat))).setCell ⟨w1.heap.size, 4, none⟩ (.int .u64 (y0 : Nat))) w.heap.size (rqC 0 (.slice none 0 0) (.slice none 0 0) 0 0 0 0 0) 28 := ((qB0.setOther (a := ⟨w1.heap.size, 3, none⟩) (.int .u64 (x0 : Nat)) (by simp; omega)).setOther (a := ⟨w1.heap.size, 4, none⟩) (.int .u64 (y0 : Nat)) (by simp; omega))
    have pR0 : RdAt ((v0.setCell ⟨w1.heap.size, 3, none⟩ (.int .u64 (x0 : Nat))).setCell ⟨w1.heap.size, 4, none⟩ (.int .u64 (y0 : Nat))) R D t0 := ((hq0.set (A := w1.heap.size) 3 (.int .u64 (x0 : Nat)) (by omega) (by omega)).set (A := w1.heap.size) 4 (.int .u64 (y0 : Nat)) (by omega) (by omega))
    have pe0 : Else R w ((v0.setCell ⟨w1.heap.size, 3, none⟩ (.int .u64 (x0 : Nat))).setCell ⟨w1.heap.size, 4, none⟩ (.int .u64 (y0 : Nat))) := ((qe0.setNew (A := w1.heap.size) (by omega) 3 (.int .u64 (x0 : Nat))).setNew (A := w1.heap.size) (by omega) 4 (.int .u64 (y0 : Nat)))
    clear qA0 qB0 hq0 qe0
    go_wp2_with (go_at_call 29; refine stop ?_)
    refine (rint2 6 (by decide) _ rfl _ R D _ pR0).mono ?_
    rintro e v1 ⟨x1, t1, hx1, ht1, rfl, hq1, hd1⟩
    have qA1 := pA0.else hd1 (by omega)
    have qB1 := pB0.else hd1 (by omega)
    have qe1 := pe0.trans hd1
    have c10 := qA1.cell 5
    rw [show (rqC 6 (.slice none 0 0) (.slice none 0 0) x0 y0 0 0 0)[5]? = some (.int .i64 (0 : Nat)) from rfl] at c10
    have f10 := qA1.frozen 5
    clear pA0 pB0 pR0 pe0 hd1
    have pA1 : Row (v1.setCell ⟨w1.heap.size, 5, none⟩ (.int .i64 (x1 : Nat))) w1.heap.size (rqC 6 (.slice none 0 0) (.slice none 0 0) x0 y0 x1 0 0) 28 := (qA1.set 5 (.int .i64 (x1 : Nat)))
    have pB1 : Row (v1.setCell ⟨w1.heap.size, 5, none⟩ (.int .i64 (x1 : Nat))) w.heap.size (rqC 0 (.slice none 0 0) (.slice none 0 0) 0 0 0 0 0) 28 := (qB1.setOther (a := ⟨w1.heap.size, 5, none⟩) (.int .i64 (x1 : Nat)) (by simp; omega))
    have pR1 : RdAt (v1.setCell ⟨w1.heap.size, 5, none⟩ (.int .i64 (x1 : Nat))) R D t1 := (hq1.set (A := w1.heap.size) 5 (.int .i64 (x1 : Nat)) (by omega) (by omega))
    have pe1 : Else R w (v1.setCell ⟨w1.heap.size, 5, none⟩ (.int .i64 (x1 : Nat))) := (qe1.setNew (A := w1.heap.size) (by omega) 5 (.int .i64 (x1 : Nat)))
    clear qA1 qB1 hq1 qe1
    go_wp2_with (go_at_call 29; refine stop ?_)
    refine (rint2 6 (by decide) _ rfl _ R D _ pR1).mono ?_
    rintro e v2 ⟨x2, t2, hx2, ht2, rfl, hq2, hd2⟩
    have qA2 := pA1.else hd2 (by omega)
    have qB2 := pB1.else hd2 (by omega)
    have qe2 := pe1.trans hd2
    have c20 := qA2.cell 6
    rw [show (rqC 6 (.slice none 0 0) (.slice none 0 0) x0 y0 x1 0 0)[6]? = some (.int .i64 (0 : Nat)) from rfl] at c20
    have f20 := qA2.frozen 6
    clear pA1 pB1 pR1 pe1 hd2
    have pA2 : Row (v2.setCell ⟨w1.heap.size, 6, none⟩ (.int .i64 (x2 : Nat))) w1.heap.size (rqC 6 (.slice none 0 0) (.slice none 0 0) x0 y0 x1 x2 0) 28 := (qA2.set 6 (.int .i64 (x2 : Nat)))
    have pB2 : Row (v2.setCell ⟨w1.heap.size, 6, none⟩ (.int .i64 (x2 : Nat))) w.heap.size (rqC 0 (.slice none 0 0) (.slice none 0 0) 0 0 0 0 0) 28 := (qB2.setOther (a := ⟨w1.heap.size, 6, none⟩) (.int .i64 (x2 : Nat)) (by simp; omega))
    have pR2 : RdAt (v2.setCell ⟨w1.heap.size, 6, none⟩ (.int .i64 (x2 : Nat))) R D t2 := (hq2.set (A := w1.heap.size) 6 (.int .i64 (x2 : Nat)) (by omega) (by omega))
    have pe2 : Else R w (v2.setCell ⟨w1.heap.size, 6, none⟩ (.int .i64 (x2 : Nat))) := (qe2.setNew (A := w1.heap.size) (by omega) 6 (.int .i64 (x2 : Nat)))
    clear qA2 qB2 hq2 qe2
    go_wp2_with (go_at_call 29; refine stop ?_)
    refine (rint2 1 (by decide) _ rfl _ R D _ pR2).mono ?_
    rintro e v3 ⟨x3, t3, hx3, ht3, rfl, hq3, hd3⟩
    have qA3 := pA2.else hd3 (by omega)
    have qB3 := pB2.else hd3 (by omega)
    have qe3 := pe2.trans hd3
    have c30 := qA3.cell 7
    rw [show (rqC 6 (.slice none 0 0) (.slice none 0 0) x0 y0 x1 x2 0)[7]? = some (.int .i64 (0 : Nat)) from rfl] at c30
    have f30 := qA3.frozen 7
    clear pA2 pB2 pR2 pe2 hd3
    have pA3 : Row (v3.setCell ⟨w1.heap.size, 7, none⟩ (.int .i64 (x3 : Nat))) w1.heap.size (rqC 6 (.slice none 0 0) (.slice none 0 0) x0 y0 x1 x2 x3) 28 := (qA3.set 7 (.int .i64 (x3 : Nat)))
    have pB3 : Row (v3.setCell ⟨w1.heap.size, 7, none⟩ (.int .i64 (x3 : Nat))) w.heap.size (rqC 0 (.slice none 0 0) (.slice none 0 0) 0 0 0 0 0) 28 := (qB3.setOther (a := ⟨w1.heap.size, 7, none⟩) (.int .i64 (x3 : Nat)) (by simp; omega))
    have pR3 : RdAt (v3.setCell ⟨w1.heap.size, 7, none⟩ (.int .i64 (x3 : Nat))) R D t3 := (hq3.set (A := w1.heap.size) 7 (.int .i64 (x3 : Nat)) (by omega) (by omega))
    have pe3 : Else R w (v3.setCell ⟨w1.heap.size, 7, none⟩ (.int .i64 (x3 : Nat))) := (qe3.setNew (A := w1.heap.size) (by omega) 7 (.int .i64 (x3 : Nat)))
    clear qA3 qB3 hq3 qe3
    go_wp2_with (first | refine wpList_load_row rfl 28 _ rfl w1.heap.size rfl 28 (rqC 6 (.slice none 0 0) (.slice none 0 0) x0 y0 x1 x2 x3) (0, 0) _ pA3 Try.underlying28 rfl info_rq ?_ | refine wpList_store_row rfl 28 _ _ rfl w.heap.size (rqC 6 (.slice none 0 0) (.slice none 0 0) x0 y0 x1 x2 x3) rfl rfl 28 _ pB3 info_rq rfl (rqC_one _ _ _ _ _ _ _ _ rfl rfl) ?_)
    refine bodyPost_ret (v := .tuple #[.agg (rqC 6 (.slice none 0 0) (.slice none 0 0) x0 y0 x1 x2 x3), .int .i64 0]) (results_cell_slot Try.results39 _ _ w.heap.size (rqC 6 (.slice none 0 0) (.slice none 0 0) x0 y0 x1 x2 x3) (.int .i64 0) ?hp ?hq ?hg) rfl ⟨_, rfl, ?hw, ?hr, pe3.rowNew (Nat.le_refl _) _⟩
    case hp => rfl
    case hq => rfl
    case hg => exact run_loadVar_row _ w.heap.size 28 28 (rqC 6 (.slice none 0 0) (.slice none 0 0) x0 y0 x1 x2 x3) (0, 0) _ (pB3.setRow _) Try.underlying28 rfl info_rq
    case hw =>
      obtain rfl := ht.out
      obtain rfl := hx0.out
      obtain rfl := hy0.out
      obtain rfl := ht0.out
      obtain rfl := hx1.out
      obtain rfl := ht1.out
      obtain rfl := hx2.out
      obtain rfl := ht2.out
      obtain rfl := hx3.out
      obtain rfl := ht3.out
      exact ⟨_, _, rfl, acs_nil _ _, trs_nil _ _⟩
    case hr =>
      have hz := pR3.setRow (A := w.heap.size) (rqC 6 (.slice none 0 0) (.slice none 0 0) x0 y0 x1 x2 x3) (by omega) (by omega)
      obtain rfl := ht.out
      obtain rfl := hx0.out
      obtain rfl := hy0.out
      obtain rfl := ht0.out
      obtain rfl := hx1.out
      obtain rfl := ht1.out
      obtain rfl := hx2.out
      obtain rfl := ht2.out
      obtain rfl := hx3.out
      obtain rfl := ht3.out
      exact hz
  · go_enter Try.func39, Try.ntmps39
    go_wp2_with (go_at_call 29; refine stop ?_)
    rw [rq_lit]
    have rB0 : Row (w.alloc (.cells (rqC 0 (.slice none 0 0) (.slice none 0 0) 0 0 0 0 0) 28)) w.heap.size (rqC 0 (.slice none 0 0) (.slice none 0 0) 0 0 0 0 0) 28 := Row.new _ _ _ rfl
    have hR0 := h.alloc (.cells (rqC 0 (.slice none 0 0) (.slice none 0 0) 0 0 0 0 0) 28)
    have he0 : Else R w (w.alloc (.cells (rqC 0 (.slice none 0 0) (.slice none 0 0) 0 0 0 0 0) 28)) := Else.of (below1 w _)
    generalize w.alloc (.cells (rqC 0 (.slice none 0 0) (.slice none 0 0) 0 0 0 0 0) 28) = w0 at *
    refine (rint2 1 (by decide) _ rfl _ R D _ hR0).mono ?_
    rintro e w1 ⟨x, t, hx, ht, rfl, hq, hd⟩
    obtain rfl := hx.out.trans hK
    have rB1 := rB0.else hd (by omega)
    have he1 := he0.trans hd
    have z1 := rB1.lt
    clear rB0 hR0 he0 hd hx hK
    go_wp2_with (go_at_call 31; refine stop ?_)
    rw [show (#[.int .i64 8, .slice none 0 0, .slice none 0 0, .int .u64 0, .int .u64 0, .int .i64 0, .int .i64 0, .int .i64 0] : Array Value) = (rqC 8 (.slice none 0 0) (.slice none 0 0) 0 0 0 0 0) from rfl]
    have rA0 := Row.new w1 (rqC 8 (.slice none 0 0) (.slice none 0 0) 0 0 0 0 0) 28 rfl
    have rB2 := rB1.alloc (.cells (rqC 8 (.slice none 0 0) (.slice none 0 0) 0 0 0 0 0) 28)
    have hR1 := hq.alloc (.cells (rqC 8 (.slice none 0 0) (.slice none 0 0) 0 0 0 0 0) 28)
    have he2 := he1.alloc (.cells (rqC 8 (.slice none 0 0) (.slice none 0 0) 0 0 0 0 0) 28)
    have zA : w1.heap.size < (w1.alloc (.cells (rqC 8 (.slice none 0 0) (.slice none 0 0) 0 0 0 0 0) 28)).heap.size := by simp
    clear rB1 hq he1
    generalize w1.alloc (.cells (rqC 8 (.slice none 0 0) (.slice none 0 0) 0 0 0 0 0) 28) = w2 at *
    refine (rnum2 _ R D _ hR1).mono ?_
    rintro e v0 ⟨x0, y0, t0, hx0, hy0, ht0, rfl, hq0, hd0⟩
    have qA0 := rA0.else hd0 (by omega)
    have qB0 := rB2.else hd0 (by omega)
    have qe0 := he2.trans hd0
    have c00 := qA0.cell 3
    rw [show (rqC 8 (.slice none 0 0) (.slice none 0 0) 0 0 0 0 0)[3]? = some (.int .u64 (0 : Nat)) from rfl] at c00
    have f00 := qA0.frozen 3
    have c01 := qA0.cell 4
    rw [show (rqC 8 (.slice none 0 0) (.slice none 0 0) 0 0 0 0 0)[4]? = some (.int .u64 (0 : Nat)) from rfl] at c01
    have f01 := qA0.frozen 4
    clear rA0 rB2 hR1 he2 hd0
    have pA0 : Row ((v0.setCell ⟨w1.heap.size, 3, none⟩ (.int .u64 (x0 : Nat))).setCell ⟨w1.heap.size, 4, none⟩ (.int .u64 (y0 : Nat))) w1.heap.size (rqC 8 (.slice none 0 0) (.slice none 0 0) x0 y0 0 0 0) 28 := ((qA0.set 3 (.int .u64 (x0 : Nat))).set 4 (.int .u64 (y0 : Nat)))
    have pB0 : Row ((v0.setCell ⟨w1.heap.size, 3, none⟩ (.int .u64 (x0 : Nat))).setCell ⟨w1.heap.size, 4, none⟩ (.int .u64 (y0 : Nat))) w.heap.size (rqC 0 (.slice none 0 0) (.slice none 0 0) 0 0 0 0 0) 28 := ((qB0.setOther (a := ⟨w1.heap.size, 3, none⟩) (.int .u64 (x0 : Nat)) (by simp; omega)).setOther (a := ⟨w1.heap.size, 4, none⟩) (.int .u64 (y0 : Nat)) (by simp; omega))
    have pR0 : RdAt ((v0.setCell ⟨w1.heap.size, 3, none⟩ (.int .u64 (x0 : Nat))).setCell ⟨w1.heap.size, 4, none⟩ (.int .u64 (y0 : Nat))) R D t0 := ((hq0.set (A := w1.heap.size) 3 (.int .u64 (x0 : Nat)) (by omega) (by omega)).set (A := w1.heap.size) 4 (.int .u64 (y0 : Nat)) (by omega) (by omega))
    have pe0 : Else R w ((v0.setCell ⟨w1.heap.size, 3, none⟩ (.int .u64 (x0 : Nat))).setCell ⟨w1.heap.size, 4, none⟩ (.int .u64 (y0 : Nat))) := ((qe0.setNew (A := w1.heap.size) (by omega) 3 (.int .u64 (x0 : Nat))).setNew (A := w1.heap.size) (by omega) 4 (.int .u64 (y0 : Nat)))
    clear qA0 qB0 hq0 qe0
    go_wp2_with (go_at_call 29; refine stop ?_)
    refine (rint2 6 (by decide) _ rfl _ R D _ pR0).mono ?_
    rintro e v1 ⟨x1, t1, hx1, ht1, rfl, hq1, hd1⟩
    have qA1 := pA0.else hd1 (by omega)
    have qB1 := pB0.else hd1 (by omega)
    have qe1 := pe0.trans hd1
    have c10 := qA1.cell 5
    rw [show (rqC 8 (.slice none 0 0) (.slice none 0 0) x0 y0 0 0 0)[5]? = some (.int .i64 (0 : Nat)) from rfl] at c10
    have f10 := qA1.frozen 5
    clear pA0 pB0 pR0 pe0 hd1
    have pA1 : Row (v1.setCell ⟨w1.heap.size, 5, none⟩ (.int .i64 (x1 : Nat))) w1.heap.size (rqC 8 (.slice none 0 0) (.slice none 0 0) x0 y0 x1 0 0) 28 := (qA1.set 5 (.int .i64 (x1 : Nat)))
    have pB1 : Row (v1.setCell ⟨w1.heap.size, 5, none⟩ (.int .i64 (x1 : Nat))) w.heap.size (rqC 0 (.slice none 0 0) (.slice none 0 0) 0 0 0 0 0) 28 := (qB1.setOther (a := ⟨w1.heap.size, 5, none⟩) (.int .i64 (x1 : Nat)) (by simp; omega))
    have pR1 : RdAt (v1.setCell ⟨w1.heap.size, 5, none⟩ (.int .i64 (x1 : Nat))) R D t1 := (hq1.set (A := w1.heap.size) 5 (.int .i64 (x1 : Nat)) (by omega) (by omega))
    have pe1 : Else R w (v1.setCell ⟨w1.heap.size, 5, none⟩ (.int .i64 (x1 : Nat))) := (qe1.setNew (A := w1.heap.size) (by omega) 5 (.int .i64 (x1 : Nat)))
    clear qA1 qB1 hq1 qe1
    go_wp2_with (go_at_call 29; refine stop ?_)
    refine (rint2 6 (by decide) _ rfl _ R D _ pR1).mono ?_
    rintro e v2 ⟨x2, t2, hx2, ht2, rfl, hq2, hd2⟩
    have qA2 := pA1.else hd2 (by omega)
    have qB2 := pB1.else hd2 (by omega)
    have qe2 := pe1.trans hd2
    have c20 := qA2.cell 6
    rw [show (rqC 8 (.slice none 0 0) (.slice none 0 0) x0 y0 x1 0 0)[6]? = some (.int .i64 (0 : Nat)) from rfl] at c20
    have f20 := qA2.frozen 6
    clear pA1 pB1 pR1 pe1 hd2
    have pA2 : Row (v2.setCell ⟨w1.heap.size, 6, none⟩ (.int .i64 (x2 : Nat))) w1.heap.size (rqC 8 (.slice none 0 0) (.slice none 0 0) x0 y0 x1 x2 0) 28 := (qA2.set 6 (.int .i64 (x2 : Nat)))
    have pB2 : Row (v2.setCell ⟨w1.heap.size, 6, none⟩ (.int .i64 (x2 : Nat))) w.heap.size (rqC 0 (.slice none 0 0) (.slice none 0 0) 0 0 0 0 0) 28 := (qB2.setOther (a := ⟨w1.heap.size, 6, none⟩) (.int .i64 (x2 : Nat)) (by simp; omega))
    have pR2 : RdAt (v2.setCell ⟨w1.heap.size, 6, none⟩ (.int .i64 (x2 : Nat))) R D t2 := (hq2.set (A := w1.heap.size) 6 (.int .i64 (x2 : Nat)) (by omega) (by omega))
    have pe2 : Else R w (v2.setCell ⟨w1.heap.size, 6, none⟩ (.int .i64 (x2 : Nat))) := (qe2.setNew (A := w1.heap.size) (by omega) 6 (.int .i64 (x2 : Nat)))
    clear qA2 qB2 hq2 qe2
    go_wp2_with (go_at_call 29; refine stop ?_)
    refine (rint2 1 (by decide) _ rfl _ R D _ pR2).mono ?_
    rintro e v3 ⟨x3, t3, hx3, ht3, rfl, hq3, hd3⟩
    have qA3 := pA2.else hd3 (by omega)
    have qB3 := pB2.else hd3 (by omega)
    have qe3 := pe2.trans hd3
    have c30 := qA3.cell 7
    rw [show (rqC 8 (.slice none 0 0) (.slice none 0 0) x0 y0 x1 x2 0)[7]? = some (.int .i64 (0 : Nat)) from rfl] at c30
    have f30 := qA3.frozen 7
    clear pA2 pB2 pR2 pe2 hd3
    have pA3 : Row (v3.setCell ⟨w1.heap.size, 7, none⟩ (.int .i64 (x3 : Nat))) w1.heap.size (rqC 8 (.slice none 0 0) (.slice none 0 0) x0 y0 x1 x2 x3) 28 := (qA3.set 7 (.int .i64 (x3 : Nat)))
    have pB3 : Row (v3.setCell ⟨w1.heap.size, 7, none⟩ (.int .i64 (x3 : Nat))) w.heap.size (rqC 0 (.slice none 0 0) (.slice none 0 0) 0 0 0 0 0) 28 := (qB3.setOther (a := ⟨w1.heap.size, 7, none⟩) (.int .i64 (x3 : Nat)) (by simp; omega))
    have pR3 : RdAt (v3.setCell ⟨w1.heap.size, 7, none⟩ (.int .i64 (x3 : Nat))) R D t3 := (hq3.set (A := w1.heap.size) 7 (.int .i64 (x3 : Nat)) (by omega) (by omega))
    have pe3 : Else R w (v3.setCell ⟨w1.heap.size, 7, none⟩ (.int .i64 (x3 : Nat))) := (qe3.setNew (A := w1.heap.size) (by omega) 7 (.int .i64 (x3 : Nat)))
    clear qA3 qB3 hq3 qe3
    go_wp2_with (first | refine wpList_load_row rfl 28 _ rfl w1.heap.size rfl 28 (rqC 8 (.slice none 0 0) (.slice none 0 0) x0 y0 x1 x2 x3) (0, 0) _ pA3 Try.underlying28 rfl info_rq ?_ | refine wpList_store_row rfl 28 _ _ rfl w.heap.size (rqC 8 (.slice none 0 0) (.slice none 0 0) x0 y0 x1 x2 x3) rfl rfl 28 _ pB3 info_rq rfl (rqC_one _ _ _ _ _ _ _ _ rfl rfl) ?_)
    refine bodyPost_ret (v := .tuple #[.agg (rqC 8 (.slice none 0 0) (.slice none 0 0) x0 y0 x1 x2 x3), .int .i64 0]) (results_cell_slot Try.results39 _ _ w.heap.size (rqC 8 (.slice none 0 0) (.slice none 0 0) x0 y0 x1 x2 x3) (.int .i64 0) ?hp ?hq ?hg) rfl ⟨_, rfl, ?hw, ?hr, pe3.rowNew (Nat.le_refl _) _⟩
    case hp => rfl
    case hq => rfl
    case hg => exact run_loadVar_row _ w.heap.size 28 28 (rqC 8 (.slice none 0 0) (.slice none 0 0) x0 y0 x1 x2 x3) (0, 0) _ (pB3.setRow _) Try.underlying28 rfl info_rq
    case hw =>
      obtain rfl := ht.out
      obtain rfl := hx0.out
      obtain rfl := hy0.out
      obtain rfl := ht0.out
      obtain rfl := hx1.out
      obtain rfl := ht1.out
      obtain rfl := hx2.out
      obtain rfl := ht2.out
      obtain rfl := hx3.out
      obtain rfl := ht3.out
      exact ⟨_, _, rfl, acs_nil _ _, trs_nil _ _⟩
    case hr =>
      have hz := pR3.setRow (A := w.heap.size) (rqC 8 (.slice none 0 0) (.slice none 0 0) x0 y0 x1 x2 x3) (by omega) (by omega)
      obtain rfl := ht.out
      obtain rfl := hx0.out
      obtain rfl := hy0.out
      obtain rfl := ht0.out
      obtain rfl := hx1.out
      obtain rfl := ht1.out
      obtain rfl := hx2.out
      obtain rfl := ht2.out
      obtain rfl := hx3.out
      obtain rfl := ht3.out
      exact hz

set_option maxHeartbeats 4000000 in
theorem readF_grow (w : World) (R D K : Nat) (s : List Nat × Bool) (h : RdAt w R D s) (hK : rI 1 s = K) (hk : K = 9) :
    Calls Try.prog 39 #[.pointer (some ⟨R, 0, none⟩)] w fun e w' =>
      ∃ v, e = .returned (.tuple #[v, .int .i64 0]) ∧ RqAt w' w.heap.size v ⟨K, [], [], 0, 0, rI 4 (rDrop 1 s), rI 4 (rDrop 4 (rDrop 1 s)), 0⟩ ∧ RdAt w' R D (rDrop 4 (rDrop 4 (rDrop 1 s))) ∧ Else R w w' := by
  have hlt := h.lt
  have hdl := h.dl
  subst hk
  go_enter Try.func39, Try.ntmps39
  go_wp2_with (go_at_call 29; refine stop ?_)
  rw [rq_lit]
  have rB0 : Row (w.alloc (.cells (rqC 0 (.slice none 0 0) (.slice none 0 0) 0 0 0 0 0) 28)) w.heap.size (rqC 0 (.slice none 0 0) (.slice none 0 0) 0 0 0 0 0) 28 := Row.new _ _ _ rfl
  have hR0 := h.alloc (.cells (rqC 0 (.slice none 0 0) (.slice none 0 0) 0 0 0 0 0) 28)
  have he0 : Else R w (w.alloc (.cells (rqC 0 (.slice none 0 0) (.slice none 0 0) 0 0 0 0 0) 28)) := Else.of (below1 w _)
  generalize w.alloc (.cells (rqC 0 (.slice none 0 0) (.slice none 0 0) 0 0 0 0 0) 28) = w0 at *
  refine (rint2 1 (by decide) _ rfl _ R D _ hR0).mono ?_
  rintro e w1 ⟨x, t, hx, ht, rfl, hq, hd⟩
  obtain rfl := hx.out.trans hK
  have rB1 := rB0.else hd (by omega)
  have he1 := he0.trans hd
  have z1 := rB1.lt
  clear rB0 hR0 he0 hd hx hK
  go_wp2_with (go_at_call 29; refine stop ?_)
  rw [show (#[.int .i64 9, .slice none 0 0, .slice none 0 0, .int .u64 0, .int .u64 0, .int .i64 0, .int .i64 0, .int .i64 0] : Array Value) = (rqC 9 (.slice none 0 0) (.slice none 0 0) 0 0 0 0 0) from rfl]
  have rA0 := Row.new w1 (rqC 9 (.slice none 0 0) (.slice none 0 0) 0 0 0 0 0) 28 rfl
  have rB2 := rB1.alloc (.cells (rqC 9 (.slice none 0 0) (.slice none 0 0) 0 0 0 0 0) 28)
  have hR1 := hq.alloc (.cells (rqC 9 (.slice none 0 0) (.slice none 0 0) 0 0 0 0 0) 28)
  have he2 := he1.alloc (.cells (rqC 9 (.slice none 0 0) (.slice none 0 0) 0 0 0 0 0) 28)
  have zA : w1.heap.size < (w1.alloc (.cells (rqC 9 (.slice none 0 0) (.slice none 0 0) 0 0 0 0 0) 28)).heap.size := by simp
  clear rB1 hq he1
  generalize w1.alloc (.cells (rqC 9 (.slice none 0 0) (.slice none 0 0) 0 0 0 0 0) 28) = w2 at *
  refine (rint2 4 (by decide) _ rfl _ R D _ hR1).mono ?_
  rintro e v0 ⟨x0, t0, hx0, ht0, rfl, hq0, hd0⟩
  have qA0 := rA0.else hd0 (by omega)
  have qB0 := rB2.else hd0 (by omega)
  have qe0 := he2.trans hd0
  have c00 := qA0.cell 5
  rw [show (rqC 9 (.slice none 0 0) (.slice none 0 0) 0 0 0 0 0)[5]? = some (.int .i64 (0 : Nat)) from rfl] at c00
  have f00 := qA0.frozen 5
  clear rA0 rB2 hR1 he2 hd0
  have pA0 : Row (v0.setCell ⟨w1.heap.size, 5, none⟩ (.int .i64 (x0 : Nat))) w1.heap.size (rqC 9 (.slice none 0 0) (.slice none 0 0) 0 0 x0 0 0) 28 := (qA0.set 5 (.int .i64 (x0 : Nat)))
  have pB0 : Row (v0.setCell ⟨w1.heap.size, 5, none⟩ (.int .i64 (x0 : Nat))) w.heap.size (rqC 0 (.slice none 0 0) (.slice none 0 0) 0 0 0 0 0) 28 := (qB0.setOther (a := ⟨w1.heap.size, 5, none⟩) (.int .i64 (x0 : Nat)) (by simp; omega))
  have pR0 : RdAt (v0.setCell ⟨w1.heap.size, 5, none⟩ (.int .i64 (x0 : Nat))) R D t0 := (hq0.set (A := w1.heap.size) 5 (.int .i64 (x0 : Nat)) (by omega) (by omega))
  have pe0 : Else R w (v0.setCell ⟨w1.heap.size, 5, none⟩ (.int .i64 (x0 : Nat))) := (qe0.setNew (A := w1.heap.size) (by omega) 5 (.int .i64 (x0 : Nat)))
  clear qA0 qB0 hq0 qe0
  go_wp2_with (go_at_call 29; refine stop ?_)
  refine (rint2 4 (by decide) _ rfl _ R D _ pR0).mono ?_
  rintro e v1 ⟨x1, t1, hx1, ht1, rfl, hq1, hd1⟩
  have qA1 := pA0.else hd1 (by omega)
  have qB1 := pB0.else hd1 (by omega)
  have qe1 := pe0.trans hd1
  have c10 := qA1.cell 6
  rw [show (rqC 9 (.slice none 0 0) (.slice none 0 0) 0 0 x0 0 0)[6]? = some (.int .i64 (0 : Nat)) from rfl] at c10
  have f10 := qA1.frozen 6
  clear pA0 pB0 pR0 pe0 hd1
  have pA1 : Row (v1.setCell ⟨w1.heap.size, 6, none⟩ (.int .i64 (x1 : Nat))) w1.heap.size (rqC 9 (.slice none 0 0) (.slice none 0 0) 0 0 x0 x1 0) 28 := (qA1.set 6 (.int .i64 (x1 : Nat)))
  have pB1 : Row (v1.setCell ⟨w1.heap.size, 6, none⟩ (.int .i64 (x1 : Nat))) w.heap.size (rqC 0 (.slice none 0 0) (.slice none 0 0) 0 0 0 0 0) 28 := (qB1.setOther (a := ⟨w1.heap.size, 6, none⟩) (.int .i64 (x1 : Nat)) (by simp; omega))
  have pR1 : RdAt (v1.setCell ⟨w1.heap.size, 6, none⟩ (.int .i64 (x1 : Nat))) R D t1 := (hq1.set (A := w1.heap.size) 6 (.int .i64 (x1 : Nat)) (by omega) (by omega))
  have pe1 : Else R w (v1.setCell ⟨w1.heap.size, 6, none⟩ (.int .i64 (x1 : Nat))) := (qe1.setNew (A := w1.heap.size) (by omega) 6 (.int .i64 (x1 : Nat)))
  clear qA1 qB1 hq1 qe1
  go_wp2_with (first | refine wpList_load_row rfl 28 _ rfl w1.heap.size rfl 28 (rqC 9 (.slice none 0 0) (.slice none 0 0) 0 0 x0 x1 0) (0, 0) _ pA1 Try.underlying28 rfl info_rq ?_ | refine wpList_store_row rfl 28 _ _ rfl w.heap.size (rqC 9 (.slice none 0 0) (.slice none 0 0) 0 0 x0 x1 0) rfl rfl 28 _ pB1 info_rq rfl (rqC_one _ _ _ _ _ _ _ _ rfl rfl) ?_)
  refine bodyPost_ret (v := .tuple #[.agg (rqC 9 (.slice none 0 0) (.slice none 0 0) 0 0 x0 x1 0), .int .i64 0]) (results_cell_slot Try.results39 _ _ w.heap.size (rqC 9 (.slice none 0 0) (.slice none 0 0) 0 0 x0 x1 0) (.int .i64 0) ?hp ?hq ?hg) rfl ⟨_, rfl, ?hw, ?hr, pe1.rowNew (Nat.le_refl _) _⟩
  case hp => rfl
  case hq => rfl
  case hg => exact run_loadVar_row _ w.heap.size 28 28 (rqC 9 (.slice none 0 0) (.slice none 0 0) 0 0 x0 x1 0) (0, 0) _ (pB1.setRow _) Try.underlying28 rfl info_rq
  case hw =>
    obtain rfl := ht.out
    obtain rfl := hx0.out
    obtain rfl := ht0.out
    obtain rfl := hx1.out
    obtain rfl := ht1.out
    exact ⟨_, _, rfl, acs_nil _ _, trs_nil _ _⟩
  case hr =>
    have hz := pR1.setRow (A := w.heap.size) (rqC 9 (.slice none 0 0) (.slice none 0 0) 0 0 x0 x1 0) (by omega) (by omega)
    obtain rfl := ht.out
    obtain rfl := hx0.out
    obtain rfl := ht0.out
    obtain rfl := hx1.out
    obtain rfl := ht1.out
    exact hz

set_option maxHeartbeats 4000000 in
theorem readF_none (w : World) (R D K : Nat) (s : List Nat × Bool) (h : RdAt w R D s) (hK : rI 1 s = K) (hk : K ≠ 1 ∧ K ≠ 2 ∧ K ≠ 3 ∧ K ≠ 4 ∧ K ≠ 5 ∧ K ≠ 6 ∧ K ≠ 7 ∧ K ≠ 8 ∧ K ≠ 9) :
    Calls Try.prog 39 #[.pointer (some ⟨R, 0, none⟩)] w fun e w' =>
      ∃ v, e = .returned (.tuple #[v, .int .i64 1]) ∧ RqAt w' w.heap.size v ⟨K, [], [], 0, 0, 0, 0, 0⟩ ∧ RdAt w' R D (rDrop 1 s) ∧ Else R w w' := by
  have hlt := h.lt
  have hdl := h.dl
  obtain ⟨n1, n2, n3, n4, n5, n6, n7, n8, n9⟩ := hk
  have m1 : ((K : Int) == 1) = false := by simp; omega
  have m2 : ((K : Int) == 2) = false := by simp; omega
  have m3 : ((K : Int) == 3) = false := by simp; omega
  have m4 : ((K : Int) == 4) = false := by simp; omega
  have m5 : ((K : Int) == 5) = false := by simp; omega
  have m6 : ((K : Int) == 6) = false := by simp; omega
  have m7 : ((K : Int) == 7) = false := by simp; omega
  have m8 : ((K : Int) == 8) = false := by simp; omega
  have m9 : ((K : Int) == 9) = false := by simp; omega
  go_enter Try.func39, Try.ntmps39
  go_wp2_with (go_at_call 29; refine stop ?_)
  rw [rq_lit]
  have rB0 : Row (w.alloc (.cells (rqC 0 (.slice none 0 0) (.slice none 0 0) 0 0 0 0 0) 28)) w.heap.size (rqC 0 (.slice none 0 0) (.slice none 0 0) 0 0 0 0 0) 28 := Row.new _ _ _ rfl
  have hR0 := h.alloc (.cells (rqC 0 (.slice none 0 0) (.slice none 0 0) 0 0 0 0 0) 28)
  have he0 : Else R w (w.alloc (.cells (rqC 0 (.slice none 0 0) (.slice none 0 0) 0 0 0 0 0) 28)) := Else.of (below1 w _)
  generalize w.alloc (.cells (rqC 0 (.slice none 0 0) (.slice none 0 0) 0 0 0 0 0) 28) = w0 at *
  refine (rint2 1 (by decide) _ rfl _ R D _ hR0).mono ?_
  rintro e w1 ⟨x, t, hx, ht, rfl, hq, hd⟩
  obtain rfl := hx.out.trans hK
  have rB1 := rB0.else hd (by omega)
  have he1 := he0.trans hd
  have z1 := rB1.lt
  clear rB0 hR0 he0 hd hx hK
  have rA0 := Row.new w1 (rqC x (.slice none 0 0) (.slice none 0 0) 0 0 0 0 0) 28 rfl
  have rB2 := rB1.alloc (.cells (rqC x (.slice none 0 0) (.slice none 0 0) 0 0 0 0 0) 28)
  have hR1 := hq.alloc (.cells (rqC x (.slice none 0 0) (.slice none 0 0) 0 0 0 0 0) 28)
  have he2 := he1.alloc (.cells (rqC x (.slice none 0 0) (.slice none 0 0) 0 0 0 0 0) 28)
  have zA : w1.heap.size < (w1.alloc (.cells (rqC x (.slice none 0 0) (.slice none 0 0) 0 0 0 0 0) 28)).heap.size := by simp
  clear rB1 hq he1
  go_wp2_with (first | refine wpList_load_row rfl 28 _ rfl w1.heap.size rfl 28 (rqC x (.slice none 0 0) (.slice none 0 0) 0 0 0 0 0) (0, 0) _ rA0 Try.underlying28 rfl info_rq ?_ | refine wpList_store_row rfl 28 _ _ rfl w.heap.size (rqC x (.slice none 0 0) (.slice none 0 0) 0 0 0 0 0) rfl rfl 28 _ rB2 info_rq rfl (rqC_one _ _ _ _ _ _ _ _ rfl rfl) ?_)
  refine bodyPost_ret (v := .tuple #[.agg (rqC x (.slice none 0 0) (.slice none 0 0) 0 0 0 0 0), .int .i64 1]) (results_cell_slot Try.results39 _ _ w.heap.size (rqC x (.slice none 0 0) (.slice none 0 0) 0 0 0 0 0) (.int .i64 1) ?hp ?hq ?hg) rfl ⟨_, rfl, ?hw, ?hr, he2.rowNew (Nat.le_refl _) _⟩
  case hp => rfl
  case hq => rfl
  case hg => exact run_loadVar_row _ w.heap.size 28 28 (rqC x (.slice none 0 0) (.slice none 0 0) 0 0 0 0 0) (0, 0) _ (rB2.setRow _) Try.underlying28 rfl info_rq
  case hw =>
    obtain rfl := ht.out
    exact ⟨_, _, rfl, acs_nil _ _, trs_nil _ _⟩
  case hr =>
    have hz := hR1.setRow (A := w.heap.size) (rqC x (.slice none 0 0) (.slice none 0 0) 0 0 0 0 0) (by omega) (by omega)
    obtain rfl := ht.out
    exact hz

set_option maxHeartbeats 4000000 in
theorem readF_acs (w : World) (R D K : Nat) (s : List Nat × Bool) (h : RdAt w R D s) (hK : rI 1 s = K) (hk : K = 1) (hc : rI 1 (rDrop 1 s) ≤ 8) :
    Calls Try.prog 39 #[.pointer (some ⟨R, 0, none⟩)] w fun e w' =>
      ∃ v, e = .returned (.tuple #[v, .int .i64 0]) ∧ RqAt w' w.heap.size v ⟨K, (evs rAc rAcS (rI 1 (rDrop 1 s)) (rDrop 1 (rDrop 1 s))), [], 0, 0, 0, 0, 0⟩ ∧ RdAt w' R D (itS rAcS (rI 1 (rDrop 1 s)) (rDrop 1 (rDrop 1 s))) ∧ Else R w w' := by
  have hlt := h.lt
  have hdl := h.dl
  subst hk
  go_enter Try.func39, Try.ntmps39
  go_wp2_with (go_at_call 29; refine stop ?_)
  rw [rq_lit]
  have rB0 : Row (w.alloc (.cells (rqC 0 (.slice none 0 0) (.slice none 0 0) 0 0 0 0 0) 28)) w.heap.size (rqC 0 (.slice none 0 0) (.slice none 0 0) 0 0 0 0 0) 28 := Row.new _ _ _ rfl
  have hR0 := h.alloc (.cells (rqC 0 (.slice none 0 0) (.slice none 0 0) 0 0 0 0 0) 28)
  have he0 : Else R w (w.alloc (.cells (rqC 0 (.slice none 0 0) (.slice none 0 0) 0 0 0 0 0) 28)) := Else.of (below1 w _)
  generalize w.alloc (.cells (rqC 0 (.slice none 0 0) (.slice none 0 0) 0 0 0 0 0) 28) = w0 at *
  refine (rint2 1 (by decide) _ rfl _ R D _ hR0).mono ?_
  rintro e w1 ⟨x, t, hx, ht, rfl, hq, hd⟩
  obtain rfl := hx.out.trans hK
  have rB1 := rB0.else hd (by omega)
  have he1 := he0.trans hd
  have z1 := rB1.lt
  clear rB0 hR0 he0 hd hx hK
  go_wp2_with (go_at_call 46; refine stop ?_)
  rw [show (#[.int .i64 1, .slice none 0 0, .slice none 0 0, .int .u64 0, .int .u64 0, .int .i64 0, .int .i64 0, .int .i64 0] : Array Value) = (rqC 1 (.slice none 0 0) (.slice none 0 0) 0 0 0 0 0) from rfl]
  have rA0 := Row.new w1 (rqC 1 (.slice none 0 0) (.slice none 0 0) 0 0 0 0 0) 28 rfl
  have rB2 := rB1.alloc (.cells (rqC 1 (.slice none 0 0) (.slice none 0 0) 0 0 0 0 0) 28)
  have hR1 := hq.alloc (.cells (rqC 1 (.slice none 0 0) (.slice none 0 0) 0 0 0 0 0) 28)
  have he2 := he1.alloc (.cells (rqC 1 (.slice none 0 0) (.slice none 0 0) 0 0 0 0 0) 28)
  have zA : w1.heap.size < (w1.alloc (.cells (rqC 1 (.slice none 0 0) (.slice none 0 0) 0 0 0 0 0) 28)).heap.size := by simp
  clear rB1 hq he1
  generalize w1.alloc (.cells (rqC 1 (.slice none 0 0) (.slice none 0 0) 0 0 0 0 0) 28) = w2 at *
  obtain rfl := ht.out
  refine (readAcs_any w2 R D _ hR1 hc).mono ?_
  rintro e w3 ⟨v, rfl, ho, hR3, he3⟩
  have rA3 := rA0.else he3 (by omega)
  have rB3 := rB2.else he3 (by omega)
  have he4 := he2.trans he3
  have cA := rA3.cell 1
  rw [show (rqC 1 (.slice none 0 0) (.slice none 0 0) 0 0 0 0 0)[1]? = some (.slice none 0 0) from rfl] at cA
  have fA := rA3.frozen 1
  obtain ⟨pv, nv, cv, hv, hnv⟩ := ownsRow_form ho
  subst hv
  clear hnv
  have rA4 : Row (w3.setCell ⟨w1.heap.size, 1, none⟩ (.slice pv nv cv)) w1.heap.size (rqC 1 (.slice pv nv cv) (.slice none 0 0) 0 0 0 0 0) 28 := rA3.set 1 (.slice pv nv cv)
  have rB4 : Row (w3.setCell ⟨w1.heap.size, 1, none⟩ (.slice pv nv cv)) w.heap.size (rqC 0 (.slice none 0 0) (.slice none 0 0) 0 0 0 0 0) 28 := rB3.setOther (a := ⟨w1.heap.size, 1, none⟩) (.slice pv nv cv) (by simp; omega)
  have hR4 : RdAt (w3.setCell ⟨w1.heap.size, 1, none⟩ (.slice pv nv cv)) R D (itS rAcS (rI 1 (rDrop 1 s)) (rDrop 1 (rDrop 1 s))) := hR3.set (A := w1.heap.size) 1 (.slice pv nv cv) (by omega) (by omega)
  have he5 : Else R w (w3.setCell ⟨w1.heap.size, 1, none⟩ (.slice pv nv cv)) := he4.setNew (A := w1.heap.size) (by omega) 1 (.slice pv nv cv)
  have ho4 : AcsAt (w3.setCell ⟨w1.heap.size, 1, none⟩ (.slice pv nv cv)) w.heap.size (.slice pv nv cv) _ := ownsRow_keep (w := w3) ⟨ho.1, ho.2.imp id fun ⟨g, cap, cur, e, h1, h2⟩ => ⟨g, cap, cur, e, by omega, h2⟩⟩ (fun k h1 h2 h3 => heap_setCell_other w3 ⟨w1.heap.size, 1, none⟩ k (.slice pv nv cv) (fun hh => by have := (ho.lt k h3).1; simp at hh; omega))
  clear rA3 rB3 hR3 he4
  go_wp2_with (first | refine wpList_load_row rfl 28 _ rfl w1.heap.size rfl 28 (rqC 1 (.slice pv nv cv) (.slice none 0 0) 0 0 0 0 0) (0, 0) _ rA4 Try.underlying28 rfl info_rq ?_ | refine wpList_store_row rfl 28 _ _ rfl w.heap.size (rqC 1 (.slice pv nv cv) (.slice none 0 0) 0 0 0 0 0) rfl rfl 28 _ rB4 info_rq rfl (rqC_one _ _ _ _ _ _ _ _ rfl rfl) ?_)
  refine bodyPost_ret (v := .tuple #[.agg (rqC 1 (.slice pv nv cv) (.slice none 0 0) 0 0 0 0 0), .int .i64 0]) (results_cell_slot Try.results39 _ _ w.heap.size (rqC 1 (.slice pv nv cv) (.slice none 0 0) 0 0 0 0 0) (.int .i64 0) ?hp ?hq ?hg) rfl ⟨_, rfl, ?hw, ?hr, he5.rowNew (Nat.le_refl _) _⟩
  case hp => rfl
  case hq => rfl
  case hg => exact run_loadVar_row _ w.heap.size 28 28 (rqC 1 (.slice pv nv cv) (.slice none 0 0) 0 0 0 0 0) (0, 0) _ (rB4.setRow _) Try.underlying28 rfl info_rq
  case hw => exact ⟨_, _, rfl, (ownsRow_keep ho4 (fun k h1 h2 h3 => setRow_other _ _ _ _ (fun hh => by subst hh; obtain ⟨_, ⟨hn, _⟩ | ⟨g, cap, cur, e, _, hg, _⟩⟩ := ho4; (rw [hn] at h3; cases h3); (rw [e] at h3; cases h3; have hz := hg.symm.trans rB4; simp at hz)))), (trs_nil _ _)⟩
  case hr => exact hR4.setRow _ (by omega) (by omega)

set_option maxHeartbeats 4000000 in
theorem readF_trs (w : World) (R D K : Nat) (s : List Nat × Bool) (h : RdAt w R D s) (hK : rI 1 s = K) (hk : K = 2) (hc : rI 1 (rDrop 1 s) ≤ 8) :
    Calls Try.prog 39 #[.pointer (some ⟨R, 0, none⟩)] w fun e w' =>
      ∃ v, e = .returned (.tuple #[v, .int .i64 0]) ∧ RqAt w' w.heap.size v ⟨K, [], (evs rTr rTrS (rI 1 (rDrop 1 s)) (rDrop 1 (rDrop 1 s))), 0, 0, 0, 0, 0⟩ ∧ RdAt w' R D (itS rTrS (rI 1 (rDrop 1 s)) (rDrop 1 (rDrop 1 s))) ∧ Else R w w' := by
  have hlt := h.lt
  have hdl := h.dl
  subst hk
  go_enter Try.func39, Try.ntmps39
  go_wp2_with (go_at_call 29; refine stop ?_)
  rw [rq_lit]
  have rB0 : Row (w.alloc (.cells (rqC 0 (.slice none 0 0) (.slice none 0 0) 0 0 0 0 0) 28)) w.heap.size (rqC 0 (.slice none 0 0) (.slice none 0 0) 0 0 0 0 0) 28 := Row.new _ _ _ rfl
  have hR0 := h.alloc (.cells (rqC 0 (.slice none 0 0) (.slice none 0 0) 0 0 0 0 0) 28)
  have he0 : Else R w (w.alloc (.cells (rqC 0 (.slice none 0 0) (.slice none 0 0) 0 0 0 0 0) 28)) := Else.of (below1 w _)
  generalize w.alloc (.cells (rqC 0 (.slice none 0 0) (.slice none 0 0) 0 0 0 0 0) 28) = w0 at *
  refine (rint2 1 (by decide) _ rfl _ R D _ hR0).mono ?_
  rintro e w1 ⟨x, t, hx, ht, rfl, hq, hd⟩
  obtain rfl := hx.out.trans hK
  have rB1 := rB0.else hd (by omega)
  have he1 := he0.trans hd
  have z1 := rB1.lt
  clear rB0 hR0 he0 hd hx hK
  go_wp2_with (go_at_call 47; refine stop ?_)
  rw [show (#[.int .i64 2, .slice none 0 0, .slice none 0 0, .int .u64 0, .int .u64 0, .int .i64 0, .int .i64 0, .int .i64 0] : Array Value) = (rqC 2 (.slice none 0 0) (.slice none 0 0) 0 0 0 0 0) from rfl]
  have rA0 := Row.new w1 (rqC 2 (.slice none 0 0) (.slice none 0 0) 0 0 0 0 0) 28 rfl
  have rB2 := rB1.alloc (.cells (rqC 2 (.slice none 0 0) (.slice none 0 0) 0 0 0 0 0) 28)
  have hR1 := hq.alloc (.cells (rqC 2 (.slice none 0 0) (.slice none 0 0) 0 0 0 0 0) 28)
  have he2 := he1.alloc (.cells (rqC 2 (.slice none 0 0) (.slice none 0 0) 0 0 0 0 0) 28)
  have zA : w1.heap.size < (w1.alloc (.cells (rqC 2 (.slice none 0 0) (.slice none 0 0) 0 0 0 0 0) 28)).heap.size := by simp
  clear rB1 hq he1
  generalize w1.alloc (.cells (rqC 2 (.slice none 0 0) (.slice none 0 0) 0 0 0 0 0) 28) = w2 at *
  obtain rfl := ht.out
  refine (readTrs_any w2 R D _ hR1 hc).mono ?_
  rintro e w3 ⟨v, rfl, ho, hR3, he3⟩
  have rA3 := rA0.else he3 (by omega)
  have rB3 := rB2.else he3 (by omega)
  have he4 := he2.trans he3
  have cA := rA3.cell 2
  rw [show (rqC 2 (.slice none 0 0) (.slice none 0 0) 0 0 0 0 0)[2]? = some (.slice none 0 0) from rfl] at cA
  have fA := rA3.frozen 2
  obtain ⟨pv, nv, cv, hv, hnv⟩ := ownsRow_form ho
  subst hv
  clear hnv
  have rA4 : Row (w3.setCell ⟨w1.heap.size, 2, none⟩ (.slice pv nv cv)) w1.heap.size (rqC 2 (.slice none 0 0) (.slice pv nv cv) 0 0 0 0 0) 28 := rA3.set 2 (.slice pv nv cv)
  have rB4 : Row (w3.setCell ⟨w1.heap.size, 2, none⟩ (.slice pv nv cv)) w.heap.size (rqC 0 (.slice none 0 0) (.slice none 0 0) 0 0 0 0 0) 28 := rB3.setOther (a := ⟨w1.heap.size, 2, none⟩) (.slice pv nv cv) (by simp; omega)
  have hR4 : RdAt (w3.setCell ⟨w1.heap.size, 2, none⟩ (.slice pv nv cv)) R D (itS rTrS (rI 1 (rDrop 1 s)) (rDrop 1 (rDrop 1 s))) := hR3.set (A := w1.heap.size) 2 (.slice pv nv cv) (by omega) (by omega)
  have he5 : Else R w (w3.setCell ⟨w1.heap.size, 2, none⟩ (.slice pv nv cv)) := he4.setNew (A := w1.heap.size) (by omega) 2 (.slice pv nv cv)
  have ho4 : TrsAt (w3.setCell ⟨w1.heap.size, 2, none⟩ (.slice pv nv cv)) w.heap.size (.slice pv nv cv) _ := ownsRow_keep (w := w3) ⟨ho.1, ho.2.imp id fun ⟨g, cap, cur, e, h1, h2⟩ => ⟨g, cap, cur, e, by omega, h2⟩⟩ (fun k h1 h2 h3 => heap_setCell_other w3 ⟨w1.heap.size, 2, none⟩ k (.slice pv nv cv) (fun hh => by have := (ho.lt k h3).1; simp at hh; omega))
  clear rA3 rB3 hR3 he4
  go_wp2_with (first | refine wpList_load_row rfl 28 _ rfl w1.heap.size rfl 28 (rqC 2 (.slice none 0 0) (.slice pv nv cv) 0 0 0 0 0) (0, 0) _ rA4 Try.underlying28 rfl info_rq ?_ | refine wpList_store_row rfl 28 _ _ rfl w.heap.size (rqC 2 (.slice none 0 0) (.slice pv nv cv) 0 0 0 0 0) rfl rfl 28 _ rB4 info_rq rfl (rqC_one _ _ _ _ _ _ _ _ rfl rfl) ?_)
  refine bodyPost_ret (v := .tuple #[.agg (rqC 2 (.slice none 0 0) (.slice pv nv cv) 0 0 0 0 0), .int .i64 0]) (results_cell_slot Try.results39 _ _ w.heap.size (rqC 2 (.slice none 0 0) (.slice pv nv cv) 0 0 0 0 0) (.int .i64 0) ?hp ?hq ?hg) rfl ⟨_, rfl, ?hw, ?hr, he5.rowNew (Nat.le_refl _) _⟩
  case hp => rfl
  case hq => rfl
  case hg => exact run_loadVar_row _ w.heap.size 28 28 (rqC 2 (.slice none 0 0) (.slice pv nv cv) 0 0 0 0 0) (0, 0) _ (rB4.setRow _) Try.underlying28 rfl info_rq
  case hw => exact ⟨_, _, rfl, (acs_nil _ _), (ownsRow_keep ho4 (fun k h1 h2 h3 => setRow_other _ _ _ _ (fun hh => by subst hh; obtain ⟨_, ⟨hn, _⟩ | ⟨g, cap, cur, e, _, hg, _⟩⟩ := ho4; (rw [hn] at h3; cases h3); (rw [e] at h3; cases h3; have hz := hg.symm.trans rB4; simp at hz))))⟩
  case hr => exact hR4.setRow _ (by omega) (by omega)

set_option maxHeartbeats 4000000 in
theorem readF_acsL (w : World) (R D K : Nat) (s : List Nat × Bool) (h : RdAt w R D s) (hK : rI 1 s = K) (hk : K = 1) (hc : 8 < rI 1 (rDrop 1 s)) :
    Calls Try.prog 39 #[.pointer (some ⟨R, 0, none⟩)] w fun e w' =>
      ∃ v, e = .returned (.tuple #[v, .int .i64 2]) ∧ RqAt w' w.heap.size v ⟨K, [], [], 0, 0, 0, 0, 0⟩ ∧ RdAt w' R D (rDrop 1 (rDrop 1 s)) ∧ Else R w w' := by
  have hlt := h.lt
  have hdl := h.dl
  subst hk
  go_enter Try.func39, Try.ntmps39
  go_wp2_with (go_at_call 29; refine stop ?_)
  rw [rq_lit]
  have rB0 : Row (w.alloc (.cells (rqC 0 (.slice none 0 0) (.slice none 0 0) 0 0 0 0 0) 28)) w.heap.size (rqC 0 (.slice none 0 0) (.slice none 0 0) 0 0 0 0 0) 28 := Row.new _ _ _ rfl
  have hR0 := h.alloc (.cells (rqC 0 (.slice none 0 0) (.slice none 0 0) 0 0 0 0 0) 28)
  have he0 : Else R w (w.alloc (.cells (rqC 0 (.slice none 0 0) (.slice none 0 0) 0 0 0 0 0) 28)) := Else.of (below1 w _)
  generalize w.alloc (.cells (rqC 0 (.slice none 0 0) (.slice none 0 0) 0 0 0 0 0) 28) = w0 at *
  refine (rint2 1 (by decide) _ rfl _ R D _ hR0).mono ?_
  rintro e w1 ⟨x, t, hx, ht, rfl, hq, hd⟩
  obtain rfl := hx.out.trans hK
  have rB1 := rB0.else hd (by omega)
  have he1 := he0.trans hd
  have z1 := rB1.lt
  clear rB0 hR0 he0 hd hx hK
  go_wp2_with (go_at_call 46; refine stop ?_)
  rw [show (#[.int .i64 1, .slice none 0 0, .slice none 0 0, .int .u64 0, .int .u64 0, .int .i64 0, .int .i64 0, .int .i64 0] : Array Value) = (rqC 1 (.slice none 0 0) (.slice none 0 0) 0 0 0 0 0) from rfl]
  have rA0 := Row.new w1 (rqC 1 (.slice none 0 0) (.slice none 0 0) 0 0 0 0 0) 28 rfl
  have rB2 := rB1.alloc (.cells (rqC 1 (.slice none 0 0) (.slice none 0 0) 0 0 0 0 0) 28)
  have hR1 := hq.alloc (.cells (rqC 1 (.slice none 0 0) (.slice none 0 0) 0 0 0 0 0) 28)
  have he2 := he1.alloc (.cells (rqC 1 (.slice none 0 0) (.slice none 0 0) 0 0 0 0 0) 28)
  have zA : w1.heap.size < (w1.alloc (.cells (rqC 1 (.slice none 0 0) (.slice none 0 0) 0 0 0 0 0) 28)).heap.size := by simp
  clear rB1 hq he1
  generalize w1.alloc (.cells (rqC 1 (.slice none 0 0) (.slice none 0 0) 0 0 0 0 0) 28) = w2 at *
  obtain rfl := ht.out
  refine (readAcs_long w2 R D _ hR1 hc).mono ?_
  rintro e w3 ⟨rfl, hR3, he3⟩
  have rA3 := rA0.else he3 (by omega)
  have rB3 := rB2.else he3 (by omega)
  have he4 := he2.trans he3
  have cA := rA3.cell 1
  rw [show (rqC 1 (.slice none 0 0) (.slice none 0 0) 0 0 0 0 0)[1]? = some (.slice none 0 0) from rfl] at cA
  have fA := rA3.frozen 1
  have rA4 : Row (w3.setCell ⟨w1.heap.size, 1, none⟩ (.slice none 0 0)) w1.heap.size (rqC 1 (.slice none 0 0) (.slice none 0 0) 0 0 0 0 0) 28 := rA3.set 1 (.slice none 0 0)
  have rB4 : Row (w3.setCell ⟨w1.heap.size, 1, none⟩ (.slice none 0 0)) w.heap.size (rqC 0 (.slice none 0 0) (.slice none 0 0) 0 0 0 0 0) 28 := rB3.setOther (a := ⟨w1.heap.size, 1, none⟩) (.slice none 0 0) (by simp; omega)
  have hR4 : RdAt (w3.setCell ⟨w1.heap.size, 1, none⟩ (.slice none 0 0)) R D (rDrop 1 (rDrop 1 s)) := hR3.set (A := w1.heap.size) 1 (.slice none 0 0) (by omega) (by omega)
  have he5 : Else R w (w3.setCell ⟨w1.heap.size, 1, none⟩ (.slice none 0 0)) := he4.setNew (A := w1.heap.size) (by omega) 1 (.slice none 0 0)
  clear rA3 rB3 hR3 he4
  go_wp2_with (first | refine wpList_load_row rfl 28 _ rfl w1.heap.size rfl 28 (rqC 1 (.slice none 0 0) (.slice none 0 0) 0 0 0 0 0) (0, 0) _ rA4 Try.underlying28 rfl info_rq ?_ | refine wpList_store_row rfl 28 _ _ rfl w.heap.size (rqC 1 (.slice none 0 0) (.slice none 0 0) 0 0 0 0 0) rfl rfl 28 _ rB4 info_rq rfl (rqC_one _ _ _ _ _ _ _ _ rfl rfl) ?_)
  refine bodyPost_ret (v := .tuple #[.agg (rqC 1 (.slice none 0 0) (.slice none 0 0) 0 0 0 0 0), .int .i64 2]) (results_cell_slot Try.results39 _ _ w.heap.size (rqC 1 (.slice none 0 0) (.slice none 0 0) 0 0 0 0 0) (.int .i64 2) ?hp ?hq ?hg) rfl ⟨_, rfl, ?hw, ?hr, he5.rowNew (Nat.le_refl _) _⟩
  case hp => rfl
  case hq => rfl
  case hg => exact run_loadVar_row _ w.heap.size 28 28 (rqC 1 (.slice none 0 0) (.slice none 0 0) 0 0 0 0 0) (0, 0) _ (rB4.setRow _) Try.underlying28 rfl info_rq
  case hw =>
    exact ⟨_, _, rfl, acs_nil _ _, trs_nil _ _⟩
  case hr =>
    have hz := hR4.setRow (A := w.heap.size) (rqC 1 (.slice none 0 0) (.slice none 0 0) 0 0 0 0 0) (by omega) (by omega)
    exact hz

set_option maxHeartbeats 4000000 in
theorem readF_trsL (w : World) (R D K : Nat) (s : List Nat × Bool) (h : RdAt w R D s) (hK : rI 1 s = K) (hk : K = 2) (hc : 8 < rI 1 (rDrop 1 s)) :
    Calls Try.prog 39 #[.pointer (some ⟨R, 0, none⟩)] w fun e w' =>
      ∃ v, e = .returned (.tuple #[v, .int .i64 2]) ∧ RqAt w' w.heap.size v ⟨K, [], [], 0, 0, 0, 0, 0⟩ ∧ RdAt w' R D (rDrop 1 (rDrop 1 s)) ∧ Else R w w' := by
  have hlt := h.lt
  have hdl := h.dl
  subst hk
  go_enter Try.func39, Try.ntmps39
  go_wp2_with (go_at_call 29; refine stop ?_)
  rw [rq_lit]
  have rB0 : Row (w.alloc (.cells (rqC 0 (.slice none 0 0) (.slice none 0 0) 0 0 0 0 0) 28)) w.heap.size (rqC 0 (.slice none 0 0) (.slice none 0 0) 0 0 0 0 0) 28 := Row.new _ _ _ rfl
  have hR0 := h.alloc (.cells (rqC 0 (.slice none 0 0) (.slice none 0 0) 0 0 0 0 0) 28)
  have he0 : Else R w (w.alloc (.cells (rqC 0 (.slice none 0 0) (.slice none 0 0) 0 0 0 0 0) 28)) := Else.of (below1 w _)
  generalize w.alloc (.cells (rqC 0 (.slice none 0 0) (.slice none 0 0) 0 0 0 0 0) 28) = w0 at *
  refine (rint2 1 (by decide) _ rfl _ R D _ hR0).mono ?_
  rintro e w1 ⟨x, t, hx, ht, rfl, hq, hd⟩
  obtain rfl := hx.out.trans hK
  have rB1 := rB0.else hd (by omega)
  have he1 := he0.trans hd
  have z1 := rB1.lt
  clear rB0 hR0 he0 hd hx hK
  go_wp2_with (go_at_call 47; refine stop ?_)
  rw [show (#[.int .i64 2, .slice none 0 0, .slice none 0 0, .int .u64 0, .int .u64 0, .int .i64 0, .int .i64 0, .int .i64 0] : Array Value) = (rqC 2 (.slice none 0 0) (.slice none 0 0) 0 0 0 0 0) from rfl]
  have rA0 := Row.new w1 (rqC 2 (.slice none 0 0) (.slice none 0 0) 0 0 0 0 0) 28 rfl
  have rB2 := rB1.alloc (.cells (rqC 2 (.slice none 0 0) (.slice none 0 0) 0 0 0 0 0) 28)
  have hR1 := hq.alloc (.cells (rqC 2 (.slice none 0 0) (.slice none 0 0) 0 0 0 0 0) 28)
  have he2 := he1.alloc (.cells (rqC 2 (.slice none 0 0) (.slice none 0 0) 0 0 0 0 0) 28)
  have zA : w1.heap.size < (w1.alloc (.cells (rqC 2 (.slice none 0 0) (.slice none 0 0) 0 0 0 0 0) 28)).heap.size := by simp
  clear rB1 hq he1
  generalize w1.alloc (.cells (rqC 2 (.slice none 0 0) (.slice none 0 0) 0 0 0 0 0) 28) = w2 at *
  obtain rfl := ht.out
  refine (readTrs_long w2 R D _ hR1 hc).mono ?_
  rintro e w3 ⟨rfl, hR3, he3⟩
  have rA3 := rA0.else he3 (by omega)
  have rB3 := rB2.else he3 (by omega)
  have he4 := he2.trans he3
  have cA := rA3.cell 2
  rw [show (rqC 2 (.slice none 0 0) (.slice none 0 0) 0 0 0 0 0)[2]? = some (.slice none 0 0) from rfl] at cA
  have fA := rA3.frozen 2
  have rA4 : Row (w3.setCell ⟨w1.heap.size, 2, none⟩ (.slice none 0 0)) w1.heap.size (rqC 2 (.slice none 0 0) (.slice none 0 0) 0 0 0 0 0) 28 := rA3.set 2 (.slice none 0 0)
  have rB4 : Row (w3.setCell ⟨w1.heap.size, 2, none⟩ (.slice none 0 0)) w.heap.size (rqC 0 (.slice none 0 0) (.slice none 0 0) 0 0 0 0 0) 28 := rB3.setOther (a := ⟨w1.heap.size, 2, none⟩) (.slice none 0 0) (by simp; omega)
  have hR4 : RdAt (w3.setCell ⟨w1.heap.size, 2, none⟩ (.slice none 0 0)) R D (rDrop 1 (rDrop 1 s)) := hR3.set (A := w1.heap.size) 2 (.slice none 0 0) (by omega) (by omega)
  have he5 : Else R w (w3.setCell ⟨w1.heap.size, 2, none⟩ (.slice none 0 0)) := he4.setNew (A := w1.heap.size) (by omega) 2 (.slice none 0 0)
  clear rA3 rB3 hR3 he4
  go_wp2_with (first | refine wpList_load_row rfl 28 _ rfl w1.heap.size rfl 28 (rqC 2 (.slice none 0 0) (.slice none 0 0) 0 0 0 0 0) (0, 0) _ rA4 Try.underlying28 rfl info_rq ?_ | refine wpList_store_row rfl 28 _ _ rfl w.heap.size (rqC 2 (.slice none 0 0) (.slice none 0 0) 0 0 0 0 0) rfl rfl 28 _ rB4 info_rq rfl (rqC_one _ _ _ _ _ _ _ _ rfl rfl) ?_)
  refine bodyPost_ret (v := .tuple #[.agg (rqC 2 (.slice none 0 0) (.slice none 0 0) 0 0 0 0 0), .int .i64 2]) (results_cell_slot Try.results39 _ _ w.heap.size (rqC 2 (.slice none 0 0) (.slice none 0 0) 0 0 0 0 0) (.int .i64 2) ?hp ?hq ?hg) rfl ⟨_, rfl, ?hw, ?hr, he5.rowNew (Nat.le_refl _) _⟩
  case hp => rfl
  case hq => rfl
  case hg => exact run_loadVar_row _ w.heap.size 28 28 (rqC 2 (.slice none 0 0) (.slice none 0 0) 0 0 0 0 0) (0, 0) _ (rB4.setRow _) Try.underlying28 rfl info_rq
  case hw =>
    exact ⟨_, _, rfl, acs_nil _ _, trs_nil _ _⟩
  case hr =>
    have hz := hR4.setRow (A := w.heap.size) (rqC 2 (.slice none 0 0) (.slice none 0 0) 0 0 0 0 0) (by omega) (by omega)
    exact hz
end Go.Proofs.Ytekpkbmelhgneaa
