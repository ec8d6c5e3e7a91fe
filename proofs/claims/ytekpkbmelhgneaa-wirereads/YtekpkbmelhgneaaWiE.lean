
/-
  package wire: readNewAccount, readNewTransfer. What a reader reads, for all bytes.
-/
import Derived.Test.YtekpkbmelhgneaaWiR
namespace Go.Proofs.Ytekpkbmelhgneaa
open Go.RowKit
set_option maxRecDepth 100000

/-- What a reader reads next: the two words of a number; a number of n bytes. -/
def rHi (s : List Nat × Bool) : Nat := be ((rTake 16 s).take 8)
def rLo (s : List Nat × Bool) : Nat := be ((rTake 16 s).drop 8)
def rI (n : Nat) (s : List Nat × Bool) : Nat := be (rTake n s)
theorem rnum2 (w : World) (R D : Nat) (s : List Nat × Bool) (h : RdAt w R D s) :
    Calls Try.prog 31 #[.pointer (some ⟨R, 0, none⟩)] w fun e w' => ∃ x y t, Hid (x = rHi s) ∧ Hid (y = rLo s) ∧ Hid (t = rDrop 16 s) ∧ e = .returned (.agg #[.int .u64 (x : Nat), .int .u64 (y : Nat)]) ∧ RdAt w' R D t ∧ Else R w w' :=
  (rnum_any w R D s h).mono fun _ _ h => ⟨_, _, _, rfl, rfl, rfl, h⟩
theorem rint2 (n : Nat) (hn : n ≤ 7) (m : Int) (hm : m = n) (w : World) (R D : Nat) (s : List Nat × Bool) (h : RdAt w R D s) :
    Calls Try.prog 29 #[.pointer (some ⟨R, 0, none⟩), .int .i64 m] w fun e w' => ∃ x t, Hid (x = rI n s) ∧ Hid (t = rDrop n s) ∧ e = .returned (.int .i64 (x : Nat)) ∧ RdAt w' R D t ∧ Else R w w' := by
  subst hm
  exact (rint_any n hn w R D s h).mono fun _ _ h => ⟨_, _, rfl, rfl, h⟩

/-- An account as a request tells it; its cells. -/
structure Ac where
  hi : Nat
  lo : Nat
  led : Nat
  fl : Nat
def Ac.cells (a : Ac) : Array Value := #[.int .u64 a.hi, .int .u64 a.lo, .int .i64 a.led, .int .i64 a.fl, .int .u64 0, .int .u64 0, .int .u64 0, .int .u64 0, .int .u64 0, .int .u64 0, .int .u64 0, .int .u64 0, .int .i64 0, .int .i64 0, .int .u8 0, .int .u8 0, .int .u8 0, .int .u8 0, .int .u8 0, .int .u8 0, .int .u8 0, .int .u8 0, .int .u8 0, .int .u8 0, .int .u8 0, .int .u8 0, .int .u8 0, .int .u8 0, .int .u8 0, .int .u8 0, .int .u8 0, .int .u8 0, .int .u8 0, .int .u8 0, .int .u8 0, .int .u8 0, .int .u8 0, .int .u8 0, .int .u8 0, .int .u8 0, .int .u8 0, .int .u8 0, .int .u8 0, .int .u8 0, .int .u8 0, .int .u8 0]
theorem acc_lit : (#[.int .u64 0, .int .u64 0, .int .i64 0, .int .i64 0, .int .u64 0, .int .u64 0, .int .u64 0, .int .u64 0, .int .u64 0, .int .u64 0, .int .u64 0, .int .u64 0, .int .i64 0, .int .i64 0, .int .u8 0, .int .u8 0, .int .u8 0, .int .u8 0, .int .u8 0, .int .u8 0, .int .u8 0, .int .u8 0, .int .u8 0, .int .u8 0, .int .u8 0, .int .u8 0, .int .u8 0, .int .u8 0, .int .u8 0, .int .u8 0, .int .u8 0, .int .u8 0, .int .u8 0, .int .u8 0, .int .u8 0, .int .u8 0, .int .u8 0, .int .u8 0, .int .u8 0, .int .u8 0, .int .u8 0, .int .u8 0, .int .u8 0, .int .u8 0, .int .u8 0, .int .u8 0] : Array Value) = Ac.cells ⟨0, 0, 0, 0⟩ := rfl
theorem Ac.size (a : Ac) : a.cells.size = 46 := rfl
theorem Ac.one (a : Ac) : a.cells.all (·.oneCell') = true := by simp [Ac.cells, Value.oneCell']
theorem info_acc : (Try.prog.info? 42).map (·.size) = some 46 := by kernel_rfl
/-- A transfer as a request tells it; its cells. -/
structure Tr where
  h1 : Nat
  l1 : Nat
  h2 : Nat
  l2 : Nat
  h3 : Nat
  l3 : Nat
  h4 : Nat
  l4 : Nat
  h5 : Nat
  l5 : Nat
  tm : Nat
  led : Nat
  fl : Nat
def Tr.cells (a : Tr) : Array Value := #[.int .u64 a.h1, .int .u64 a.l1, .int .u64 a.h2, .int .u64 a.l2, .int .u64 a.h3, .int .u64 a.l3, .int .u64 a.h4, .int .u64 a.l4, .int .u64 a.h5, .int .u64 a.l5, .int .i64 a.tm, .int .i64 a.led, .int .i64 a.fl, .int .i64 0, .int .i64 0, .int .i64 0]
theorem tr_lit : (#[.int .u64 0, .int .u64 0, .int .u64 0, .int .u64 0, .int .u64 0, .int .u64 0, .int .u64 0, .int .u64 0, .int .u64 0, .int .u64 0, .int .i64 0, .int .i64 0, .int .i64 0, .int .i64 0, .int .i64 0, .int .i64 0] : Array Value) = Tr.cells ⟨0, 0, 0, 0, 0, 0, 0, 0, 0, 0, 0, 0, 0⟩ := rfl
theorem Tr.size (a : Tr) : a.cells.size = 16 := rfl
theorem Tr.one (a : Tr) : a.cells.all (·.oneCell') = true := by simp [Tr.cells, Value.oneCell']
theorem info_tr : (Try.prog.info? 71).map (·.size) = some 16 := by kernel_rfl

/-- What is read of an account, of a transfer, and what the reader is behind it. -/
def rAc (s : List Nat × Bool) : Ac := ⟨rHi (s), rLo (s), rI 4 (rDrop 16 (s)), rI 2 (rDrop 4 (rDrop 16 (s)))⟩
def rAcS (s : List Nat × Bool) : List Nat × Bool := rDrop 2 (rDrop 4 (rDrop 16 (s)))
def rTr (s : List Nat × Bool) : Tr := ⟨rHi (s), rLo (s), rHi (rDrop 16 (s)), rLo (rDrop 16 (s)), rHi (rDrop 16 (rDrop 16 (s))), rLo (rDrop 16 (rDrop 16 (s))), rHi (rDrop 16 (rDrop 16 (rDrop 16 (s)))), rLo (rDrop 16 (rDrop 16 (rDrop 16 (s)))), rHi (rDrop 16 (rDrop 16 (rDrop 16 (rDrop 16 (s))))), rLo (rDrop 16 (rDrop 16 (rDrop 16 (rDrop 16 (s))))), rI 4 (rDrop 16 (rDrop 16 (rDrop 16 (rDrop 16 (rDrop 16 (s)))))), rI 4 (rDrop 4 (rDrop 16 (rDrop 16 (rDrop 16 (rDrop 16 (rDrop 16 (s))))))), rI 2 (rDrop 4 (rDrop 4 (rDrop 16 (rDrop 16 (rDrop 16 (rDrop 16 (rDrop 16 (s))))))))⟩
def rTrS (s : List Nat × Bool) : List Nat × Bool := rDrop 2 (rDrop 4 (rDrop 4 (rDrop 16 (rDrop 16 (rDrop 16 (rDrop 16 (rDrop 16 (s))))))))

set_option maxHeartbeats 2000000 in
theorem readAc_any (w : World) (R D : Nat) (s : List Nat × Bool) (h : RdAt w R D s) :
    Calls Try.prog 41 #[.pointer (some ⟨R, 0, none⟩)] w fun e w' => e = .returned (.agg (Ac.cells (rAc s))) ∧ RdAt w' R D (rAcS s) ∧ Else R w w' := by
  have hlt := h.lt
  have hdl := h.dl
  go_enter Try.func41, Try.ntmps41
  go_wp2_with (go_at_call 31; refine stop ?_)
  rw [acc_lit]
  have rA0 : Row ((w.alloc (.cells (Ac.cells ⟨0, 0, 0, 0⟩) 42)).alloc (.cells (Ac.cells ⟨0, 0, 0, 0⟩) 42)) (w.heap.size + 1) (Ac.cells ⟨0, 0, 0, 0⟩) 42 := Row.new _ _ _ (by simp)
  have rB0 : Row ((w.alloc (.cells (Ac.cells ⟨0, 0, 0, 0⟩) 42)).alloc (.cells (Ac.cells ⟨0, 0, 0, 0⟩) 42)) w.heap.size (Ac.cells ⟨0, 0, 0, 0⟩) 42 := (Row.new w (Ac.cells ⟨0, 0, 0, 0⟩) 42 rfl).alloc _
  have hR0 := (h.alloc (.cells (Ac.cells ⟨0, 0, 0, 0⟩) 42)).alloc (.cells (Ac.cells ⟨0, 0, 0, 0⟩) 42)
  have he0 : Else R w ((w.alloc (.cells (Ac.cells ⟨0, 0, 0, 0⟩) 42)).alloc (.cells (Ac.cells ⟨0, 0, 0, 0⟩) 42)) := Else.of (below2 w _ _)
  generalize (w.alloc (.cells (Ac.cells ⟨0, 0, 0, 0⟩) 42)).alloc (.cells (Ac.cells ⟨0, 0, 0, 0⟩) 42) = w0 at *
  refine (rnum2 _ R D _ hR0).mono ?_
  rintro e v0 ⟨x0, y0, t0, hx0, hy0, ht0, rfl, hq0, hd0⟩
  have qA0 := rA0.else hd0 (by omega)
  have qB0 := rB0.else hd0 (by omega)
  have qe0 := he0.trans hd0
  clear rA0 rB0 hR0 he0 hd0
  have c00 := qA0.cell 0
  rw [show (Ac.cells ⟨0, 0, 0, 0⟩)[0]? = some (.int .u64 (0 : Nat)) from rfl] at c00
  have f00 := qA0.frozen 0
  have c01 := qA0.cell 1
  rw [show (Ac.cells ⟨0, 0, 0, 0⟩)[1]? = some (.int .u64 (0 : Nat)) from rfl] at c01
  have f01 := qA0.frozen 1
  have rA1 : Row ((v0.setCell ⟨w.heap.size + 1, 0, none⟩ (.int .u64 (x0 : Nat))).setCell ⟨w.heap.size + 1, 1, none⟩ (.int .u64 (y0 : Nat))) (w.heap.size + 1) (Ac.cells ⟨x0, y0, 0, 0⟩) 42 := ((qA0.set 0 (.int .u64 (x0 : Nat))).set 1 (.int .u64 (y0 : Nat)))
  have rB1 : Row ((v0.setCell ⟨w.heap.size + 1, 0, none⟩ (.int .u64 (x0 : Nat))).setCell ⟨w.heap.size + 1, 1, none⟩ (.int .u64 (y0 : Nat))) w.heap.size (Ac.cells ⟨0, 0, 0, 0⟩) 42 := ((qB0.setOther (a := ⟨w.heap.size + 1, 0, none⟩) (.int .u64 (x0 : Nat)) (by simp)).setOther (a := ⟨w.heap.size + 1, 1, none⟩) (.int .u64 (y0 : Nat)) (by simp))
  have hR1 : RdAt ((v0.setCell ⟨w.heap.size + 1, 0, none⟩ (.int .u64 (x0 : Nat))).setCell ⟨w.heap.size + 1, 1, none⟩ (.int .u64 (y0 : Nat))) R D t0 := ((hq0.set (A := w.heap.size + 1) 0 (.int .u64 (x0 : Nat)) (by omega) (by omega)).set (A := w.heap.size + 1) 1 (.int .u64 (y0 : Nat)) (by omega) (by omega))
  have he1 : Else R w ((v0.setCell ⟨w.heap.size + 1, 0, none⟩ (.int .u64 (x0 : Nat))).setCell ⟨w.heap.size + 1, 1, none⟩ (.int .u64 (y0 : Nat))) := ((qe0.setNew (A := w.heap.size + 1) (by omega) 0 (.int .u64 (x0 : Nat))).setNew (A := w.heap.size + 1) (by omega) 1 (.int .u64 (y0 : Nat)))
  clear qA0 qB0 hq0 qe0
  go_wp2_with (go_at_call 29; refine stop ?_)
  refine (rint2 4 (by decide) _ rfl _ R D _ hR1).mono ?_
  rintro e v1 ⟨x1, t1, hx1, ht1, rfl, hq1, hd1⟩
  have qA1 := rA1.else hd1 (by omega)
  have qB1 := rB1.else hd1 (by omega)
  have qe1 := he1.trans hd1
  clear rA1 rB1 hR1 he1 hd1
  have c10 := qA1.cell 2
  rw [show (Ac.cells ⟨x0, y0, 0, 0⟩)[2]? = some (.int .i64 (0 : Nat)) from rfl] at c10
  have f10 := qA1.frozen 2
  have rA2 : Row (v1.setCell ⟨w.heap.size + 1, 2, none⟩ (.int .i64 (x1 : Nat))) (w.heap.size + 1) (Ac.cells ⟨x0, y0, x1, 0⟩) 42 := (qA1.set 2 (.int .i64 (x1 : Nat)))
  have rB2 : Row (v1.setCell ⟨w.heap.size + 1, 2, none⟩ (.int .i64 (x1 : Nat))) w.heap.size (Ac.cells ⟨0, 0, 0, 0⟩) 42 := (qB1.setOther (a := ⟨w.heap.size + 1, 2, none⟩) (.int .i64 (x1 : Nat)) (by simp))
  have hR2 : RdAt (v1.setCell ⟨w.heap.size + 1, 2, none⟩ (.int .i64 (x1 : Nat))) R D t1 := (hq1.set (A := w.heap.size + 1) 2 (.int .i64 (x1 : Nat)) (by omega) (by omega))
  have he2 : Else R w (v1.setCell ⟨w.heap.size + 1, 2, none⟩ (.int .i64 (x1 : Nat))) := (qe1.setNew (A := w.heap.size + 1) (by omega) 2 (.int .i64 (x1 : Nat)))
  clear qA1 qB1 hq1 qe1
  go_wp2_with (go_at_call 29; refine stop ?_)
  refine (rint2 2 (by decide) _ rfl _ R D _ hR2).mono ?_
  rintro e v2 ⟨x2, t2, hx2, ht2, rfl, hq2, hd2⟩
  have qA2 := rA2.else hd2 (by omega)
  have qB2 := rB2.else hd2 (by omega)
  have qe2 := he2.trans hd2
  clear rA2 rB2 hR2 he2 hd2
  have c20 := qA2.cell 3
  rw [show (Ac.cells ⟨x0, y0, x1, 0⟩)[3]? = some (.int .i64 (0 : Nat)) from rfl] at c20
  have f20 := qA2.frozen 3
  have rA3 : Row (v2.setCell ⟨w.heap.size + 1, 3, none⟩ (.int .i64 (x2 : Nat))) (w.heap.size + 1) (Ac.cells ⟨x0, y0, x1, x2⟩) 42 := (qA2.set 3 (.int .i64 (x2 : Nat)))
  have rB3 : Row (v2.setCell ⟨w.heap.size + 1, 3, none⟩ (.int .i64 (x2 : Nat))) w.heap.size (Ac.cells ⟨0, 0, 0, 0⟩) 42 := (qB2.setOther (a := ⟨w.heap.size + 1, 3, none⟩) (.int .i64 (x2 : Nat)) (by simp))
  have hR3 : RdAt (v2.setCell ⟨w.heap.size + 1, 3, none⟩ (.int .i64 (x2 : Nat))) R D t2 := (hq2.set (A := w.heap.size + 1) 3 (.int .i64 (x2 : Nat)) (by omega) (by omega))
  have he3 : Else R w (v2.setCell ⟨w.heap.size + 1, 3, none⟩ (.int .i64 (x2 : Nat))) := (qe2.setNew (A := w.heap.size + 1) (by omega) 3 (.int .i64 (x2 : Nat)))
  clear qA2 qB2 hq2 qe2
  go_wp2_with (first | refine wpList_load_row rfl 42 _ rfl (w.heap.size + 1) rfl 42 (Ac.cells ⟨x0, y0, x1, x2⟩) (0, 0) _ rA3 Try.underlying42 rfl info_acc ?_ | refine wpList_store_row rfl 42 _ _ rfl w.heap.size (Ac.cells ⟨x0, y0, x1, x2⟩) rfl rfl 42 _ rB3 info_acc rfl (Ac.one _) ?_)
  refine bodyPost_ret (v := .agg (Ac.cells ⟨x0, y0, x1, x2⟩)) (results_cell_row Try.results41 _ _ w.heap.size 42 (Ac.cells ⟨x0, y0, x1, x2⟩) (0, 0) _ ?hp ?hg Try.underlying42 rfl info_acc) rfl ⟨?he, ?hr, he3.rowNew (Nat.le_refl _) _⟩
  case hp => rfl
  case hg => exact rB3.setRow _
  case he =>
    obtain rfl := hx0.out ; obtain rfl := hy0.out ; obtain rfl := ht0.out; obtain rfl := hx1.out ; obtain rfl := ht1.out; obtain rfl := hx2.out ; obtain rfl := ht2.out
    rfl
  case hr =>
    have hz := hR3.setRow (A := w.heap.size) (Ac.cells ⟨x0, y0, x1, x2⟩) (by omega) (by omega)
    obtain rfl := hx0.out ; obtain rfl := hy0.out ; obtain rfl := ht0.out; obtain rfl := hx1.out ; obtain rfl := ht1.out; obtain rfl := hx2.out ; obtain rfl := ht2.out
    exact hz

set_option maxHeartbeats 2000000 in
theorem readTr_any (w : World) (R D : Nat) (s : List Nat × Bool) (h : RdAt w R D s) :
    Calls Try.prog 48 #[.pointer (some ⟨R, 0, none⟩)] w fun e w' => e = .returned (.agg (Tr.cells (rTr s))) ∧ RdAt w' R D (rTrS s) ∧ Else R w w' := by
  have hlt := h.lt
  have hdl := h.dl
  go_enter Try.func48, Try.ntmps48
  go_wp2_with (go_at_call 31; refine stop ?_)
  rw [tr_lit]
  have rA0 : Row ((w.alloc (.cells (Tr.cells ⟨0, 0, 0, 0, 0, 0, 0, 0, 0, 0, 0, 0, 0⟩) 71)).alloc (.cells (Tr.cells ⟨0, 0, 0, 0, 0, 0, 0, 0, 0, 0, 0, 0, 0⟩) 71)) (w.heap.size + 1) (Tr.cells ⟨0, 0, 0, 0, 0, 0, 0, 0, 0, 0, 0, 0, 0⟩) 71 := Row.new _ _ _ (by simp)
  have rB0 : Row ((w.alloc (.cells (Tr.cells ⟨0, 0, 0, 0, 0, 0, 0, 0, 0, 0, 0, 0, 0⟩) 71)).alloc (.cells (Tr.cells ⟨0, 0, 0, 0, 0, 0, 0, 0, 0, 0, 0, 0, 0⟩) 71)) w.heap.size (Tr.cells ⟨0, 0, 0, 0, 0, 0, 0, 0, 0, 0, 0, 0, 0⟩) 71 := (Row.new w (Tr.cells ⟨0, 0, 0, 0, 0, 0, 0, 0, 0, 0, 0, 0, 0⟩) 71 rfl).alloc _
  have hR0 := (h.alloc (.cells (Tr.cells ⟨0, 0, 0, 0, 0, 0, 0, 0, 0, 0, 0, 0, 0⟩) 71)).alloc (.cells (Tr.cells ⟨0, 0, 0, 0, 0, 0, 0, 0, 0, 0, 0, 0, 0⟩) 71)
  have he0 : Else R w ((w.alloc (.cells (Tr.cells ⟨0, 0, 0, 0, 0, 0, 0, 0, 0, 0, 0, 0, 0⟩) 71)).alloc (.cells (Tr.cells ⟨0, 0, 0, 0, 0, 0, 0, 0, 0, 0, 0, 0, 0⟩) 71)) := Else.of (below2 w _ _)
  generalize (w.alloc (.cells (Tr.cells ⟨0, 0, 0, 0, 0, 0, 0, 0, 0, 0, 0, 0, 0⟩) 71)).alloc (.cells (Tr.cells ⟨0, 0, 0, 0, 0, 0, 0, 0, 0, 0, 0, 0, 0⟩) 71) = w0 at *
  refine (rnum2 _ R D _ hR0).mono ?_
  rintro e v0 ⟨x0, y0, t0, hx0, hy0, ht0, rfl, hq0, hd0⟩
  have qA0 := rA0.else hd0 (by omega)
  have qB0 := rB0.else hd0 (by omega)
  have qe0 := he0.trans hd0
  clear rA0 rB0 hR0 he0 hd0
  have c00 := qA0.cell 0
  rw [show (Tr.cells ⟨0, 0, 0, 0, 0, 0, 0, 0, 0, 0, 0, 0, 0⟩)[0]? = some (.int .u64 (0 : Nat)) from rfl] at c00
  have f00 := qA0.frozen 0
  have c01 := qA0.cell 1
  rw [show (Tr.cells ⟨0, 0, 0, 0, 0, 0, 0, 0, 0, 0, 0, 0, 0⟩)[1]? = some (.int .u64 (0 : Nat)) from rfl] at c01
  have f01 := qA0.frozen 1
  have rA1 : Row ((v0.setCell ⟨w.heap.size + 1, 0, none⟩ (.int .u64 (x0 : Nat))).setCell ⟨w.heap.size + 1, 1, none⟩ (.int .u64 (y0 : Nat))) (w.heap.size + 1) (Tr.cells ⟨x0, y0, 0, 0, 0, 0, 0, 0, 0, 0, 0, 0, 0⟩) 71 := ((qA0.set 0 (.int .u64 (x0 : Nat))).set 1 (.int .u64 (y0 : Nat)))
  have rB1 : Row ((v0.setCell ⟨w.heap.size + 1, 0, none⟩ (.int .u64 (x0 : Nat))).setCell ⟨w.heap.size + 1, 1, none⟩ (.int .u64 (y0 : Nat))) w.heap.size (Tr.cells ⟨0, 0, 0, 0, 0, 0, 0, 0, 0, 0, 0, 0, 0⟩) 71 := ((qB0.setOther (a := ⟨w.heap.size + 1, 0, none⟩) (.int .u64 (x0 : Nat)) (by simp)).setOther (a := ⟨w.heap.size + 1, 1, none⟩) (.int .u64 (y0 : Nat)) (by simp))
  have hR1 : RdAt ((v0.setCell ⟨w.heap.size + 1, 0, none⟩ (.int .u64 (x0 : Nat))).setCell ⟨w.heap.size + 1, 1, none⟩ (.int .u64 (y0 : Nat))) R D t0 := ((hq0.set (A := w.heap.size + 1) 0 (.int .u64 (x0 : Nat)) (by omega) (by omega)).set (A := w.heap.size + 1) 1 (.int .u64 (y0 : Nat)) (by omega) (by omega))
  have he1 : Else R w ((v0.setCell ⟨w.heap.size + 1, 0, none⟩ (.int .u64 (x0 : Nat))).setCell ⟨w.heap.size + 1, 1, none⟩ (.int .u64 (y0 : Nat))) := ((qe0.setNew (A := w.heap.size + 1) (by omega) 0 (.int .u64 (x0 : Nat))).setNew (A := w.heap.size + 1) (by omega) 1 (.int .u64 (y0 : Nat)))
  clear qA0 qB0 hq0 qe0
  go_wp2_with (go_at_call 31; refine stop ?_)
  refine (rnum2 _ R D _ hR1).mono ?_
  rintro e v1 ⟨x1, y1, t1, hx1, hy1, ht1, rfl, hq1, hd1⟩
  have qA1 := rA1.else hd1 (by omega)
  have qB1 := rB1.else hd1 (by omega)
  have qe1 := he1.trans hd1
  clear rA1 rB1 hR1 he1 hd1
  have c10 := qA1.cell 2
  rw [show (Tr.cells ⟨x0, y0, 0, 0, 0, 0, 0, 0, 0, 0, 0, 0, 0⟩)[2]? = some (.int .u64 (0 : Nat)) from rfl] at c10
  have f10 := qA1.frozen 2
  have c11 := qA1.cell 3
  rw [show (Tr.cells ⟨x0, y0, 0, 0, 0, 0, 0, 0, 0, 0, 0, 0, 0⟩)[3]? = some (.int .u64 (0 : Nat)) from rfl] at c11
  have f11 := qA1.frozen 3
  have rA2 : Row ((v1.setCell ⟨w.heap.size + 1, 2, none⟩ (.int .u64 (x1 : Nat))).setCell ⟨w.heap.size + 1, 3, none⟩ (.int .u64 (y1 : Nat))) (w.heap.size + 1) (Tr.cells ⟨x0, y0, x1, y1, 0, 0, 0, 0, 0, 0, 0, 0, 0⟩) 71 := ((qA1.set 2 (.int .u64 (x1 : Nat))).set 3 (.int .u64 (y1 : Nat)))
  have rB2 : Row ((v1.setCell ⟨w.heap.size + 1, 2, none⟩ (.int .u64 (x1 : Nat))).setCell ⟨w.heap.size + 1, 3, none⟩ (.int .u64 (y1 : Nat))) w.heap.size (Tr.cells ⟨0, 0, 0, 0, 0, 0, 0, 0, 0, 0, 0, 0, 0⟩) 71 := ((qB1.setOther (a := ⟨w.heap.size + 1, 2, none⟩) (.int .u64 (x1 : Nat)) (by simp)).setOther (a := ⟨w.heap.size + 1, 3, none⟩) (.int .u64 (y1 : Nat)) (by simp))
  have hR2 : RdAt ((v1.setCell ⟨w.heap.size + 1, 2, none⟩ (.int .u64 (x1 : Nat))).setCell ⟨w.heap.size + 1, 3, none⟩ (.int .u64 (y1 : Nat))) R D t1 := ((hq1.set (A := w.heap.size + 1) 2 (.int .u64 (x1 : Nat)) (by omega) (by omega)).set (A := w.heap.size + 1) 3 (.int .u64 (y1 : Nat)) (by omega) (by omega))
  have he2 : Else R w ((v1.setCell ⟨w.heap.size + 1, 2, none⟩ (.int .u64 (x1 : Nat))).setCell ⟨w.heap.size + 1, 3, none⟩ (.int .u64 (y1 : Nat))) := ((qe1.setNew (A := w.heap.size + 1) (by omega) 2 (.int .u64 (x1 : Nat))).setNew (A := w.heap.size + 1) (by omega) 3 (.int .u64 (y1 : Nat)))
  clear qA1 qB1 hq1 qe1
  go_wp2_with (go_at_call 31; refine stop ?_)
  refine (rnum2 _ R D _ hR2).mono ?_
  rintro e v2 ⟨x2, y2, t2, hx2, hy2, ht2, rfl, hq2, hd2⟩
  have qA2 := rA2.else hd2 (by omega)
  have qB2 := rB2.else hd2 (by omega)
  have qe2 := he2.trans hd2
  clear rA2 rB2 hR2 he2 hd2
  have c20 := qA2.cell 4
  rw [show (Tr.cells ⟨x0, y0, x1, y1, 0, 0, 0, 0, 0, 0, 0, 0, 0⟩)[4]? = some (.int .u64 (0 : Nat)) from rfl] at c20
  have f20 := qA2.frozen 4
  have c21 := qA2.cell 5
  rw [show (Tr.cells ⟨x0, y0, x1, y1, 0, 0, 0, 0, 0, 0, 0, 0, 0⟩)[5]? = some (.int .u64 (0 : Nat)) from rfl] at c21
  have f21 := qA2.frozen 5
  have rA3 : Row ((v2.setCell ⟨w.heap.size + 1, 4, none⟩ (.int .u64 (x2 : Nat))).setCell ⟨w.heap.size + 1, 5, none⟩ (.int .u64 (y2 : Nat))) (w.heap.size + 1) (Tr.cells ⟨x0, y0, x1, y1, x2, y2, 0, 0, 0, 0, 0, 0, 0⟩) 71 := ((qA2.set 4 (.int .u64 (x2 : Nat))).set 5 (.int .u64 (y2 : Nat)))
  have rB3 : Row ((v2.setCell ⟨w.heap.size + 1, 4, none⟩ (.int .u64 (x2 : Nat))).setCell ⟨w.heap.size + 1, 5, none⟩ (.int .u64 (y2 : Nat))) w.heap.size (Tr.cells ⟨0, 0, 0, 0, 0, 0, 0, 0, 0, 0, 0, 0, 0⟩) 71 := ((qB2.setOther (a := ⟨w.heap.size + 1, 4, none⟩) (.int .u64 (x2 : Nat)) (by simp)).setOther (a := ⟨w.heap.size + 1, 5, none⟩) (.int .u64 (y2 : Nat)) (by simp))
  have hR3 : RdAt ((v2.setCell ⟨w.heap.size + 1, 4, none⟩ (.int .u64 (x2 : Nat))).setCell ⟨w.heap.size + 1, 5, none⟩ (.int .u64 (y2 : Nat))) R D t2 := ((hq2.set (A := w.heap.size + 1) 4 (.int .u64 (x2 : Nat)) (by omega) (by omega)).set (A := w.heap.size + 1) 5 (.int .u64 (y2 : Nat)) (by omega) (by omega))
  have he3 : Else R w ((v2.setCell ⟨w.heap.size + 1, 4, none⟩ (.int .u64 (x2 : Nat))).setCell ⟨w.heap.size + 1, 5, none⟩ (.int .u64 (y2 : Nat))) := ((qe2.setNew (A := w.heap.size + 1) (by omega) 4 (.int .u64 (x2 : Nat))).setNew (A := w.heap.size + 1) (by omega) 5 (.int .u64 (y2 : Nat)))
  clear qA2 qB2 hq2 qe2
  go_wp2_with (go_at_call 31; refine stop ?_)
  refine (rnum2 _ R D _ hR3).mono ?_
  rintro e v3 ⟨x3, y3, t3, hx3, hy3, ht3, rfl, hq3, hd3⟩
  have qA3 := rA3.else hd3 (by omega)
  have qB3 := rB3.else hd3 (by omega)
  have qe3 := he3.trans hd3
  clear rA3 rB3 hR3 he3 hd3
  have c30 := qA3.cell 6
  rw [show (Tr.cells ⟨x0, y0, x1, y1, x2, y2, 0, 0, 0, 0, 0, 0, 0⟩)[6]? = some (.int .u64 (0 : Nat)) from rfl] at c30
  have f30 := qA3.frozen 6
  have c31 := qA3.cell 7
  rw [show (Tr.cells ⟨x0, y0, x1, y1, x2, y2, 0, 0, 0, 0, 0, 0, 0⟩)[7]? = some (.int .u64 (0 : Nat)) from rfl] at c31
  have f31 := qA3.frozen 7
  have rA4 : Row ((v3.setCell ⟨w.heap.size + 1, 6, none⟩ (.int .u64 (x3 : Nat))).setCell ⟨w.heap.size + 1, 7, none⟩ (.int .u64 (y3 : Nat))) (w.heap.size + 1) (Tr.cells ⟨x0, y0, x1, y1, x2, y2, x3, y3, 0, 0, 0, 0, 0⟩) 71 := ((qA3.set 6 (.int .u64 (x3 : Nat))).set 7 (.int .u64 (y3 : Nat)))
  have rB4 : Row ((v3.setCell ⟨w.heap.size + 1, 6, none⟩ (.int .u64 (x3 : Nat))).setCell ⟨w.heap.size + 1, 7, none⟩ (.int .u64 (y3 : Nat))) w.heap.size (Tr.cells ⟨0, 0, 0, 0, 0, 0, 0, 0, 0, 0, 0, 0, 0⟩) 71 := ((qB3.setOther (a := ⟨w.heap.size + 1, 6, none⟩) (.int .u64 (x3 : Nat)) (by simp)).setOther (a := ⟨w.heap.size + 1, 7, none⟩) (.int .u64 (y3 : Nat)) (by simp))
  have hR4 : RdAt ((v3.setCell ⟨w.heap.size + 1, 6, none⟩ (.int .u64 (x3 : Nat))).setCell ⟨w.heap.size + 1, 7, none⟩ (.int .u64 (y3 : Nat))) R D t3 := ((hq3.set (A := w.heap.size + 1) 6 (.int .u64 (x3 : Nat)) (by omega) (by omega)).set (A := w.heap.size + 1) 7 (.int .u64 (y3 : Nat)) (by omega) (by omega))
  have he4 : Else R w ((v3.setCell ⟨w.heap.size + 1, 6, none⟩ (.int .u64 (x3 : Nat))).setCell ⟨w.heap.size + 1, 7, none⟩ (.int .u64 (y3 : Nat))) := ((qe3.setNew (A := w.heap.size + 1) (by omega) 6 (.int .u64 (x3 : Nat))).setNew (A := w.heap.size + 1) (by omega) 7 (.int .u64 (y3 : Nat)))
  clear qA3 qB3 hq3 qe3
  go_wp2_with (go_at_call 31; refine stop ?_)
  refine (rnum2 _ R D _ hR4).mono ?_
  rintro e v4 ⟨x4, y4, t4, hx4, hy4, ht4, rfl, hq4, hd4⟩
  have qA4 := rA4.else hd4 (by omega)
  have qB4 := rB4.else hd4 (by omega)
  have qe4 := he4.trans hd4
  clear rA4 rB4 hR4 he4 hd4
  have c40 := qA4.cell 8
  rw [show (Tr.cells ⟨x0, y0, x1, y1, x2, y2, x3, y3, 0, 0, 0, 0, 0⟩)[8]? = some (.int .u64 (0 : Nat)) from rfl] at c40
  have f40 := qA4.frozen 8
  have c41 := qA4.cell 9
  rw [show (Tr.cells ⟨x0, y0, x1, y1, x2, y2, x3, y3, 0, 0, 0, 0, 0⟩)[9]? = some (.int .u64 (0 : Nat)) from rfl] at c41
  have f41 := qA4.frozen 9
  have rA5 : Row ((v4.setCell ⟨w.heap.size + 1, 8, none⟩ (.int .u64 (x4 : Nat))).setCell ⟨w.heap.size + 1, 9, none⟩ (.int .u64 (y4 : Nat))) (w.heap.size + 1) (Tr.cells ⟨x0, y0, x1, y1, x2, y2, x3, y3, x4, y4, 0, 0, 0⟩) 71 := ((qA4.set 8 (.int .u64 (x4 : Nat))).set 9 (.int .u64 (y4 : Nat)))
  have rB5 : Row ((v4.setCell ⟨w.heap.size + 1, 8, none⟩ (.int .u64 (x4 : Nat))).setCell ⟨w.heap.size + 1, 9, none⟩ (.int .u64 (y4 : Nat))) w.heap.size (Tr.cells ⟨0, 0, 0, 0, 0, 0, 0, 0, 0, 0, 0, 0, 0⟩) 71 := ((qB4.setOther (a := ⟨w.heap.size + 1, 8, none⟩) (.int .u64 (x4 : Nat)) (by simp)).setOther (a := ⟨w.heap.size + 1, 9, none⟩) (.int .u64 (y4 : Nat)) (by simp))
  have hR5 : RdAt ((v4.setCell ⟨w.heap.size + 1, 8, none⟩ (.int .u64 (x4 : Nat))).setCell ⟨w.heap.size + 1, 9, none⟩ (.int .u64 (y4 : Nat))) R D t4 := ((hq4.set (A := w.heap.size + 1) 8 (.int .u64 (x4 : Nat)) (by omega) (by omega)).set (A := w.heap.size + 1) 9 (.int .u64 (y4 : Nat)) (by omega) (by omega))
  have he5 : Else R w ((v4.setCell ⟨w.heap.size + 1, 8, none⟩ (.int .u64 (x4 : Nat))).setCell ⟨w.heap.size + 1, 9, none⟩ (.int .u64 (y4 : Nat))) := ((qe4.setNew (A := w.heap.size + 1) (by omega) 8 (.int .u64 (x4 : Nat))).setNew (A := w.heap.size + 1) (by omega) 9 (.int .u64 (y4 : Nat)))
  clear qA4 qB4 hq4 qe4
  go_wp2_with (go_at_call 29; refine stop ?_)
  refine (rint2 4 (by decide) _ rfl _ R D _ hR5).mono ?_
  rintro e v5 ⟨x5, t5, hx5, ht5, rfl, hq5, hd5⟩
  have qA5 := rA5.else hd5 (by omega)
  have qB5 := rB5.else hd5 (by omega)
  have qe5 := he5.trans hd5
  clear rA5 rB5 hR5 he5 hd5
  have c50 := qA5.cell 10
  rw [show (Tr.cells ⟨x0, y0, x1, y1, x2, y2, x3, y3, x4, y4, 0, 0, 0⟩)[10]? = some (.int .i64 (0 : Nat)) from rfl] at c50
  have f50 := qA5.frozen 10
  have rA6 : Row (v5.setCell ⟨w.heap.size + 1, 10, none⟩ (.int .i64 (x5 : Nat))) (w.heap.size + 1) (Tr.cells ⟨x0, y0, x1, y1, x2, y2, x3, y3, x4, y4, x5, 0, 0⟩) 71 := (qA5.set 10 (.int .i64 (x5 : Nat)))
  have rB6 : Row (v5.setCell ⟨w.heap.size + 1, 10, none⟩ (.int .i64 (x5 : Nat))) w.heap.size (Tr.cells ⟨0, 0, 0, 0, 0, 0, 0, 0, 0, 0, 0, 0, 0⟩) 71 := (qB5.setOther (a := ⟨w.heap.size + 1, 10, none⟩) (.int .i64 (x5 : Nat)) (by simp))
  have hR6 : RdAt (v5.setCell ⟨w.heap.size + 1, 10, none⟩ (.int .i64 (x5 : Nat))) R D t5 := (hq5.set (A := w.heap.size + 1) 10 (.int .i64 (x5 : Nat)) (by omega) (by omega))
  have he6 : Else R w (v5.setCell ⟨w.heap.size + 1, 10, none⟩ (.int .i64 (x5 : Nat))) := (qe5.setNew (A := w.heap.size + 1) (by omega) 10 (.int .i64 (x5 : Nat)))
  clear qA5 qB5 hq5 qe5
  go_wp2_with (go_at_call 29; refine stop ?_)
  refine (rint2 4 (by decide) _ rfl _ R D _ hR6).mono ?_
  rintro e v6 ⟨x6, t6, hx6, ht6, rfl, hq6, hd6⟩
  have qA6 := rA6.else hd6 (by omega)
  have qB6 := rB6.else hd6 (by omega)
  have qe6 := he6.trans hd6
  clear rA6 rB6 hR6 he6 hd6
  have c60 := qA6.cell 11
  rw [show (Tr.cells ⟨x0, y0, x1, y1, x2, y2, x3, y3, x4, y4, x5, 0, 0⟩)[11]? = some (.int .i64 (0 : Nat)) from rfl] at c60
  have f60 := qA6.frozen 11
  have rA7 : Row (v6.setCell ⟨w.heap.size + 1, 11, none⟩ (.int .i64 (x6 : Nat))) (w.heap.size + 1) (Tr.cells ⟨x0, y0, x1, y1, x2, y2, x3, y3, x4, y4, x5, x6, 0⟩) 71 := (qA6.set 11 (.int .i64 (x6 : Nat)))
  have rB7 : Row (v6.setCell ⟨w.heap.size + 1, 11, none⟩ (.int .i64 (x6 : Nat))) w.heap.size (Tr.cells ⟨0, 0, 0, 0, 0, 0, 0, 0, 0, 0, 0, 0, 0⟩) 71 := (qB6.setOther (a := ⟨w.heap.size + 1, 11, none⟩) (.int .i64 (x6 : Nat)) (by simp))
  have hR7 : RdAt (v6.setCell ⟨w.heap.size + 1, 11, none⟩ (.int .i64 (x6 : Nat))) R D t6 := (hq6.set (A := w.heap.size + 1) 11 (.int .i64 (x6 : Nat)) (by omega) (by omega))
  have he7 : Else R w (v6.setCell ⟨w.heap.size + 1, 11, none⟩ (.int .i64 (x6 : Nat))) := (qe6.setNew (A := w.heap.size + 1) (by omega) 11 (.int .i64 (x6 : Nat)))
  clear qA6 qB6 hq6 qe6
  go_wp2_with (go_at_call 29; refine stop ?_)
  refine (rint2 2 (by decide) _ rfl _ R D _ hR7).mono ?_
  rintro e v7 ⟨x7, t7, hx7, ht7, rfl, hq7, hd7⟩
  have qA7 := rA7.else hd7 (by omega)
  have qB7 := rB7.else hd7 (by omega)
  have qe7 := he7.trans hd7
  clear rA7 rB7 hR7 he7 hd7
  have c70 := qA7.cell 12
  rw [show (Tr.cells ⟨x0, y0, x1, y1, x2, y2, x3, y3, x4, y4, x5, x6, 0⟩)[12]? = some (.int .i64 (0 : Nat)) from rfl] at c70
  have f70 := qA7.frozen 12
  have rA8 : Row (v7.setCell ⟨w.heap.size + 1, 12, none⟩ (.int .i64 (x7 : Nat))) (w.heap.size + 1) (Tr.cells ⟨x0, y0, x1, y1, x2, y2, x3, y3, x4, y4, x5, x6, x7⟩) 71 := (qA7.set 12 (.int .i64 (x7 : Nat)))
  have rB8 : Row (v7.setCell ⟨w.heap.size + 1, 12, none⟩ (.int .i64 (x7 : Nat))) w.heap.size (Tr.cells ⟨0, 0, 0, 0, 0, 0, 0, 0, 0, 0, 0, 0, 0⟩) 71 := (qB7.setOther (a := ⟨w.heap.size + 1, 12, none⟩) (.int .i64 (x7 : Nat)) (by simp))
  have hR8 : RdAt (v7.setCell ⟨w.heap.size + 1, 12, none⟩ (.int .i64 (x7 : Nat))) R D t7 := (hq7.set (A := w.heap.size + 1) 12 (.int .i64 (x7 : Nat)) (by omega) (by omega))
  have he8 : Else R w (v7.setCell ⟨w.heap.size + 1, 12, none⟩ (.int .i64 (x7 : Nat))) := (qe7.setNew (A := w.heap.size + 1) (by omega) 12 (.int .i64 (x7 : Nat)))
  clear qA7 qB7 hq7 qe7
  go_wp2_with (first | refine wpList_load_row rfl 71 _ rfl (w.heap.size + 1) rfl 71 (Tr.cells ⟨x0, y0, x1, y1, x2, y2, x3, y3, x4, y4, x5, x6, x7⟩) (0, 0) _ rA8 Try.underlying71 rfl info_tr ?_ | refine wpList_store_row rfl 71 _ _ rfl w.heap.size (Tr.cells ⟨x0, y0, x1, y1, x2, y2, x3, y3, x4, y4, x5, x6, x7⟩) rfl rfl 71 _ rB8 info_tr rfl (Tr.one _) ?_)
  refine bodyPost_ret (v := .agg (Tr.cells ⟨x0, y0, x1, y1, x2, y2, x3, y3, x4, y4, x5, x6, x7⟩)) (results_cell_row Try.results48 _ _ w.heap.size 71 (Tr.cells ⟨x0, y0, x1, y1, x2, y2, x3, y3, x4, y4, x5, x6, x7⟩) (0, 0) _ ?hp ?hg Try.underlying71 rfl info_tr) rfl ⟨?he, ?hr, he8.rowNew (Nat.le_refl _) _⟩
  case hp => rfl
  case hg => exact rB8.setRow _
  case he =>
    obtain rfl := hx0.out ; obtain rfl := hy0.out ; obtain rfl := ht0.out; obtain rfl := hx1.out ; obtain rfl := hy1.out ; obtain rfl := ht1.out; obtain rfl := hx2.out ; obtain rfl := hy2.out ; obtain rfl := ht2.out; obtain rfl := hx3.out ; obtain rfl := hy3.out ; obtain rfl := ht3.out; obtain rfl := hx4.out ; obtain rfl := hy4.out ; obtain rfl := ht4.out; obtain rfl := hx5.out ; obtain rfl := ht5.out; obtain rfl := hx6.out ; obtain rfl := ht6.out; obtain rfl := hx7.out ; obtain rfl := ht7.out
    rfl
  case hr =>
    have hz := hR8.setRow (A := w.heap.size) (Tr.cells ⟨x0, y0, x1, y1, x2, y2, x3, y3, x4, y4, x5, x6, x7⟩) (by omega) (by omega)
    obtain rfl := hx0.out ; obtain rfl := hy0.out ; obtain rfl := ht0.out; obtain rfl := hx1.out ; obtain rfl := hy1.out ; obtain rfl := ht1.out; obtain rfl := hx2.out ; obtain rfl := hy2.out ; obtain rfl := ht2.out; obtain rfl := hx3.out ; obtain rfl := hy3.out ; obtain rfl := ht3.out; obtain rfl := hx4.out ; obtain rfl := hy4.out ; obtain rfl := ht4.out; obtain rfl := hx5.out ; obtain rfl := ht5.out; obtain rfl := hx6.out ; obtain rfl := ht6.out; obtain rfl := hx7.out ; obtain rfl := ht7.out
    exact hz

end Go.Proofs.Ytekpkbmelhgneaa
