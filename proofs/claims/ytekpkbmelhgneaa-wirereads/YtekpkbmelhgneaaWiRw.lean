
/-
  package wire's Reader: ReadRow. For all bytes.
-/
import Derived.Test.YtekpkbmelhgneaaWiE
import Derived.Test.YtekpkbmelhgneaaWiAv
namespace Go.Proofs.Ytekpkbmelhgneaa
open Go.RowKit
set_option maxRecDepth 100000
set_option linter.unusedSimpArgs false
set_option linter.unusedVariables false

/-- A row; its cells. -/
structure Rw where
  h0 : Nat
  l0 : Nat
  tm : Nat
  rs : Int
  h1 : Nat
  l1 : Nat
  h2 : Nat
  l2 : Nat
  h3 : Nat
  l3 : Nat
  h4 : Nat
  l4 : Nat
  h5 : Nat
  l5 : Nat
def Rw.cells (a : Rw) : Array Value := #[.int .u64 a.h0, .int .u64 a.l0, .int .i64 a.tm, .int .i64 a.rs, .int .u64 a.h1, .int .u64 a.l1, .int .u64 a.h2, .int .u64 a.l2, .int .u64 a.h3, .int .u64 a.l3, .int .u64 a.h4, .int .u64 a.l4, .int .u64 a.h5, .int .u64 a.l5]
theorem row_lit : (#[.int .u64 0, .int .u64 0, .int .i64 0, .int .i64 0, .int .u64 0, .int .u64 0, .int .u64 0, .int .u64 0, .int .u64 0, .int .u64 0, .int .u64 0, .int .u64 0, .int .u64 0, .int .u64 0] : Array Value) = Rw.cells ⟨0, 0, 0, 0, 0, 0, 0, 0, 0, 0, 0, 0, 0, 0⟩ := rfl
theorem Rw.one (a : Rw) : a.cells.all (·.oneCell') = true := by simp [Rw.cells, Value.oneCell']
theorem rI_two_le {w : World} {R D : Nat} {s : List Nat × Bool} (h : RdAt w R D s) : rI 2 s ≤ 65535 := by
  have h1 := be_lt _ (rTake_w8 (n := 2) h.w8)
  have h2 := Nat.pow_le_pow_right (n := 256) (by decide) (rTake_len 2 s)
  unfold rI
  omega
def rRw (s : List Nat × Bool) : Rw := ⟨rHi (s), rLo (s), rI 6 (rDrop 16 (s)), (rI 2 (rDrop 6 (rDrop 16 (s))) : Int) - 1, rHi (rDrop 2 (rDrop 6 (rDrop 16 (s)))), rLo (rDrop 2 (rDrop 6 (rDrop 16 (s)))), rHi (rDrop 16 (rDrop 2 (rDrop 6 (rDrop 16 (s))))), rLo (rDrop 16 (rDrop 2 (rDrop 6 (rDrop 16 (s))))), rHi (rDrop 16 (rDrop 16 (rDrop 2 (rDrop 6 (rDrop 16 (s)))))), rLo (rDrop 16 (rDrop 16 (rDrop 2 (rDrop 6 (rDrop 16 (s)))))), rHi (rDrop 16 (rDrop 16 (rDrop 16 (rDrop 2 (rDrop 6 (rDrop 16 (s))))))), rLo (rDrop 16 (rDrop 16 (rDrop 16 (rDrop 2 (rDrop 6 (rDrop 16 (s))))))), rHi (rDrop 16 (rDrop 16 (rDrop 16 (rDrop 16 (rDrop 2 (rDrop 6 (rDrop 16 (s)))))))), rLo (rDrop 16 (rDrop 16 (rDrop 16 (rDrop 16 (rDrop 2 (rDrop 6 (rDrop 16 (s))))))))⟩
def rRwS (s : List Nat × Bool) : List Nat × Bool := rDrop 16 (rDrop 16 (rDrop 16 (rDrop 16 (rDrop 16 (rDrop 2 (rDrop 6 (rDrop 16 (s))))))))

set_option maxHeartbeats 2000000 in
theorem readRow_any (w : World) (R D : Nat) (s : List Nat × Bool) (h : RdAt w R D s) :
    Calls Try.prog 22 #[.pointer (some ⟨R, 0, none⟩)] w fun e w' => e = .returned (.agg (Rw.cells (rRw s))) ∧ RdAt w' R D (rRwS s) ∧ Else R w w' := by
  have hlt := h.lt
  have hdl := h.dl
  go_enter Try.func22, Try.ntmps22
  go_wp2_with (go_at_call 31; refine stop ?_)
  rw [row_lit]
  have rA0 : Row ((w.alloc (.cells (Rw.cells ⟨0, 0, 0, 0, 0, 0, 0, 0, 0, 0, 0, 0, 0, 0⟩) 44)).alloc (.cells (Rw.cells ⟨0, 0, 0, 0, 0, 0, 0, 0, 0, 0, 0, 0, 0, 0⟩) 44)) (w.heap.size + 1) (Rw.cells ⟨0, 0, 0, 0, 0, 0, 0, 0, 0, 0, 0, 0, 0, 0⟩) 44 := Row.new _ _ _ (by simp)
  have rB0 : Row ((w.alloc (.cells (Rw.cells ⟨0, 0, 0, 0, 0, 0, 0, 0, 0, 0, 0, 0, 0, 0⟩) 44)).alloc (.cells (Rw.cells ⟨0, 0, 0, 0, 0, 0, 0, 0, 0, 0, 0, 0, 0, 0⟩) 44)) w.heap.size (Rw.cells ⟨0, 0, 0, 0, 0, 0, 0, 0, 0, 0, 0, 0, 0, 0⟩) 44 := (Row.new w (Rw.cells ⟨0, 0, 0, 0, 0, 0, 0, 0, 0, 0, 0, 0, 0, 0⟩) 44 rfl).alloc _
  have hR0 := (h.alloc (.cells (Rw.cells ⟨0, 0, 0, 0, 0, 0, 0, 0, 0, 0, 0, 0, 0, 0⟩) 44)).alloc (.cells (Rw.cells ⟨0, 0, 0, 0, 0, 0, 0, 0, 0, 0, 0, 0, 0, 0⟩) 44)
  have he0 : Else R w ((w.alloc (.cells (Rw.cells ⟨0, 0, 0, 0, 0, 0, 0, 0, 0, 0, 0, 0, 0, 0⟩) 44)).alloc (.cells (Rw.cells ⟨0, 0, 0, 0, 0, 0, 0, 0, 0, 0, 0, 0, 0, 0⟩) 44)) := Else.of (below2 w _ _)
  generalize (w.alloc (.cells (Rw.cells ⟨0, 0, 0, 0, 0, 0, 0, 0, 0, 0, 0, 0, 0, 0⟩) 44)).alloc (.cells (Rw.cells ⟨0, 0, 0, 0, 0, 0, 0, 0, 0, 0, 0, 0, 0, 0⟩) 44) = w0 at *
  refine (rnum2 _ R D _ hR0).mono ?_
  rintro e v0 ⟨x0, y0, t0, hx0, hy0, ht0, rfl, hq0, hd0⟩
  have qA0 := rA0.else hd0 (by omega)
  have qB0 := rB0.else hd0 (by omega)
  have qe0 := he0.trans hd0
  clear rA0 rB0 hR0 he0 hd0
  have c00 := qA0.cell 0
  rw [show (Rw.cells ⟨0, 0, 0, 0, 0, 0, 0, 0, 0, 0, 0, 0, 0, 0⟩)[0]? = some (.int .u64 (0 : Nat)) from rfl] at c00
  have f00 := qA0.frozen 0
  have c01 := qA0.cell 1
  rw [show (Rw.cells ⟨0, 0, 0, 0, 0, 0, 0, 0, 0, 0, 0, 0, 0, 0⟩)[1]? = some (.int .u64 (0 : Nat)) from rfl] at c01
  have f01 := qA0.frozen 1
  have rA1 : Row ((v0.setCell ⟨w.heap.size + 1, 0, none⟩ (.int .u64 (x0 : Nat))).setCell ⟨w.heap.size + 1, 1, none⟩ (.int .u64 (y0 : Nat))) (w.heap.size + 1) (Rw.cells ⟨x0, y0, 0, 0, 0, 0, 0, 0, 0, 0, 0, 0, 0, 0⟩) 44 := ((qA0.set 0 (.int .u64 (x0 : Nat))).set 1 (.int .u64 (y0 : Nat)))
  have rB1 : Row ((v0.setCell ⟨w.heap.size + 1, 0, none⟩ (.int .u64 (x0 : Nat))).setCell ⟨w.heap.size + 1, 1, none⟩ (.int .u64 (y0 : Nat))) w.heap.size (Rw.cells ⟨0, 0, 0, 0, 0, 0, 0, 0, 0, 0, 0, 0, 0, 0⟩) 44 := ((qB0.setOther (a := ⟨w.heap.size + 1, 0, none⟩) (.int .u64 (x0 : Nat)) (by simp)).setOther (a := ⟨w.heap.size + 1, 1, none⟩) (.int .u64 (y0 : Nat)) (by simp))
  have hR1 : RdAt ((v0.setCell ⟨w.heap.size + 1, 0, none⟩ (.int .u64 (x0 : Nat))).setCell ⟨w.heap.size + 1, 1, none⟩ (.int .u64 (y0 : Nat))) R D t0 := ((hq0.set (A := w.heap.size + 1) 0 (.int .u64 (x0 : Nat)) (by omega) (by omega)).set (A := w.heap.size + 1) 1 (.int .u64 (y0 : Nat)) (by omega) (by omega))
  have he1 : Else R w ((v0.setCell ⟨w.heap.size + 1, 0, none⟩ (.int .u64 (x0 : Nat))).setCell ⟨w.heap.size + 1, 1, none⟩ (.int .u64 (y0 : Nat))) := ((qe0.setNew (A := w.heap.size + 1) (by omega) 0 (.int .u64 (x0 : Nat))).setNew (A := w.heap.size + 1) (by omega) 1 (.int .u64 (y0 : Nat)))
  clear qA0 qB0 hq0 qe0
  go_wp2_with (go_at_call 29; refine stop ?_)
  refine (rint2 6 (by decide) _ rfl _ R D _ hR1).mono ?_
  rintro e v1 ⟨x1, t1, hx1, ht1, rfl, hq1, hd1⟩
  have qA1 := rA1.else hd1 (by omega)
  have qB1 := rB1.else hd1 (by omega)
  have qe1 := he1.trans hd1
  clear rA1 rB1 hR1 he1 hd1
  have c10 := qA1.cell 2
  rw [show (Rw.cells ⟨x0, y0, 0, 0, 0, 0, 0, 0, 0, 0, 0, 0, 0, 0⟩)[2]? = some (.int .i64 (0 : Nat)) from rfl] at c10
  have f10 := qA1.frozen 2
  have rA2 : Row (v1.setCell ⟨w.heap.size + 1, 2, none⟩ (.int .i64 (x1 : Nat))) (w.heap.size + 1) (Rw.cells ⟨x0, y0, x1, 0, 0, 0, 0, 0, 0, 0, 0, 0, 0, 0⟩) 44 := (qA1.set 2 (.int .i64 (x1 : Nat)))
  have rB2 : Row (v1.setCell ⟨w.heap.size + 1, 2, none⟩ (.int .i64 (x1 : Nat))) w.heap.size (Rw.cells ⟨0, 0, 0, 0, 0, 0, 0, 0, 0, 0, 0, 0, 0, 0⟩) 44 := (qB1.setOther (a := ⟨w.heap.size + 1, 2, none⟩) (.int .i64 (x1 : Nat)) (by simp))
  have hR2 : RdAt (v1.setCell ⟨w.heap.size + 1, 2, none⟩ (.int .i64 (x1 : Nat))) R D t1 := (hq1.set (A := w.heap.size + 1) 2 (.int .i64 (x1 : Nat)) (by omega) (by omega))
  have he2 : Else R w (v1.setCell ⟨w.heap.size + 1, 2, none⟩ (.int .i64 (x1 : Nat))) := (qe1.setNew (A := w.heap.size + 1) (by omega) 2 (.int .i64 (x1 : Nat)))
  clear qA1 qB1 hq1 qe1
  go_wp2_with (go_at_call 29; refine stop ?_)
  refine (rint2 2 (by decide) _ rfl _ R D _ hR2).mono ?_
  rintro e v2 ⟨x2, t2, hx2, ht2, rfl, hq2, hd2⟩
  have xb2 : (x2 : Int) ≤ 65535 := by have := rI_two_le hR2; rw [hx2.out]; omega
  have xa2 : (0 : Int) ≤ (x2 : Int) := by omega
  have qA2 := rA2.else hd2 (by omega)
  have qB2 := rB2.else hd2 (by omega)
  have qe2 := he2.trans hd2
  clear rA2 rB2 hR2 he2 hd2
  have c20 := qA2.cell 3
  rw [show (Rw.cells ⟨x0, y0, x1, 0, 0, 0, 0, 0, 0, 0, 0, 0, 0, 0⟩)[3]? = some (.int .i64 (0 : Nat)) from rfl] at c20
  have f20 := qA2.frozen 3
  have rA3 : Row (v2.setCell ⟨w.heap.size + 1, 3, none⟩ (.int .i64 ((x2 : Int) - 1))) (w.heap.size + 1) (Rw.cells ⟨x0, y0, x1, (x2 : Int) - 1, 0, 0, 0, 0, 0, 0, 0, 0, 0, 0⟩) 44 := (qA2.set 3 (.int .i64 ((x2 : Int) - 1)))
  have rB3 : Row (v2.setCell ⟨w.heap.size + 1, 3, none⟩ (.int .i64 ((x2 : Int) - 1))) w.heap.size (Rw.cells ⟨0, 0, 0, 0, 0, 0, 0, 0, 0, 0, 0, 0, 0, 0⟩) 44 := (qB2.setOther (a := ⟨w.heap.size + 1, 3, none⟩) (.int .i64 ((x2 : Int) - 1)) (by simp))
  have hR3 : RdAt (v2.setCell ⟨w.heap.size + 1, 3, none⟩ (.int .i64 ((x2 : Int) - 1))) R D t2 := (hq2.set (A := w.heap.size + 1) 3 (.int .i64 ((x2 : Int) - 1)) (by omega) (by omega))
  have he3 : Else R w (v2.setCell ⟨w.heap.size + 1, 3, none⟩ (.int .i64 ((x2 : Int) - 1))) := (qe2.setNew (A := w.heap.size + 1) (by omega) 3 (.int .i64 ((x2 : Int) - 1)))
  clear qA2 qB2 hq2 qe2
  go_wp2_with (go_at_call 31; refine stop ?_)
  refine (rnum2 _ R D _ hR3).mono ?_
  rintro e v3 ⟨x3, y3, t3, hx3, hy3, ht3, rfl, hq3, hd3⟩
  have qA3 := rA3.else hd3 (by omega)
  have qB3 := rB3.else hd3 (by omega)
  have qe3 := he3.trans hd3
  clear rA3 rB3 hR3 he3 hd3
  have c30 := qA3.cell 4
  rw [show (Rw.cells ⟨x0, y0, x1, (x2 : Int) - 1, 0, 0, 0, 0, 0, 0, 0, 0, 0, 0⟩)[4]? = some (.int .u64 (0 : Nat)) from rfl] at c30
  have f30 := qA3.frozen 4
  have c31 := qA3.cell 5
  rw [show (Rw.cells ⟨x0, y0, x1, (x2 : Int) - 1, 0, 0, 0, 0, 0, 0, 0, 0, 0, 0⟩)[5]? = some (.int .u64 (0 : Nat)) from rfl] at c31
  have f31 := qA3.frozen 5
  have rA4 : Row ((v3.setCell ⟨w.heap.size + 1, 4, none⟩ (.int .u64 (x3 : Nat))).setCell ⟨w.heap.size + 1, 5, none⟩ (.int .u64 (y3 : Nat))) (w.heap.size + 1) (Rw.cells ⟨x0, y0, x1, (x2 : Int) - 1, x3, y3, 0, 0, 0, 0, 0, 0, 0, 0⟩) 44 := ((qA3.set 4 (.int .u64 (x3 : Nat))).set 5 (.int .u64 (y3 : Nat)))
  have rB4 : Row ((v3.setCell ⟨w.heap.size + 1, 4, none⟩ (.int .u64 (x3 : Nat))).setCell ⟨w.heap.size + 1, 5, none⟩ (.int .u64 (y3 : Nat))) w.heap.size (Rw.cells ⟨0, 0, 0, 0, 0, 0, 0, 0, 0, 0, 0, 0, 0, 0⟩) 44 := ((qB3.setOther (a := ⟨w.heap.size + 1, 4, none⟩) (.int .u64 (x3 : Nat)) (by simp)).setOther (a := ⟨w.heap.size + 1, 5, none⟩) (.int .u64 (y3 : Nat)) (by simp))
  have hR4 : RdAt ((v3.setCell ⟨w.heap.size + 1, 4, none⟩ (.int .u64 (x3 : Nat))).setCell ⟨w.heap.size + 1, 5, none⟩ (.int .u64 (y3 : Nat))) R D t3 := ((hq3.set (A := w.heap.size + 1) 4 (.int .u64 (x3 : Nat)) (by omega) (by omega)).set (A := w.heap.size + 1) 5 (.int .u64 (y3 : Nat)) (by omega) (by omega))
  have he4 : Else R w ((v3.setCell ⟨w.heap.size + 1, 4, none⟩ (.int .u64 (x3 : Nat))).setCell ⟨w.heap.size + 1, 5, none⟩ (.int .u64 (y3 : Nat))) := ((qe3.setNew (A := w.heap.size + 1) (by omega) 4 (.int .u64 (x3 : Nat))).setNew (A := w.heap.size + 1) (by omega) 5 (.int .u64 (y3 : Nat)))
  clear qA3 qB3 hq3 qe3
  go_wp2_with (go_at_call 31; refine stop ?_)
  refine (rnum2 _ R D _ hR4).mono ?_
  rintro e v4 ⟨x4, y4, t4, hx4, hy4, ht4, rfl, hq4, hd4⟩
  have qA4 := rA4.else hd4 (by omega)
  have qB4 := rB4.else hd4 (by omega)
  have qe4 := he4.trans hd4
  clear rA4 rB4 hR4 he4 hd4
  have c40 := qA4.cell 6
  rw [show (Rw.cells ⟨x0, y0, x1, (x2 : Int) - 1, x3, y3, 0, 0, 0, 0, 0, 0, 0, 0⟩)[6]? = some (.int .u64 (0 : Nat)) from rfl] at c40
  have f40 := qA4.frozen 6
  have c41 := qA4.cell 7
  rw [show (Rw.cells ⟨x0, y0, x1, (x2 : Int) - 1, x3, y3, 0, 0, 0, 0, 0, 0, 0, 0⟩)[7]? = some (.int .u64 (0 : Nat)) from rfl] at c41
  have f41 := qA4.frozen 7
  have rA5 : Row ((v4.setCell ⟨w.heap.size + 1, 6, none⟩ (.int .u64 (x4 : Nat))).setCell ⟨w.heap.size + 1, 7, none⟩ (.int .u64 (y4 : Nat))) (w.heap.size + 1) (Rw.cells ⟨x0, y0, x1, (x2 : Int) - 1, x3, y3, x4, y4, 0, 0, 0, 0, 0, 0⟩) 44 := ((qA4.set 6 (.int .u64 (x4 : Nat))).set 7 (.int .u64 (y4 : Nat)))
  have rB5 : Row ((v4.setCell ⟨w.heap.size + 1, 6, none⟩ (.int .u64 (x4 : Nat))).setCell ⟨w.heap.size + 1, 7, none⟩ (.int .u64 (y4 : Nat))) w.heap.size (Rw.cells ⟨0, 0, 0, 0, 0, 0, 0, 0, 0, 0, 0, 0, 0, 0⟩) 44 := ((qB4.setOther (a := ⟨w.heap.size + 1, 6, none⟩) (.int .u64 (x4 : Nat)) (by simp)).setOther (a := ⟨w.heap.size + 1, 7, none⟩) (.int .u64 (y4 : Nat)) (by simp))
  have hR5 : RdAt ((v4.setCell ⟨w.heap.size + 1, 6, none⟩ (.int .u64 (x4 : Nat))).setCell ⟨w.heap.size + 1, 7, none⟩ (.int .u64 (y4 : Nat))) R D t4 := ((hq4.set (A := w.heap.size + 1) 6 (.int .u64 (x4 : Nat)) (by omega) (by omega)).set (A := w.heap.size + 1) 7 (.int .u64 (y4 : Nat)) (by omega) (by omega))
  have he5 : Else R w ((v4.setCell ⟨w.heap.size + 1, 6, none⟩ (.int .u64 (x4 : Nat))).setCell ⟨w.heap.size + 1, 7, none⟩ (.int .u64 (y4 : Nat))) := ((qe4.setNew (A := w.heap.size + 1) (by omega) 6 (.int .u64 (x4 : Nat))).setNew (A := w.heap.size + 1) (by omega) 7 (.int .u64 (y4 : Nat)))
  clear qA4 qB4 hq4 qe4
  go_wp2_with (go_at_call 31; refine stop ?_)
  refine (rnum2 _ R D _ hR5).mono ?_
  rintro e v5 ⟨x5, y5, t5, hx5, hy5, ht5, rfl, hq5, hd5⟩
  have qA5 := rA5.else hd5 (by omega)
  have qB5 := rB5.else hd5 (by omega)
  have qe5 := he5.trans hd5
  clear rA5 rB5 hR5 he5 hd5
  have c50 := qA5.cell 8
  rw [show (Rw.cells ⟨x0, y0, x1, (x2 : Int) - 1, x3, y3, x4, y4, 0, 0, 0, 0, 0, 0⟩)[8]? = some (.int .u64 (0 : Nat)) from rfl] at c50
  have f50 := qA5.frozen 8
  have c51 := qA5.cell 9
  rw [show (Rw.cells ⟨x0, y0, x1, (x2 : Int) - 1, x3, y3, x4, y4, 0, 0, 0, 0, 0, 0⟩)[9]? = some (.int .u64 (0 : Nat)) from rfl] at c51
  have f51 := qA5.frozen 9
  have rA6 : Row ((v5.setCell ⟨w.heap.size + 1, 8, none⟩ (.int .u64 (x5 : Nat))).setCell ⟨w.heap.size + 1, 9, none⟩ (.int .u64 (y5 : Nat))) (w.heap.size + 1) (Rw.cells ⟨x0, y0, x1, (x2 : Int) - 1, x3, y3, x4, y4, x5, y5, 0, 0, 0, 0⟩) 44 := ((qA5.set 8 (.int .u64 (x5 : Nat))).set 9 (.int .u64 (y5 : Nat)))
  have rB6 : Row ((v5.setCell ⟨w.heap.size + 1, 8, none⟩ (.int .u64 (x5 : Nat))).setCell ⟨w.heap.size + 1, 9, none⟩ (.int .u64 (y5 : Nat))) w.heap.size (Rw.cells ⟨0, 0, 0, 0, 0, 0, 0, 0, 0, 0, 0, 0, 0, 0⟩) 44 := ((qB5.setOther (a := ⟨w.heap.size + 1, 8, none⟩) (.int .u64 (x5 : Nat)) (by simp)).setOther (a := ⟨w.heap.size + 1, 9, none⟩) (.int .u64 (y5 : Nat)) (by simp))
  have hR6 : RdAt ((v5.setCell ⟨w.heap.size + 1, 8, none⟩ (.int .u64 (x5 : Nat))).setCell ⟨w.heap.size + 1, 9, none⟩ (.int .u64 (y5 : Nat))) R D t5 := ((hq5.set (A := w.heap.size + 1) 8 (.int .u64 (x5 : Nat)) (by omega) (by omega)).set (A := w.heap.size + 1) 9 (.int .u64 (y5 : Nat)) (by omega) (by omega))
  have he6 : Else R w ((v5.setCell ⟨w.heap.size + 1, 8, none⟩ (.int .u64 (x5 : Nat))).setCell ⟨w.heap.size + 1, 9, none⟩ (.int .u64 (y5 : Nat))) := ((qe5.setNew (A := w.heap.size + 1) (by omega) 8 (.int .u64 (x5 : Nat))).setNew (A := w.heap.size + 1) (by omega) 9 (.int .u64 (y5 : Nat)))
  clear qA5 qB5 hq5 qe5
  go_wp2_with (go_at_call 31; refine stop ?_)
  refine (rnum2 _ R D _ hR6).mono ?_
  rintro e v6 ⟨x6, y6, t6, hx6, hy6, ht6, rfl, hq6, hd6⟩
  have qA6 := rA6.else hd6 (by omega)
  have qB6 := rB6.else hd6 (by omega)
  have qe6 := he6.trans hd6
  clear rA6 rB6 hR6 he6 hd6
  have c60 := qA6.cell 10
  rw [show (Rw.cells ⟨x0, y0, x1, (x2 : Int) - 1, x3, y3, x4, y4, x5, y5, 0, 0, 0, 0⟩)[10]? = some (.int .u64 (0 : Nat)) from rfl] at c60
  have f60 := qA6.frozen 10
  have c61 := qA6.cell 11
  rw [show (Rw.cells ⟨x0, y0, x1, (x2 : Int) - 1, x3, y3, x4, y4, x5, y5, 0, 0, 0, 0⟩)[11]? = some (.int .u64 (0 : Nat)) from rfl] at c61
  have f61 := qA6.frozen 11
  have rA7 : Row ((v6.setCell ⟨w.heap.size + 1, 10, none⟩ (.int .u64 (x6 : Nat))).setCell ⟨w.heap.size + 1, 11, none⟩ (.int .u64 (y6 : Nat))) (w.heap.size + 1) (Rw.cells ⟨x0, y0, x1, (x2 : Int) - 1, x3, y3, x4, y4, x5, y5, x6, y6, 0, 0⟩) 44 := ((qA6.set 10 (.int .u64 (x6 : Nat))).set 11 (.int .u64 (y6 : Nat)))
  have rB7 : Row ((v6.setCell ⟨w.heap.size + 1, 10, none⟩ (.int .u64 (x6 : Nat))).setCell ⟨w.heap.size + 1, 11, none⟩ (.int .u64 (y6 : Nat))) w.heap.size (Rw.cells ⟨0, 0, 0, 0, 0, 0, 0, 0, 0, 0, 0, 0, 0, 0⟩) 44 := ((qB6.setOther (a := ⟨w.heap.size + 1, 10, none⟩) (.int .u64 (x6 : Nat)) (by simp)).setOther (a := ⟨w.heap.size + 1, 11, none⟩) (.int .u64 (y6 : Nat)) (by simp))
  have hR7 : RdAt ((v6.setCell ⟨w.heap.size + 1, 10, none⟩ (.int .u64 (x6 : Nat))).setCell ⟨w.heap.size + 1, 11, none⟩ (.int .u64 (y6 : Nat))) R D t6 := ((hq6.set (A := w.heap.size + 1) 10 (.int .u64 (x6 : Nat)) (by omega) (by omega)).set (A := w.heap.size + 1) 11 (.int .u64 (y6 : Nat)) (by omega) (by omega))
  have he7 : Else R w ((v6.setCell ⟨w.heap.size + 1, 10, none⟩ (.int .u64 (x6 : Nat))).setCell ⟨w.heap.size + 1, 11, none⟩ (.int .u64 (y6 : Nat))) := ((qe6.setNew (A := w.heap.size + 1) (by omega) 10 (.int .u64 (x6 : Nat))).setNew (A := w.heap.size + 1) (by omega) 11 (.int .u64 (y6 : Nat)))
  clear qA6 qB6 hq6 qe6
  go_wp2_with (go_at_call 31; refine stop ?_)
  refine (rnum2 _ R D _ hR7).mono ?_
  rintro e v7 ⟨x7, y7, t7, hx7, hy7, ht7, rfl, hq7, hd7⟩
  have qA7 := rA7.else hd7 (by omega)
  have qB7 := rB7.else hd7 (by omega)
  have qe7 := he7.trans hd7
  clear rA7 rB7 hR7 he7 hd7
  have c70 := qA7.cell 12
  rw [show (Rw.cells ⟨x0, y0, x1, (x2 : Int) - 1, x3, y3, x4, y4, x5, y5, x6, y6, 0, 0⟩)[12]? = some (.int .u64 (0 : Nat)) from rfl] at c70
  have f70 := qA7.frozen 12
  have c71 := qA7.cell 13
  rw [show (Rw.cells ⟨x0, y0, x1, (x2 : Int) - 1, x3, y3, x4, y4, x5, y5, x6, y6, 0, 0⟩)[13]? = some (.int .u64 (0 : Nat)) from rfl] at c71
  have f71 := qA7.frozen 13
  have rA8 : Row ((v7.setCell ⟨w.heap.size + 1, 12, none⟩ (.int .u64 (x7 : Nat))).setCell ⟨w.heap.size + 1, 13, none⟩ (.int .u64 (y7 : Nat))) (w.heap.size + 1) (Rw.cells ⟨x0, y0, x1, (x2 : Int) - 1, x3, y3, x4, y4, x5, y5, x6, y6, x7, y7⟩) 44 := ((qA7.set 12 (.int .u64 (x7 : Nat))).set 13 (.int .u64 (y7 : Nat)))
  have rB8 : Row ((v7.setCell ⟨w.heap.size + 1, 12, none⟩ (.int .u64 (x7 : Nat))).setCell ⟨w.heap.size + 1, 13, none⟩ (.int .u64 (y7 : Nat))) w.heap.size (Rw.cells ⟨0, 0, 0, 0, 0, 0, 0, 0, 0, 0, 0, 0, 0, 0⟩) 44 := ((qB7.setOther (a := ⟨w.heap.size + 1, 12, none⟩) (.int .u64 (x7 : Nat)) (by simp)).setOther (a := ⟨w.heap.size + 1, 13, none⟩) (.int .u64 (y7 : Nat)) (by simp))
  have hR8 : RdAt ((v7.setCell ⟨w.heap.size + 1, 12, none⟩ (.int .u64 (x7 : Nat))).setCell ⟨w.heap.size + 1, 13, none⟩ (.int .u64 (y7 : Nat))) R D t7 := ((hq7.set (A := w.heap.size + 1) 12 (.int .u64 (x7 : Nat)) (by omega) (by omega)).set (A := w.heap.size + 1) 13 (.int .u64 (y7 : Nat)) (by omega) (by omega))
  have he8 : Else R w ((v7.setCell ⟨w.heap.size + 1, 12, none⟩ (.int .u64 (x7 : Nat))).setCell ⟨w.heap.size + 1, 13, none⟩ (.int .u64 (y7 : Nat))) := ((qe7.setNew (A := w.heap.size + 1) (by omega) 12 (.int .u64 (x7 : Nat))).setNew (A := w.heap.size + 1) (by omega) 13 (.int .u64 (y7 : Nat)))
  clear qA7 qB7 hq7 qe7
  go_wp2_with (first | refine wpList_load_row rfl 44 _ rfl (w.heap.size + 1) rfl 44 (Rw.cells ⟨x0, y0, x1, (x2 : Int) - 1, x3, y3, x4, y4, x5, y5, x6, y6, x7, y7⟩) (0, 0) _ rA8 Try.underlying44 rfl info_row ?_ | refine wpList_store_row rfl 44 _ _ rfl w.heap.size (Rw.cells ⟨x0, y0, x1, (x2 : Int) - 1, x3, y3, x4, y4, x5, y5, x6, y6, x7, y7⟩) rfl rfl 44 _ rB8 info_row rfl (Rw.one _) ?_)
  refine bodyPost_ret (v := .agg (Rw.cells ⟨x0, y0, x1, (x2 : Int) - 1, x3, y3, x4, y4, x5, y5, x6, y6, x7, y7⟩)) (results_cell_row Try.results22 _ _ w.heap.size 44 (Rw.cells ⟨x0, y0, x1, (x2 : Int) - 1, x3, y3, x4, y4, x5, y5, x6, y6, x7, y7⟩) (0, 0) _ ?hp ?hg Try.underlying44 rfl info_row) rfl ⟨?he, ?hr, he8.rowNew (Nat.le_refl _) _⟩
  case hp => rfl
  case hg => exact rB8.setRow _
  case he =>
    obtain rfl := hx0.out ; obtain rfl := hy0.out ; obtain rfl := ht0.out; obtain rfl := hx1.out ; obtain rfl := ht1.out; obtain rfl := hx2.out ; obtain rfl := ht2.out; obtain rfl := hx3.out ; obtain rfl := hy3.out ; obtain rfl := ht3.out; obtain rfl := hx4.out ; obtain rfl := hy4.out ; obtain rfl := ht4.out; obtain rfl := hx5.out ; obtain rfl := hy5.out ; obtain rfl := ht5.out; obtain rfl := hx6.out ; obtain rfl := hy6.out ; obtain rfl := ht6.out; obtain rfl := hx7.out ; obtain rfl := hy7.out ; obtain rfl := ht7.out
    rfl
  case hr =>
    have hz := hR8.setRow (A := w.heap.size) (Rw.cells ⟨x0, y0, x1, (x2 : Int) - 1, x3, y3, x4, y4, x5, y5, x6, y6, x7, y7⟩) (by omega) (by omega)
    obtain rfl := hx0.out ; obtain rfl := hy0.out ; obtain rfl := ht0.out; obtain rfl := hx1.out ; obtain rfl := ht1.out; obtain rfl := hx2.out ; obtain rfl := ht2.out; obtain rfl := hx3.out ; obtain rfl := hy3.out ; obtain rfl := ht3.out; obtain rfl := hx4.out ; obtain rfl := hy4.out ; obtain rfl := ht4.out; obtain rfl := hx5.out ; obtain rfl := hy5.out ; obtain rfl := ht5.out; obtain rfl := hx6.out ; obtain rfl := hy6.out ; obtain rfl := ht6.out; obtain rfl := hx7.out ; obtain rfl := hy7.out ; obtain rfl := ht7.out
    exact hz

end Go.Proofs.Ytekpkbmelhgneaa
