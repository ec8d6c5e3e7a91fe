
/-
  package wire's Reader: ReadAccount. For all bytes.
-/
import Derived.Test.YtekpkbmelhgneaaWiE
import Derived.Test.YtekpkbmelhgneaaWiHr
import Derived.Deep.MidRow
namespace Go.Proofs.Ytekpkbmelhgneaa
open Go.RowKit
set_option maxRecDepth 100000
set_option linter.unusedSimpArgs false
set_option linter.unusedVariables false

/-- A whole account but its hash; its cells with a hash. -/
structure Aq where
  hi : Nat
  lo : Nat
  led : Nat
  fl : Nat
  h1 : Nat
  l1 : Nat
  h2 : Nat
  l2 : Nat
  h3 : Nat
  l3 : Nat
  h4 : Nat
  l4 : Nat
  tm : Nat
  un : Nat
def Aq.cells0 (a : Aq) : Array Value := #[.int .u64 a.hi, .int .u64 a.lo, .int .i64 a.led, .int .i64 a.fl, .int .u64 a.h1, .int .u64 a.l1, .int .u64 a.h2, .int .u64 a.l2, .int .u64 a.h3, .int .u64 a.l3, .int .u64 a.h4, .int .u64 a.l4, .int .i64 a.tm, .int .i64 a.un, .int .u8 0, .int .u8 0, .int .u8 0, .int .u8 0, .int .u8 0, .int .u8 0, .int .u8 0, .int .u8 0, .int .u8 0, .int .u8 0, .int .u8 0, .int .u8 0, .int .u8 0, .int .u8 0, .int .u8 0, .int .u8 0, .int .u8 0, .int .u8 0, .int .u8 0, .int .u8 0, .int .u8 0, .int .u8 0, .int .u8 0, .int .u8 0, .int .u8 0, .int .u8 0, .int .u8 0, .int .u8 0, .int .u8 0, .int .u8 0, .int .u8 0, .int .u8 0]
def Aq.cells (a : Aq) (t : List Nat) : Array Value := #[.int .u64 a.hi, .int .u64 a.lo, .int .i64 a.led, .int .i64 a.fl, .int .u64 a.h1, .int .u64 a.l1, .int .u64 a.h2, .int .u64 a.l2, .int .u64 a.h3, .int .u64 a.l3, .int .u64 a.h4, .int .u64 a.l4, .int .i64 a.tm, .int .i64 a.un] ++ bytesL t
def setAll : Array Value → Nat → List Value → Array Value
  | cs, _, [] => cs
  | cs, o, v :: r => setAll (cs.setIfInBounds o v) (o + 1) r
theorem Row.mid {b : Nat} {t : TypeId} : ∀ (vs : List Value) {w : World} {cs : Array Value} (h : Row w b cs t) (o : Nat), Row (w.setCells b o vs) b (setAll cs o vs) t
  | [], _, _, h, _ => h
  | v :: r, _, _, h, o => Row.mid r (h.set o v) (o + 1)
theorem else_cells (b : Nat) : ∀ (vs : List Value) (w : World) (o : Nat), Else b w (w.setCells b o vs)
  | [], w, _ => Else.refl _ _
  | v :: r, w, o => ((Else.refl b w).set o v).trans (else_cells b r _ (o + 1))
theorem setAll_app : ∀ (vs m p : List Value), m.length = vs.length → setAll (p ++ m).toArray p.length vs = (p ++ vs).toArray
  | [], [], p, _ => rfl
  | v :: r, x :: m, p, h => by
    show setAll ((p ++ x :: m).toArray.setIfInBounds p.length v) (p.length + 1) r = _
    have e : (p ++ x :: m).toArray.setIfInBounds p.length v = ((p ++ [v]) ++ m).toArray := by simp
    rw [e]
    have := setAll_app r m (p ++ [v]) (by simpa using h)
    simpa using this
theorem setAll_hash (a : Aq) (t : List Nat) (h : t.length = 32) : setAll a.cells0 14 (bytesL t).toList = a.cells t := by
  have e := setAll_app (bytesL t).toList [.int .u8 0, .int .u8 0, .int .u8 0, .int .u8 0, .int .u8 0, .int .u8 0, .int .u8 0, .int .u8 0, .int .u8 0, .int .u8 0, .int .u8 0, .int .u8 0, .int .u8 0, .int .u8 0, .int .u8 0, .int .u8 0, .int .u8 0, .int .u8 0, .int .u8 0, .int .u8 0, .int .u8 0, .int .u8 0, .int .u8 0, .int .u8 0, .int .u8 0, .int .u8 0, .int .u8 0, .int .u8 0, .int .u8 0, .int .u8 0, .int .u8 0, .int .u8 0] [.int .u64 a.hi, .int .u64 a.lo, .int .i64 a.led, .int .i64 a.fl, .int .u64 a.h1, .int .u64 a.l1, .int .u64 a.h2, .int .u64 a.l2, .int .u64 a.h3, .int .u64 a.l3, .int .u64 a.h4, .int .u64 a.l4, .int .i64 a.tm, .int .i64 a.un] (by simp [bytesL, h])
  refine e.trans ?_
  simp [Aq.cells, bytesL]
theorem Aq.size0 (a : Aq) : a.cells0.size = 46 := rfl
theorem Aq.size (a : Aq) (t : List Nat) (h : t.length = 32) : (a.cells t).size = 46 := by rw [Aq.cells, Array.size_append, bytesL_size, h]; rfl
theorem Aq.one (a : Aq) (t : List Nat) : (a.cells t).all (·.oneCell') = true := by
  rw [Aq.cells, Array.all_append, bytesL_one]
  simp [Value.oneCell']
theorem rhash2 (w : World) (R D : Nat) (s : List Nat × Bool) (h : RdAt w R D s) :
    Calls Try.prog 30 #[.pointer (some ⟨R, 0, none⟩)] w fun e w' => ∃ x t, Hid (x = rH s) ∧ Hid (t = rDrop 32 s) ∧ x.length = 32 ∧ e = .returned (.agg (bytesL x)) ∧ RdAt w' R D t ∧ Else R w w' :=
  (rhash_any w R D s h).mono fun _ _ h => ⟨_, _, rfl, rfl, rH_len s, h⟩
theorem readAc2 (w : World) (R D : Nat) (s : List Nat × Bool) (h : RdAt w R D s) :
    Calls Try.prog 41 #[.pointer (some ⟨R, 0, none⟩)] w fun e w' => ∃ hi lo led fl t, Hid ((⟨hi, lo, led, fl⟩ : Ac) = rAc s) ∧ Hid (t = rAcS s) ∧ e = .returned (.agg (Aq.cells0 ⟨hi, lo, led, fl, 0, 0, 0, 0, 0, 0, 0, 0, 0, 0⟩)) ∧ RdAt w' R D t ∧ Else R w w' :=
  (readAc_any w R D s h).mono fun _ _ h => ⟨_, _, _, _, _, rfl, rfl, h⟩
def rAq (s : List Nat × Bool) : Aq := ⟨(rAc s).hi, (rAc s).lo, (rAc s).led, (rAc s).fl, rHi (rAcS s), rLo (rAcS s), rHi (rDrop 16 (rAcS s)), rLo (rDrop 16 (rAcS s)), rHi (rDrop 16 (rDrop 16 (rAcS s))), rLo (rDrop 16 (rDrop 16 (rAcS s))), rHi (rDrop 16 (rDrop 16 (rDrop 16 (rAcS s)))), rLo (rDrop 16 (rDrop 16 (rDrop 16 (rAcS s)))), rI 6 (rDrop 16 (rDrop 16 (rDrop 16 (rDrop 16 (rAcS s))))), rI 6 (rDrop 6 (rDrop 16 (rDrop 16 (rDrop 16 (rDrop 16 (rAcS s))))))⟩
def rAqH (s : List Nat × Bool) : List Nat := rH (rDrop 6 (rDrop 6 (rDrop 16 (rDrop 16 (rDrop 16 (rDrop 16 (rAcS s)))))))
def rAqS (s : List Nat × Bool) : List Nat × Bool := rDrop 32 (rDrop 6 (rDrop 6 (rDrop 16 (rDrop 16 (rDrop 16 (rDrop 16 (rAcS s)))))))

set_option maxHeartbeats 4000000 in
theorem readAcc_any (w : World) (R D : Nat) (s : List Nat × Bool) (h : RdAt w R D s) :
    Calls Try.prog 20 #[.pointer (some ⟨R, 0, none⟩)] w fun e w' => e = .returned (.agg ((rAq s).cells (rAqH s))) ∧ RdAt w' R D (rAqS s) ∧ Else R w w' := by
  have hlt := h.lt
  have hdl := h.dl
  go_enter Try.func20, Try.ntmps20
  go_wp2_with (go_at_call 41; refine stop ?_)
  rw [acc_lit, show Ac.cells ⟨0, 0, 0, 0⟩ = (Aq.cells0 ⟨0, 0, 0, 0, 0, 0, 0, 0, 0, 0, 0, 0, 0, 0⟩) from rfl]
  have rB := Row.new w (Aq.cells0 ⟨0, 0, 0, 0, 0, 0, 0, 0, 0, 0, 0, 0, 0, 0⟩) 42 rfl
  have hRa := h.alloc (.cells (Aq.cells0 ⟨0, 0, 0, 0, 0, 0, 0, 0, 0, 0, 0, 0, 0, 0⟩) 42)
  have hea : Else R w (w.alloc (.cells (Aq.cells0 ⟨0, 0, 0, 0, 0, 0, 0, 0, 0, 0, 0, 0, 0, 0⟩) 42)) := Else.of (below1 w _)
  generalize w.alloc (.cells (Aq.cells0 ⟨0, 0, 0, 0, 0, 0, 0, 0, 0, 0, 0, 0, 0, 0⟩) 42) = wa at *
  have hwa := rB.lt
  refine (readAc2 wa R D s hRa).mono ?_
  rintro e wb ⟨hi, lo, led, fl, t, hx, ht, rfl, hq, hd⟩
  have rB1 := rB.else hd (by omega)
  have heb := hea.trans hd
  have hwb := rB1.lt
  have hRl := hq.lt
  have hRd := hq.dl
  clear rB hRa hea hd
  obtain ⟨A, hA⟩ : ∃ A, A = wb.heap.size := ⟨_, rfl⟩
  have HA : Hid (A = wb.heap.size) := hA
  have a0 : w.heap.size < A := by omega
  have a1 : R < A := by omega
  have a2 : D < A := by omega
  clear hA
  have rA0 : Row ((wb.alloc (.cells (Aq.cells0 ⟨0, 0, 0, 0, 0, 0, 0, 0, 0, 0, 0, 0, 0, 0⟩) 42)).setRow wb.heap.size (Aq.cells0 ⟨hi, lo, led, fl, 0, 0, 0, 0, 0, 0, 0, 0, 0, 0⟩)) wb.heap.size (Aq.cells0 ⟨hi, lo, led, fl, 0, 0, 0, 0, 0, 0, 0, 0, 0, 0⟩) 42 := (Row.new wb (Aq.cells0 ⟨0, 0, 0, 0, 0, 0, 0, 0, 0, 0, 0, 0, 0, 0⟩) 42 rfl).setRow _
  have bb : Below wb.heap.size wb ((wb.alloc (.cells (Aq.cells0 ⟨0, 0, 0, 0, 0, 0, 0, 0, 0, 0, 0, 0, 0, 0⟩) 42)).setRow wb.heap.size (Aq.cells0 ⟨hi, lo, led, fl, 0, 0, 0, 0, 0, 0, 0, 0, 0, 0⟩)) := Below.row (below1 wb _) _ (Nat.le_refl _)
  go_wp2_with (refine wpList_store_row rfl 42 _ _ rfl wb.heap.size (Aq.cells0 ⟨hi, lo, led, fl, 0, 0, 0, 0, 0, 0, 0, 0, 0, 0⟩) rfl rfl 42 _ (heap_alloc_new wb _) info_acc rfl (by simp [Aq.cells0, Value.oneCell']) ?_; refine stop ?_)
  rw [acc_lit, show Ac.cells ⟨0, 0, 0, 0⟩ = (Aq.cells0 ⟨0, 0, 0, 0, 0, 0, 0, 0, 0, 0, 0, 0, 0, 0⟩) from rfl]
  unfold Stop
  have rB0 := rB1.later bb
  have hR0 := hq.later bb
  have he0 := heb.trans (Else.of bb)
  clear rB1 hq heb bb
  generalize (wb.alloc (.cells (Aq.cells0 ⟨0, 0, 0, 0, 0, 0, 0, 0, 0, 0, 0, 0, 0, 0⟩) 42)).setRow wb.heap.size (Aq.cells0 ⟨hi, lo, led, fl, 0, 0, 0, 0, 0, 0, 0, 0, 0, 0⟩) = u0 at *
  rw [← HA.out] at rA0 ⊢
  clear HA hwb hRl hRd hwa
  go_wp2_with (go_at_call 31; refine stop ?_)
  refine (rnum2 _ R D _ hR0).mono ?_
  rintro e v0 ⟨x0, y0, t0, hx0, hy0, ht0, rfl, hq0, hd0⟩
  have qA0 := rA0.else hd0 (by omega)
  have qB0 := rB0.else hd0 (by omega)
  have qe0 := he0.trans hd0
  clear rA0 rB0 hR0 he0 hd0
  have c00 := qA0.cell 4
  rw [show (Aq.cells0 ⟨hi, lo, led, fl, 0, 0, 0, 0, 0, 0, 0, 0, 0, 0⟩)[4]? = some (.int .u64 (0 : Nat)) from rfl] at c00
  have f00 := qA0.frozen 4
  have c01 := qA0.cell 5
  rw [show (Aq.cells0 ⟨hi, lo, led, fl, 0, 0, 0, 0, 0, 0, 0, 0, 0, 0⟩)[5]? = some (.int .u64 (0 : Nat)) from rfl] at c01
  have f01 := qA0.frozen 5
  have rA1 : Row ((v0.setCell ⟨A, 4, none⟩ (.int .u64 (x0 : Nat))).setCell ⟨A, 5, none⟩ (.int .u64 (y0 : Nat))) A (Aq.cells0 ⟨hi, lo, led, fl, x0, y0, 0, 0, 0, 0, 0, 0, 0, 0⟩) 42 := ((qA0.set 4 (.int .u64 (x0 : Nat))).set 5 (.int .u64 (y0 : Nat)))
  have rB1 : Row ((v0.setCell ⟨A, 4, none⟩ (.int .u64 (x0 : Nat))).setCell ⟨A, 5, none⟩ (.int .u64 (y0 : Nat))) w.heap.size (Aq.cells0 ⟨0, 0, 0, 0, 0, 0, 0, 0, 0, 0, 0, 0, 0, 0⟩) 42 := ((qB0.setOther (a := ⟨A, 4, none⟩) (.int .u64 (x0 : Nat)) (by simp; omega)).setOther (a := ⟨A, 5, none⟩) (.int .u64 (y0 : Nat)) (by simp; omega))
  have hR1 : RdAt ((v0.setCell ⟨A, 4, none⟩ (.int .u64 (x0 : Nat))).setCell ⟨A, 5, none⟩ (.int .u64 (y0 : Nat))) R D t0 := ((hq0.set (A := A) 4 (.int .u64 (x0 : Nat)) (by omega) (by omega)).set (A := A) 5 (.int .u64 (y0 : Nat)) (by omega) (by omega))
  have he1 : Else R w ((v0.setCell ⟨A, 4, none⟩ (.int .u64 (x0 : Nat))).setCell ⟨A, 5, none⟩ (.int .u64 (y0 : Nat))) := ((qe0.setNew (A := A) (by omega) 4 (.int .u64 (x0 : Nat))).setNew (A := A) (by omega) 5 (.int .u64 (y0 : Nat)))
  clear qA0 qB0 hq0 qe0
  go_wp2_with (go_at_call 31; refine stop ?_)
  refine (rnum2 _ R D _ hR1).mono ?_
  rintro e v1 ⟨x1, y1, t1, hx1, hy1, ht1, rfl, hq1, hd1⟩
  have qA1 := rA1.else hd1 (by omega)
  have qB1 := rB1.else hd1 (by omega)
  have qe1 := he1.trans hd1
  clear rA1 rB1 hR1 he1 hd1
  have c10 := qA1.cell 6
  rw [show (Aq.cells0 ⟨hi, lo, led, fl, x0, y0, 0, 0, 0, 0, 0, 0, 0, 0⟩)[6]? = some (.int .u64 (0 : Nat)) from rfl] at c10
  have f10 := qA1.frozen 6
  have c11 := qA1.cell 7
  rw [show (Aq.cells0 ⟨hi, lo, led, fl, x0, y0, 0, 0, 0, 0, 0, 0, 0, 0⟩)[7]? = some (.int .u64 (0 : Nat)) from rfl] at c11
  have f11 := qA1.frozen 7
  have rA2 : Row ((v1.setCell ⟨A, 6, none⟩ (.int .u64 (x1 : Nat))).setCell ⟨A, 7, none⟩ (.int .u64 (y1 : Nat))) A (Aq.cells0 ⟨hi, lo, led, fl, x0, y0, x1, y1, 0, 0, 0, 0, 0, 0⟩) 42 := ((qA1.set 6 (.int .u64 (x1 : Nat))).set 7 (.int .u64 (y1 : Nat)))
  have rB2 : Row ((v1.setCell ⟨A, 6, none⟩ (.int .u64 (x1 : Nat))).setCell ⟨A, 7, none⟩ (.int .u64 (y1 : Nat))) w.heap.size (Aq.cells0 ⟨0, 0, 0, 0, 0, 0, 0, 0, 0, 0, 0, 0, 0, 0⟩) 42 := ((qB1.setOther (a := ⟨A, 6, none⟩) (.int .u64 (x1 : Nat)) (by simp; omega)).setOther (a := ⟨A, 7, none⟩) (.int .u64 (y1 : Nat)) (by simp; omega))
  have hR2 : RdAt ((v1.setCell ⟨A, 6, none⟩ (.int .u64 (x1 : Nat))).setCell ⟨A, 7, none⟩ (.int .u64 (y1 : Nat))) R D t1 := ((hq1.set (A := A) 6 (.int .u64 (x1 : Nat)) (by omega) (by omega)).set (A := A) 7 (.int .u64 (y1 : Nat)) (by omega) (by omega))
  have he2 : Else R w ((v1.setCell ⟨A, 6, none⟩ (.int .u64 (x1 : Nat))).setCell ⟨A, 7, none⟩ (.int .u64 (y1 : Nat))) := ((qe1.setNew (A := A) (by omega) 6 (.int .u64 (x1 : Nat))).setNew (A := A) (by omega) 7 (.int .u64 (y1 : Nat)))
  clear qA1 qB1 hq1 qe1
  go_wp2_with (go_at_call 31; refine stop ?_)
  refine (rnum2 _ R D _ hR2).mono ?_
  rintro e v2 ⟨x2, y2, t2, hx2, hy2, ht2, rfl, hq2, hd2⟩
  have qA2 := rA2.else hd2 (by omega)
  have qB2 := rB2.else hd2 (by omega)
  have qe2 := he2.trans hd2
  clear rA2 rB2 hR2 he2 hd2
  have c20 := qA2.cell 8
  rw [show (Aq.cells0 ⟨hi, lo, led, fl, x0, y0, x1, y1, 0, 0, 0, 0, 0, 0⟩)[8]? = some (.int .u64 (0 : Nat)) from rfl] at c20
  have f20 := qA2.frozen 8
  have c21 := qA2.cell 9
  rw [show (Aq.cells0 ⟨hi, lo, led, fl, x0, y0, x1, y1, 0, 0, 0, 0, 0, 0⟩)[9]? = some (.int .u64 (0 : Nat)) from rfl] at c21
  have f21 := qA2.frozen 9
  have rA3 : Row ((v2.setCell ⟨A, 8, none⟩ (.int .u64 (x2 : Nat))).setCell ⟨A, 9, none⟩ (.int .u64 (y2 : Nat))) A (Aq.cells0 ⟨hi, lo, led, fl, x0, y0, x1, y1, x2, y2, 0, 0, 0, 0⟩) 42 := ((qA2.set 8 (.int .u64 (x2 : Nat))).set 9 (.int .u64 (y2 : Nat)))
  have rB3 : Row ((v2.setCell ⟨A, 8, none⟩ (.int .u64 (x2 : Nat))).setCell ⟨A, 9, none⟩ (.int .u64 (y2 : Nat))) w.heap.size (Aq.cells0 ⟨0, 0, 0, 0, 0, 0, 0, 0, 0, 0, 0, 0, 0, 0⟩) 42 := ((qB2.setOther (a := ⟨A, 8, none⟩) (.int .u64 (x2 : Nat)) (by simp; omega)).setOther (a := ⟨A, 9, none⟩) (.int .u64 (y2 : Nat)) (by simp; omega))
  have hR3 : RdAt ((v2.setCell ⟨A, 8, none⟩ (.int .u64 (x2 : Nat))).setCell ⟨A, 9, none⟩ (.int .u64 (y2 : Nat))) R D t2 := ((hq2.set (A := A) 8 (.int .u64 (x2 : Nat)) (by omega) (by omega)).set (A := A) 9 (.int .u64 (y2 : Nat)) (by omega) (by omega))
  have he3 : Else R w ((v2.setCell ⟨A, 8, none⟩ (.int .u64 (x2 : Nat))).setCell ⟨A, 9, none⟩ (.int .u64 (y2 : Nat))) := ((qe2.setNew (A := A) (by omega) 8 (.int .u64 (x2 : Nat))).setNew (A := A) (by omega) 9 (.int .u64 (y2 : Nat)))
  clear qA2 qB2 hq2 qe2
  go_wp2_with (go_at_call 31; refine stop ?_)
  refine (rnum2 _ R D _ hR3).mono ?_
  rintro e v3 ⟨x3, y3, t3, hx3, hy3, ht3, rfl, hq3, hd3⟩
  have qA3 := rA3.else hd3 (by omega)
  have qB3 := rB3.else hd3 (by omega)
  have qe3 := he3.trans hd3
  clear rA3 rB3 hR3 he3 hd3
  have c30 := qA3.cell 10
  rw [show (Aq.cells0 ⟨hi, lo, led, fl, x0, y0, x1, y1, x2, y2, 0, 0, 0, 0⟩)[10]? = some (.int .u64 (0 : Nat)) from rfl] at c30
  have f30 := qA3.frozen 10
  have c31 := qA3.cell 11
  rw [show (Aq.cells0 ⟨hi, lo, led, fl, x0, y0, x1, y1, x2, y2, 0, 0, 0, 0⟩)[11]? = some (.int .u64 (0 : Nat)) from rfl] at c31
  have f31 := qA3.frozen 11
  have rA4 : Row ((v3.setCell ⟨A, 10, none⟩ (.int .u64 (x3 : Nat))).setCell ⟨A, 11, none⟩ (.int .u64 (y3 : Nat))) A (Aq.cells0 ⟨hi, lo, led, fl, x0, y0, x1, y1, x2, y2, x3, y3, 0, 0⟩) 42 := ((qA3.set 10 (.int .u64 (x3 : Nat))).set 11 (.int .u64 (y3 : Nat)))
  have rB4 : Row ((v3.setCell ⟨A, 10, none⟩ (.int .u64 (x3 : Nat))).setCell ⟨A, 11, none⟩ (.int .u64 (y3 : Nat))) w.heap.size (Aq.cells0 ⟨0, 0, 0, 0, 0, 0, 0, 0, 0, 0, 0, 0, 0, 0⟩) 42 := ((qB3.setOther (a := ⟨A, 10, none⟩) (.int .u64 (x3 : Nat)) (by simp; omega)).setOther (a := ⟨A, 11, none⟩) (.int .u64 (y3 : Nat)) (by simp; omega))
  have hR4 : RdAt ((v3.setCell ⟨A, 10, none⟩ (.int .u64 (x3 : Nat))).setCell ⟨A, 11, none⟩ (.int .u64 (y3 : Nat))) R D t3 := ((hq3.set (A := A) 10 (.int .u64 (x3 : Nat)) (by omega) (by omega)).set (A := A) 11 (.int .u64 (y3 : Nat)) (by omega) (by omega))
  have he4 : Else R w ((v3.setCell ⟨A, 10, none⟩ (.int .u64 (x3 : Nat))).setCell ⟨A, 11, none⟩ (.int .u64 (y3 : Nat))) := ((qe3.setNew (A := A) (by omega) 10 (.int .u64 (x3 : Nat))).setNew (A := A) (by omega) 11 (.int .u64 (y3 : Nat)))
  clear qA3 qB3 hq3 qe3
  go_wp2_with (go_at_call 29; refine stop ?_)
  refine (rint2 6 (by decide) _ rfl _ R D _ hR4).mono ?_
  rintro e v4 ⟨x4, t4, hx4, ht4, rfl, hq4, hd4⟩
  have qA4 := rA4.else hd4 (by omega)
  have qB4 := rB4.else hd4 (by omega)
  have qe4 := he4.trans hd4
  clear rA4 rB4 hR4 he4 hd4
  have c40 := qA4.cell 12
  rw [show (Aq.cells0 ⟨hi, lo, led, fl, x0, y0, x1, y1, x2, y2, x3, y3, 0, 0⟩)[12]? = some (.int .i64 (0 : Nat)) from rfl] at c40
  have f40 := qA4.frozen 12
  have rA5 : Row (v4.setCell ⟨A, 12, none⟩ (.int .i64 (x4 : Nat))) A (Aq.cells0 ⟨hi, lo, led, fl, x0, y0, x1, y1, x2, y2, x3, y3, x4, 0⟩) 42 := (qA4.set 12 (.int .i64 (x4 : Nat)))
  have rB5 : Row (v4.setCell ⟨A, 12, none⟩ (.int .i64 (x4 : Nat))) w.heap.size (Aq.cells0 ⟨0, 0, 0, 0, 0, 0, 0, 0, 0, 0, 0, 0, 0, 0⟩) 42 := (qB4.setOther (a := ⟨A, 12, none⟩) (.int .i64 (x4 : Nat)) (by simp; omega))
  have hR5 : RdAt (v4.setCell ⟨A, 12, none⟩ (.int .i64 (x4 : Nat))) R D t4 := (hq4.set (A := A) 12 (.int .i64 (x4 : Nat)) (by omega) (by omega))
  have he5 : Else R w (v4.setCell ⟨A, 12, none⟩ (.int .i64 (x4 : Nat))) := (qe4.setNew (A := A) (by omega) 12 (.int .i64 (x4 : Nat)))
  clear qA4 qB4 hq4 qe4
  go_wp2_with (go_at_call 29; refine stop ?_)
  refine (rint2 6 (by decide) _ rfl _ R D _ hR5).mono ?_
  rintro e v5 ⟨x5, t5, hx5, ht5, rfl, hq5, hd5⟩
  have qA5 := rA5.else hd5 (by omega)
  have qB5 := rB5.else hd5 (by omega)
  have qe5 := he5.trans hd5
  clear rA5 rB5 hR5 he5 hd5
  have c50 := qA5.cell 13
  rw [show (Aq.cells0 ⟨hi, lo, led, fl, x0, y0, x1, y1, x2, y2, x3, y3, x4, 0⟩)[13]? = some (.int .i64 (0 : Nat)) from rfl] at c50
  have f50 := qA5.frozen 13
  have rA6 : Row (v5.setCell ⟨A, 13, none⟩ (.int .i64 (x5 : Nat))) A (Aq.cells0 ⟨hi, lo, led, fl, x0, y0, x1, y1, x2, y2, x3, y3, x4, x5⟩) 42 := (qA5.set 13 (.int .i64 (x5 : Nat)))
  have rB6 : Row (v5.setCell ⟨A, 13, none⟩ (.int .i64 (x5 : Nat))) w.heap.size (Aq.cells0 ⟨0, 0, 0, 0, 0, 0, 0, 0, 0, 0, 0, 0, 0, 0⟩) 42 := (qB5.setOther (a := ⟨A, 13, none⟩) (.int .i64 (x5 : Nat)) (by simp; omega))
  have hR6 : RdAt (v5.setCell ⟨A, 13, none⟩ (.int .i64 (x5 : Nat))) R D t5 := (hq5.set (A := A) 13 (.int .i64 (x5 : Nat)) (by omega) (by omega))
  have he6 : Else R w (v5.setCell ⟨A, 13, none⟩ (.int .i64 (x5 : Nat))) := (qe5.setNew (A := A) (by omega) 13 (.int .i64 (x5 : Nat)))
  clear qA5 qB5 hq5 qe5
  go_wp2_with (go_at_call 30; refine stop ?_)
  refine (rhash2 _ R D _ hR6).mono ?_
  rintro e vh ⟨hh, th, hxh, hth, hl, rfl, hqh, hdh⟩
  have HL : Hid (hh.length = 32) := hl
  have qA := rA6.else hdh (by omega)
  have qB := rB6.else hdh (by omega)
  have qe := he6.trans hdh
  clear rA6 rB6 hR6 he6 hdh
  have hinfh := info_hash' hl
  have hth2 : World.there vh A 14 (bytesL hh).size := fun j hj => by
    rw [bytesL_size, hl] at hj
    refine ⟨?_, qA.frozen (14 + j)⟩
    rw [qA.cell (14 + j)]
    have : 14 + j < (Aq.cells0 ⟨hi, lo, led, fl, x0, y0, x1, y1, x2, y2, x3, y3, x4, x5⟩).size := by rw [Aq.size0]; omega
    simp [this]
  have rM := Row.mid (bytesL hh).toList qA 14
  rw [setAll_hash _ hh hl] at rM
  have eM := else_cells A (bytesL hh).toList vh 14
  have rBM := qB.else eM (by omega)
  have hRM := hqh.else eM (by omega) (by omega)
  have heM := qe.new eM (by omega)
  have hinf : (Try.prog.info? 42).map (·.size) = some (Aq.cells ⟨hi, lo, led, fl, x0, y0, x1, y1, x2, y2, x3, y3, x4, x5⟩ hh).size := by rw [Aq.size _ _ hl]; exact info_acc
  clear qA qB qe hqh hl
  go_wp2_with (refine wpList_store_mid rfl 40 _ _ rfl A 14 (bytesL hh) rfl rfl hth2 hinfh (bytesL_one _) ?_; refine stop ?_)
  unfold Stop
  generalize vh.setCells A 14 (bytesL hh).toList = vm at *
  go_wp2_with (first | refine wpList_load_row rfl 42 _ rfl A rfl 42 (Aq.cells ⟨hi, lo, led, fl, x0, y0, x1, y1, x2, y2, x3, y3, x4, x5⟩ hh) (0, 0) _ rM Try.underlying42 rfl hinf ?_ | refine wpList_store_row rfl 42 _ _ rfl w.heap.size (Aq.cells ⟨hi, lo, led, fl, x0, y0, x1, y1, x2, y2, x3, y3, x4, x5⟩ hh) rfl rfl 42 _ rBM hinf (by rw [Aq.size _ _ HL.out, Aq.size0]) (Aq.one _ _) ?_)
  refine bodyPost_ret (v := .agg (Aq.cells ⟨hi, lo, led, fl, x0, y0, x1, y1, x2, y2, x3, y3, x4, x5⟩ hh)) (results_cell_row Try.results20 _ _ w.heap.size 42 (Aq.cells ⟨hi, lo, led, fl, x0, y0, x1, y1, x2, y2, x3, y3, x4, x5⟩ hh) (0, 0) _ ?hp ?hg Try.underlying42 rfl hinf) rfl ⟨?he, ?hr, heM.rowNew (Nat.le_refl _) _⟩
  case hp => rfl
  case hg => exact rBM.setRow _
  case he =>
    have e1 : hi = (rAc s).hi ∧ lo = (rAc s).lo ∧ led = (rAc s).led ∧ fl = (rAc s).fl := by rw [← hx.out]; exact ⟨rfl, rfl, rfl, rfl⟩
    obtain ⟨rfl, rfl, rfl, rfl⟩ := e1
    obtain rfl := ht.out; obtain rfl := hx0.out; obtain rfl := hy0.out; obtain rfl := ht0.out; obtain rfl := hx1.out; obtain rfl := hy1.out; obtain rfl := ht1.out; obtain rfl := hx2.out; obtain rfl := hy2.out; obtain rfl := ht2.out; obtain rfl := hx3.out; obtain rfl := hy3.out; obtain rfl := ht3.out; obtain rfl := hx4.out; obtain rfl := ht4.out; obtain rfl := hx5.out; obtain rfl := ht5.out; obtain rfl := hxh.out; obtain rfl := hth.out
    rfl
  case hr =>
    have hz := hRM.setRow (A := w.heap.size) (Aq.cells ⟨hi, lo, led, fl, x0, y0, x1, y1, x2, y2, x3, y3, x4, x5⟩ hh) (by omega) (by omega)
    obtain rfl := ht.out; obtain rfl := hx0.out; obtain rfl := hy0.out; obtain rfl := ht0.out; obtain rfl := hx1.out; obtain rfl := hy1.out; obtain rfl := ht1.out; obtain rfl := hx2.out; obtain rfl := hy2.out; obtain rfl := ht2.out; obtain rfl := hx3.out; obtain rfl := hy3.out; obtain rfl := ht3.out; obtain rfl := hx4.out; obtain rfl := ht4.out; obtain rfl := hx5.out; obtain rfl := ht5.out; obtain rfl := hxh.out; obtain rfl := hth.out
    exact hz
end Go.Proofs.Ytekpkbmelhgneaa
