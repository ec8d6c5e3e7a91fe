
/-
  The walk of paciolilaw09.RuleRepeats: it returns true, for every transfer and number, and turns nothing that was there. (Made by tools/rugen2.py.)
-/
import Derived.Test.YtkigdfpgdkgcaaaRuF
import Derived.Test.YtkigdfpgdkgcaaaRuR
import Derived.Deep.CutBlock
namespace Go.Proofs.Ytkigdfpgdkgcaaa
open Go.RowKit
set_option maxRecDepth 100000
set_option linter.unusedVariables false
set_option linter.unusedSimpArgs false

def StopR (p : Prop) : Prop := p
theorem stopR {p : Prop} (h : StopR p) : p := h
theorem xor_ne2 (x : Int) : bits .xor .i64 (bits .xor .i64 x 1) 2 ≠ x := by
  intro e
  have e2 := congrArg B e
  rw [xor_i, xor_i, B_wrap, B_wrap, BitVec.xor_assoc] at e2
  have h : B x ^^^ (B x ^^^ (B 1 ^^^ B 2)) = B x ^^^ B x := by rw [e2]
  rw [← BitVec.xor_assoc, BitVec.xor_self, BitVec.zero_xor] at h
  exact absurd h (by decide)
theorem flag_back1 (x : Int) : (bits .andNot .i64 (bits .xor .i64 x (bits .xor .i64 x 1)) 1 != 0) = false := by rw [xor_back]; decide +kernel
theorem flag_back2 (x : Int) : (bits .andNot .i64 (bits .xor .i64 x (bits .xor .i64 x 2)) 1 != 0) = true := by rw [xor_back]; decide +kernel
theorem flag_same (x : Int) : (bits .andNot .i64 (bits .xor .i64 x x) 1 != 0) = false := by rw [xor_same]; decide +kernel
theorem ne_i (x y : Int) (h : B y ≠ 0#64) : (x != bits .xor .i64 x y) = true := by rw [bne_iff_ne]; exact fun e => xor_ne_i x y h e.symm
theorem ne_i2 (x : Int) : (x != bits .xor .i64 (bits .xor .i64 x 1) 2) = true := by rw [bne_iff_ne]; exact fun e => xor_ne2 x e.symm
theorem same2 (x y : Int) : (x == x && y == y) = true := by simp
theorem lo_u (x y z : Int) (h : B z ≠ 0#64) : (x == x && y == bits .xor .u64 y z) = false := by
  have : (y == bits .xor .u64 y z) = false := by rw [beq_eq_false_iff_ne]; exact fun e => xor_ne_u y z h e.symm
  rw [this, Bool.and_false]
theorem hi_u (x y z : Int) (h : B z ≠ 0#64) : (x == bits .xor .u64 x z && y == y) = false := by
  have : (x == bits .xor .u64 x z) = false := by rw [beq_eq_false_iff_ne]; exact fun e => xor_ne_u x z h e.symm
  rw [this, Bool.false_and]
theorem cell_first (w : World) (cs : Array Value) (t : TypeId) (o : Obj) (i : Nat) : ((w.alloc (.cells cs t)).alloc o).cell? ⟨w.heap.size, i, none⟩ = cs[i]? :=
  ((below1 (w.alloc (.cells cs t)) o).cell (p := ⟨w.heap.size, i, none⟩) (by simp)).trans (World.cell?_alloc_new ..)
theorem two_old {w1 w2 : World} {o1 o2 : Obj} (h : Below ((w1.alloc o1).alloc o2).heap.size ((w1.alloc o1).alloc o2) w2) : Below w1.heap.size w1 w2 := (below2 w1 o1 o2).trans (h.mono (by simp; omega))
theorem mid_cell {w1 w2 : World} {cs : Array Value} {t : TypeId} {o2 : Obj} (h : Below ((w1.alloc (.cells cs t)).alloc o2).heap.size ((w1.alloc (.cells cs t)).alloc o2) w2) (i : Nat) : w2.cell? ⟨w1.heap.size, i, none⟩ = cs[i]? :=
  (h.cell (p := ⟨w1.heap.size, i, none⟩) (by simp; omega)).trans (cell_first ..)
theorem not_ne (x : Int) : (x != x) = false := by simp

set_option maxHeartbeats 4000000 in
theorem reps_c0 (X Y Z : Array Value) (b l x M n0 n1 : Int) (w : World) (hx : bits .and .i64 x 255 = M) (M0 : 0 ≤ M) (M1 : M ≤ 255) (hm : M % 9 = 0)
    (hsX : X.size = 16) (hoX : X.all (·.oneCell') = true) (hoY : Y.all (·.oneCell') = true) (hY : Y = (X.setIfInBounds 12 (.int .i64 (bits .xor .i64 b 1)))) (hZ : Z = Y.setIfInBounds 11 (.int .i64 (bits .xor .i64 l 2)))(xI : X[12]? = some (.int .i64 b)) (y11 : Y[11]? = some (.int .i64 l))
    (K1 : Hid (∀ w, Calls Try.prog 12 #[.agg X, .agg Z] w fun e w' => e = .returned (.int .i64 7) ∧ Below w.heap.size w w'))
    (K2 : Hid (∀ w, Calls Try.prog 12 #[.agg X, .agg Y] w fun e w' => e = .returned (.int .i64 14) ∧ Below w.heap.size w w')) :
    Calls Try.prog 4 #[.agg X, .int .i64 x, .agg #[.int .u64 n0, .int .u64 n1]] w fun e w' => e = .returned (.bool true) ∧ Below w.heap.size w w' := by
  have IX : Hid ((Try.prog.info? 26).map (·.size) = some X.size) := by show _ = _; rw [hsX]; exact info_tr
  have hsY : Y.size = 16 := by rw [hY]; simp [hsX]
  have hsZ : Z.size = 16 := by rw [hZ]; simp [hsY]
  have IY : Hid ((Try.prog.info? 26).map (·.size) = some Y.size) := by show _ = _; rw [hsY]; exact info_tr
  have IZ : Hid ((Try.prog.info? 26).map (·.size) = some Z.size) := by show _ = _; rw [hsZ]; exact info_tr
  have OX : Hid (X.all (·.oneCell') = true) := hoX
  have OY : Hid (Y.all (·.oneCell') = true) := hoY
  have SX : Hid (16 = X.size) := hsX.symm
  have SY : Hid (16 = Y.size) := hsY.symm
  have HY : Hid ((X.setIfInBounds 12 (.int .i64 (bits .xor .i64 b 1))) = Y) := hY.symm
  have HZ : Hid (Y.setIfInBounds 11 (.int .i64 (bits .xor .i64 l 2)) = Z) := hZ.symm
  have Y11 : Hid (Y[11]? = some (.int .i64 l)) := y11
  have IYX : Hid ((Try.prog.info? 26).map (·.size) = some ((X.setIfInBounds 12 (.int .i64 (bits .xor .i64 b 1)))).size) := by show _ = _; rw [HY.out]; exact IY.out
  have IZY : Hid ((Try.prog.info? 26).map (·.size) = some (Y.setIfInBounds 11 (.int .i64 (bits .xor .i64 l 2))).size) := by show _ = _; rw [HZ.out]; exact IZ.out
  have XI := (show Hid _ from xI)
  clear hsX hsY hsZ hoX hoY hY hZ y11 xI
  go_enter Try.func4, Try.ntmps4
  go_wp2_with fail
  refine (fit9_any _).mono ?_
  rintro e w1 ⟨rfl, hb1⟩
  have R0 : Hid (Blk w1 w.heap.size X 26) := ((Blk.new w X 26 rfl).alloc _).later hb1
  have B1 : Hid (Below w.heap.size w w1) := (below2 w _ _).trans (hb1.mono (by simp; omega))
  clear hb1
  go_wp2_with (first | (refine wpList_load_row rfl 26 _ rfl w.heap.size rfl 26 X (0, 0) _ R0.out Try.underlying26 rfl IX.out ?_) | (refine wpList_store_row rfl 26 _ _ rfl w1.heap.size X rfl rfl 26 _ (heap_alloc_new w1 _) IX.out SX.out OX.out ?_; refine stopR ?_))
  have r2 := (Blk.new w1 #[.int .u64 0, .int .u64 0, .int .u64 0, .int .u64 0, .int .u64 0, .int .u64 0, .int .u64 0, .int .u64 0, .int .u64 0, .int .u64 0, .int .i64 0, .int .i64 0, .int .i64 0, .int .i64 0, .int .i64 0, .int .i64 0] 26 rfl).setRow X
  have b2 := below_row (below1 w1 (.cells #[.int .u64 0, .int .u64 0, .int .u64 0, .int .u64 0, .int .u64 0, .int .u64 0, .int .u64 0, .int .u64 0, .int .u64 0, .int .u64 0, .int .i64 0, .int .i64 0, .int .i64 0, .int .i64 0, .int .i64 0, .int .i64 0] 26)) X (Nat.le_refl _)
  have r20 := (R0.out.alloc (.cells #[.int .u64 0, .int .u64 0, .int .u64 0, .int .u64 0, .int .u64 0, .int .u64 0, .int .u64 0, .int .u64 0, .int .u64 0, .int .u64 0, .int .i64 0, .int .i64 0, .int .i64 0, .int .i64 0, .int .i64 0, .int .i64 0] 26)).setRowOther X (show w.heap.size ≠ w1.heap.size by have := R0.out.lt; omega)
  unfold StopR
  generalize (w1.alloc (.cells #[.int .u64 0, .int .u64 0, .int .u64 0, .int .u64 0, .int .u64 0, .int .u64 0, .int .u64 0, .int .u64 0, .int .u64 0, .int .u64 0, .int .i64 0, .int .i64 0, .int .i64 0, .int .i64 0, .int .i64 0, .int .i64 0] 26)).setRow w1.heap.size X = w2 at *
  have B2 : Hid (Below w.heap.size w w2) := B1.out.trans (b2.mono B1.out.size)
  have R2 : Hid (Blk w2 w1.heap.size X 26) := r2
  have R20 : Hid (Blk w2 w.heap.size X 26) := r20
  have G1 : Hid (w.heap.size < w1.heap.size) := R0.out.lt
  have cI := (r2.cell 12).trans XI.out
  have fI := r2.frozen 12
  clear r2 b2 r20
  generalize w1.heap.size = g1 at *
  go_wp2_with (refine wpList_load_row rfl 26 _ rfl g1 rfl 26 (X.setIfInBounds 12 (.int .i64 (bits .xor .i64 b 1))) (0, 0) _ (R2.out.set 12 (.int .i64 (bits .xor .i64 b 1))) Try.underlying26 rfl IYX.out ?_; refine stopR ?_)
  unfold StopR
  have r3 := (R2.out.set 12 (.int .i64 (bits .xor .i64 b 1)))
  have r30 := (R20.out.setOther (a := ⟨g1, 12, none⟩) (.int .i64 (bits .xor .i64 b 1)) (show w.heap.size ≠ g1 by have := G1.out; omega))
  have b3 := (B2.out.setCell (p := ⟨g1, 12, none⟩) (show w.heap.size ≤ g1 by have := G1.out; omega) (.int .i64 (bits .xor .i64 b 1)))
  rw [HY.out] at r3 ⊢
  generalize w2.setCell ⟨g1, 12, none⟩ (.int .i64 (bits .xor .i64 b 1)) = w3 at *
  have R3 : Hid (Blk w3 g1 Y 26) := r3
  have R30 : Hid (Blk w3 w.heap.size X 26) := r30
  have B3 : Hid (Below w.heap.size w w3) := b3
  clear r3 r30 b3 cI fI
  have G3 : Hid (g1 < w3.heap.size) := R3.out.lt
  go_wp2_with (refine wpList_store_row rfl 26 _ _ rfl w3.heap.size Y rfl rfl 26 _ (heap_alloc_new w3 _) IY.out SY.out OY.out ?_; refine stopR ?_)
  have r4 := (Blk.new w3 #[.int .u64 0, .int .u64 0, .int .u64 0, .int .u64 0, .int .u64 0, .int .u64 0, .int .u64 0, .int .u64 0, .int .u64 0, .int .u64 0, .int .i64 0, .int .i64 0, .int .i64 0, .int .i64 0, .int .i64 0, .int .i64 0] 26 rfl).setRow Y
  have b4 := below_row (below1 w3 (.cells #[.int .u64 0, .int .u64 0, .int .u64 0, .int .u64 0, .int .u64 0, .int .u64 0, .int .u64 0, .int .u64 0, .int .u64 0, .int .u64 0, .int .i64 0, .int .i64 0, .int .i64 0, .int .i64 0, .int .i64 0, .int .i64 0] 26)) Y (Nat.le_refl _)
  unfold StopR
  generalize (w3.alloc (.cells #[.int .u64 0, .int .u64 0, .int .u64 0, .int .u64 0, .int .u64 0, .int .u64 0, .int .u64 0, .int .u64 0, .int .u64 0, .int .u64 0, .int .i64 0, .int .i64 0, .int .i64 0, .int .i64 0, .int .i64 0, .int .i64 0] 26)).setRow w3.heap.size Y = w4 at *
  have R4 : Hid (Blk w4 w3.heap.size Y 26) := r4
  have B4 : Hid (Below w3.heap.size w3 w4) := b4
  have z11 := (r4.cell 11).trans Y11.out
  have f11 := r4.frozen 11
  clear r4 b4
  have G4 : Hid (w3.heap.size < w4.heap.size) := R4.out.lt
  have G40 : Hid (w.heap.size < w3.heap.size) := by have h1 := G1.out; have h3 := G3.out; show _ < _; omega
  have R41 : Hid (Blk (w4.setCell ⟨w3.heap.size, 11, none⟩ (.int .i64 (bits .xor .i64 l 2))) w.heap.size X 26) := (R30.out.later B4.out).setOther (a := ⟨w3.heap.size, 11, none⟩) _ (show w.heap.size ≠ w3.heap.size by have := G40.out; omega)
  have R42 : Hid (Blk (w4.setCell ⟨w3.heap.size, 11, none⟩ (.int .i64 (bits .xor .i64 l 2))) w3.heap.size (Y.setIfInBounds 11 (.int .i64 (bits .xor .i64 l 2))) 26) := R4.out.set 11 _
  have R43 : Hid (Blk (w4.setCell ⟨w3.heap.size, 11, none⟩ (.int .i64 (bits .xor .i64 l 2))) g1 Y 26) := (R3.out.later B4.out).setOther (a := ⟨w3.heap.size, 11, none⟩) _ (show g1 ≠ w3.heap.size by have := G3.out; omega)
  have B5 : Hid (Below w.heap.size w (w4.setCell ⟨w3.heap.size, 11, none⟩ (.int .i64 (bits .xor .i64 l 2)))) := (B3.out.trans (B4.out.mono B3.out.size)).setCell (p := ⟨w3.heap.size, 11, none⟩) (by have := G40.out; show w.heap.size ≤ w3.heap.size; omega) _
  generalize w3.heap.size = g3 at *
  go_wp2_with (refine wpList_load_row rfl 26 _ rfl w.heap.size rfl 26 X (0, 0) _ R41.out Try.underlying26 rfl IX.out ?_; refine stopR ?_)
  unfold StopR
  clear z11 f11
  generalize w4.setCell ⟨g3, 11, none⟩ (.int .i64 (bits .xor .i64 l 2)) = w5 at *
  go_wp2_with (refine wpList_load_row rfl 26 _ rfl g3 rfl 26 (Y.setIfInBounds 11 (.int .i64 (bits .xor .i64 l 2))) (0, 0) _ R42.out Try.underlying26 rfl IZY.out ?_; refine stopR ?_)
  unfold StopR
  rw [HZ.out]
  go_wp2_with fail
  refine (K1.out _).mono ?_
  rintro e w6 ⟨rfl, hb6⟩
  have R61 : Hid (Blk w6 w.heap.size X 26) := R41.out.later hb6
  have R63 : Hid (Blk w6 g1 Y 26) := R43.out.later hb6
  have B6 : Hid (Below w.heap.size w w6) := B5.out.trans (hb6.mono B5.out.size)
  clear hb6
  go_wp2_with (first | (refine wpList_load_row rfl 26 _ rfl w.heap.size rfl 26 X (0, 0) _ R61.out Try.underlying26 rfl IX.out ?_) | (refine wpList_load_row rfl 26 _ rfl g1 rfl 26 Y (0, 0) _ R63.out Try.underlying26 rfl IY.out ?_))
  refine (K2.out _).mono ?_
  rintro e w7 ⟨rfl, hb7⟩
  go_wp2
  go_ret
  exact ⟨rfl, B6.out.trans (hb7.mono B6.out.size)⟩
set_option maxHeartbeats 4000000 in
theorem reps_c1 (X Y Z : Array Value) (b l x M n0 n1 : Int) (w : World) (hx : bits .and .i64 x 255 = M) (M0 : 0 ≤ M) (M1 : M ≤ 255) (hm : M % 9 = 1)
    (hsX : X.size = 16) (hoX : X.all (·.oneCell') = true) (hoY : Y.all (·.oneCell') = true) (hY : Y = (X.setIfInBounds 12 (.int .i64 (bits .xor .i64 b 2)))) (hZ : Z = Y.setIfInBounds 11 (.int .i64 (bits .xor .i64 l 2)))(xI : X[12]? = some (.int .i64 b)) (y11 : Y[11]? = some (.int .i64 l))
    (K1 : Hid (∀ w, Calls Try.prog 12 #[.agg X, .agg Z] w fun e w' => e = .returned (.int .i64 8) ∧ Below w.heap.size w w'))
    (K2 : Hid (∀ w, Calls Try.prog 12 #[.agg X, .agg Y] w fun e w' => e = .returned (.int .i64 8) ∧ Below w.heap.size w w')) :
    Calls Try.prog 4 #[.agg X, .int .i64 x, .agg #[.int .u64 n0, .int .u64 n1]] w fun e w' => e = .returned (.bool true) ∧ Below w.heap.size w w' := by
  have IX : Hid ((Try.prog.info? 26).map (·.size) = some X.size) := by show _ = _; rw [hsX]; exact info_tr
  have hsY : Y.size = 16 := by rw [hY]; simp [hsX]
  have hsZ : Z.size = 16 := by rw [hZ]; simp [hsY]
  have IY : Hid ((Try.prog.info? 26).map (·.size) = some Y.size) := by show _ = _; rw [hsY]; exact info_tr
  have IZ : Hid ((Try.prog.info? 26).map (·.size) = some Z.size) := by show _ = _; rw [hsZ]; exact info_tr
  have OX : Hid (X.all (·.oneCell') = true) := hoX
  have OY : Hid (Y.all (·.oneCell') = true) := hoY
  have SX : Hid (16 = X.size) := hsX.symm
  have SY : Hid (16 = Y.size) := hsY.symm
  have HY : Hid ((X.setIfInBounds 12 (.int .i64 (bits .xor .i64 b 2))) = Y) := hY.symm
  have HZ : Hid (Y.setIfInBounds 11 (.int .i64 (bits .xor .i64 l 2)) = Z) := hZ.symm
  have Y11 : Hid (Y[11]? = some (.int .i64 l)) := y11
  have IYX : Hid ((Try.prog.info? 26).map (·.size) = some ((X.setIfInBounds 12 (.int .i64 (bits .xor .i64 b 2)))).size) := by show _ = _; rw [HY.out]; exact IY.out
  have IZY : Hid ((Try.prog.info? 26).map (·.size) = some (Y.setIfInBounds 11 (.int .i64 (bits .xor .i64 l 2))).size) := by show _ = _; rw [HZ.out]; exact IZ.out
  have XI := (show Hid _ from xI)
  clear hsX hsY hsZ hoX hoY hY hZ y11 xI
  go_enter Try.func4, Try.ntmps4
  go_wp2_with fail
  refine (fit9_any _).mono ?_
  rintro e w1 ⟨rfl, hb1⟩
  have R0 : Hid (Blk w1 w.heap.size X 26) := ((Blk.new w X 26 rfl).alloc _).later hb1
  have B1 : Hid (Below w.heap.size w w1) := (below2 w _ _).trans (hb1.mono (by simp; omega))
  clear hb1
  go_wp2_with (first | (refine wpList_load_row rfl 26 _ rfl w.heap.size rfl 26 X (0, 0) _ R0.out Try.underlying26 rfl IX.out ?_) | (refine wpList_store_row rfl 26 _ _ rfl w1.heap.size X rfl rfl 26 _ (heap_alloc_new w1 _) IX.out SX.out OX.out ?_; refine stopR ?_))
  have r2 := (Blk.new w1 #[.int .u64 0, .int .u64 0, .int .u64 0, .int .u64 0, .int .u64 0, .int .u64 0, .int .u64 0, .int .u64 0, .int .u64 0, .int .u64 0, .int .i64 0, .int .i64 0, .int .i64 0, .int .i64 0, .int .i64 0, .int .i64 0] 26 rfl).setRow X
  have b2 := below_row (below1 w1 (.cells #[.int .u64 0, .int .u64 0, .int .u64 0, .int .u64 0, .int .u64 0, .int .u64 0, .int .u64 0, .int .u64 0, .int .u64 0, .int .u64 0, .int .i64 0, .int .i64 0, .int .i64 0, .int .i64 0, .int .i64 0, .int .i64 0] 26)) X (Nat.le_refl _)
  have r20 := (R0.out.alloc (.cells #[.int .u64 0, .int .u64 0, .int .u64 0, .int .u64 0, .int .u64 0, .int .u64 0, .int .u64 0, .int .u64 0, .int .u64 0, .int .u64 0, .int .i64 0, .int .i64 0, .int .i64 0, .int .i64 0, .int .i64 0, .int .i64 0] 26)).setRowOther X (show w.heap.size ≠ w1.heap.size by have := R0.out.lt; omega)
  unfold StopR
  generalize (w1.alloc (.cells #[.int .u64 0, .int .u64 0, .int .u64 0, .int .u64 0, .int .u64 0, .int .u64 0, .int .u64 0, .int .u64 0, .int .u64 0, .int .u64 0, .int .i64 0, .int .i64 0, .int .i64 0, .int .i64 0, .int .i64 0, .int .i64 0] 26)).setRow w1.heap.size X = w2 at *
  have B2 : Hid (Below w.heap.size w w2) := B1.out.trans (b2.mono B1.out.size)
  have R2 : Hid (Blk w2 w1.heap.size X 26) := r2
  have R20 : Hid (Blk w2 w.heap.size X 26) := r20
  have G1 : Hid (w.heap.size < w1.heap.size) := R0.out.lt
  have cI := (r2.cell 12).trans XI.out
  have fI := r2.frozen 12
  clear r2 b2 r20
  generalize w1.heap.size = g1 at *
  go_wp2_with (refine wpList_load_row rfl 26 _ rfl g1 rfl 26 (X.setIfInBounds 12 (.int .i64 (bits .xor .i64 b 2))) (0, 0) _ (R2.out.set 12 (.int .i64 (bits .xor .i64 b 2))) Try.underlying26 rfl IYX.out ?_; refine stopR ?_)
  unfold StopR
  have r3 := (R2.out.set 12 (.int .i64 (bits .xor .i64 b 2)))
  have r30 := (R20.out.setOther (a := ⟨g1, 12, none⟩) (.int .i64 (bits .xor .i64 b 2)) (show w.heap.size ≠ g1 by have := G1.out; omega))
  have b3 := (B2.out.setCell (p := ⟨g1, 12, none⟩) (show w.heap.size ≤ g1 by have := G1.out; omega) (.int .i64 (bits .xor .i64 b 2)))
  rw [HY.out] at r3 ⊢
  generalize w2.setCell ⟨g1, 12, none⟩ (.int .i64 (bits .xor .i64 b 2)) = w3 at *
  have R3 : Hid (Blk w3 g1 Y 26) := r3
  have R30 : Hid (Blk w3 w.heap.size X 26) := r30
  have B3 : Hid (Below w.heap.size w w3) := b3
  clear r3 r30 b3 cI fI
  have G3 : Hid (g1 < w3.heap.size) := R3.out.lt
  go_wp2_with (refine wpList_store_row rfl 26 _ _ rfl w3.heap.size Y rfl rfl 26 _ (heap_alloc_new w3 _) IY.out SY.out OY.out ?_; refine stopR ?_)
  have r4 := (Blk.new w3 #[.int .u64 0, .int .u64 0, .int .u64 0, .int .u64 0, .int .u64 0, .int .u64 0, .int .u64 0, .int .u64 0, .int .u64 0, .int .u64 0, .int .i64 0, .int .i64 0, .int .i64 0, .int .i64 0, .int .i64 0, .int .i64 0] 26 rfl).setRow Y
  have b4 := below_row (below1 w3 (.cells #[.int .u64 0, .int .u64 0, .int .u64 0, .int .u64 0, .int .u64 0, .int .u64 0, .int .u64 0, .int .u64 0, .int .u64 0, .int .u64 0, .int .i64 0, .int .i64 0, .int .i64 0, .int .i64 0, .int .i64 0, .int .i64 0] 26)) Y (Nat.le_refl _)
  unfold StopR
  generalize (w3.alloc (.cells #[.int .u64 0, .int .u64 0, .int .u64 0, .int .u64 0, .int .u64 0, .int .u64 0, .int .u64 0, .int .u64 0, .int .u64 0, .int .u64 0, .int .i64 0, .int .i64 0, .int .i64 0, .int .i64 0, .int .i64 0, .int .i64 0] 26)).setRow w3.heap.size Y = w4 at *
  have R4 : Hid (Blk w4 w3.heap.size Y 26) := r4
  have B4 : Hid (Below w3.heap.size w3 w4) := b4
  have z11 := (r4.cell 11).trans Y11.out
  have f11 := r4.frozen 11
  clear r4 b4
  have G4 : Hid (w3.heap.size < w4.heap.size) := R4.out.lt
  have G40 : Hid (w.heap.size < w3.heap.size) := by have h1 := G1.out; have h3 := G3.out; show _ < _; omega
  have R41 : Hid (Blk (w4.setCell ⟨w3.heap.size, 11, none⟩ (.int .i64 (bits .xor .i64 l 2))) w.heap.size X 26) := (R30.out.later B4.out).setOther (a := ⟨w3.heap.size, 11, none⟩) _ (show w.heap.size ≠ w3.heap.size by have := G40.out; omega)
  have R42 : Hid (Blk (w4.setCell ⟨w3.heap.size, 11, none⟩ (.int .i64 (bits .xor .i64 l 2))) w3.heap.size (Y.setIfInBounds 11 (.int .i64 (bits .xor .i64 l 2))) 26) := R4.out.set 11 _
  have R43 : Hid (Blk (w4.setCell ⟨w3.heap.size, 11, none⟩ (.int .i64 (bits .xor .i64 l 2))) g1 Y 26) := (R3.out.later B4.out).setOther (a := ⟨w3.heap.size, 11, none⟩) _ (show g1 ≠ w3.heap.size by have := G3.out; omega)
  have B5 : Hid (Below w.heap.size w (w4.setCell ⟨w3.heap.size, 11, none⟩ (.int .i64 (bits .xor .i64 l 2)))) := (B3.out.trans (B4.out.mono B3.out.size)).setCell (p := ⟨w3.heap.size, 11, none⟩) (by have := G40.out; show w.heap.size ≤ w3.heap.size; omega) _
  generalize w3.heap.size = g3 at *
  go_wp2_with (refine wpList_load_row rfl 26 _ rfl w.heap.size rfl 26 X (0, 0) _ R41.out Try.underlying26 rfl IX.out ?_; refine stopR ?_)
  unfold StopR
  clear z11 f11
  generalize w4.setCell ⟨g3, 11, none⟩ (.int .i64 (bits .xor .i64 l 2)) = w5 at *
  go_wp2_with (refine wpList_load_row rfl 26 _ rfl g3 rfl 26 (Y.setIfInBounds 11 (.int .i64 (bits .xor .i64 l 2))) (0, 0) _ R42.out Try.underlying26 rfl IZY.out ?_; refine stopR ?_)
  unfold StopR
  rw [HZ.out]
  go_wp2_with fail
  refine (K1.out _).mono ?_
  rintro e w6 ⟨rfl, hb6⟩
  have R61 : Hid (Blk w6 w.heap.size X 26) := R41.out.later hb6
  have R63 : Hid (Blk w6 g1 Y 26) := R43.out.later hb6
  have B6 : Hid (Below w.heap.size w w6) := B5.out.trans (hb6.mono B5.out.size)
  clear hb6
  go_wp2_with (first | (refine wpList_load_row rfl 26 _ rfl w.heap.size rfl 26 X (0, 0) _ R61.out Try.underlying26 rfl IX.out ?_) | (refine wpList_load_row rfl 26 _ rfl g1 rfl 26 Y (0, 0) _ R63.out Try.underlying26 rfl IY.out ?_))
  refine (K2.out _).mono ?_
  rintro e w7 ⟨rfl, hb7⟩
  go_wp2
  go_ret
  exact ⟨rfl, B6.out.trans (hb7.mono B6.out.size)⟩
set_option maxHeartbeats 4000000 in
theorem reps_c2 (X Y Z : Array Value) (b l x M n0 n1 : Int) (w : World) (hx : bits .and .i64 x 255 = M) (M0 : 0 ≤ M) (M1 : M ≤ 255) (hm : M % 9 = 2)
    (hsX : X.size = 16) (hoX : X.all (·.oneCell') = true) (hoY : Y.all (·.oneCell') = true) (hY : Y = (X.setIfInBounds 3 (.int .u64 (bits .xor .u64 b 1)))) (hZ : Z = Y.setIfInBounds 11 (.int .i64 (bits .xor .i64 l 2)))(xI : X[3]? = some (.int .u64 b)) (y11 : Y[11]? = some (.int .i64 l))
    (K1 : Hid (∀ w, Calls Try.prog 12 #[.agg X, .agg Z] w fun e w' => e = .returned (.int .i64 9) ∧ Below w.heap.size w w'))
    (K2 : Hid (∀ w, Calls Try.prog 12 #[.agg X, .agg Y] w fun e w' => e = .returned (.int .i64 9) ∧ Below w.heap.size w w')) :
    Calls Try.prog 4 #[.agg X, .int .i64 x, .agg #[.int .u64 n0, .int .u64 n1]] w fun e w' => e = .returned (.bool true) ∧ Below w.heap.size w w' := by
  have IX : Hid ((Try.prog.info? 26).map (·.size) = some X.size) := by show _ = _; rw [hsX]; exact info_tr
  have hsY : Y.size = 16 := by rw [hY]; simp [hsX]
  have hsZ : Z.size = 16 := by rw [hZ]; simp [hsY]
  have IY : Hid ((Try.prog.info? 26).map (·.size) = some Y.size) := by show _ = _; rw [hsY]; exact info_tr
  have IZ : Hid ((Try.prog.info? 26).map (·.size) = some Z.size) := by show _ = _; rw [hsZ]; exact info_tr
  have OX : Hid (X.all (·.oneCell') = true) := hoX
  have OY : Hid (Y.all (·.oneCell') = true) := hoY
  have SX : Hid (16 = X.size) := hsX.symm
  have SY : Hid (16 = Y.size) := hsY.symm
  have HY : Hid ((X.setIfInBounds 3 (.int .u64 (bits .xor .u64 b 1))) = Y) := hY.symm
  have HZ : Hid (Y.setIfInBounds 11 (.int .i64 (bits .xor .i64 l 2)) = Z) := hZ.symm
  have Y11 : Hid (Y[11]? = some (.int .i64 l)) := y11
  have IYX : Hid ((Try.prog.info? 26).map (·.size) = some ((X.setIfInBounds 3 (.int .u64 (bits .xor .u64 b 1)))).size) := by show _ = _; rw [HY.out]; exact IY.out
  have IZY : Hid ((Try.prog.info? 26).map (·.size) = some (Y.setIfInBounds 11 (.int .i64 (bits .xor .i64 l 2))).size) := by show _ = _; rw [HZ.out]; exact IZ.out
  have XI := (show Hid _ from xI)
  clear hsX hsY hsZ hoX hoY hY hZ y11 xI
  go_enter Try.func4, Try.ntmps4
  go_wp2_with fail
  refine (fit9_any _).mono ?_
  rintro e w1 ⟨rfl, hb1⟩
  have R0 : Hid (Blk w1 w.heap.size X 26) := ((Blk.new w X 26 rfl).alloc _).later hb1
  have B1 : Hid (Below w.heap.size w w1) := (below2 w _ _).trans (hb1.mono (by simp; omega))
  clear hb1
  go_wp2_with (first | (refine wpList_load_row rfl 26 _ rfl w.heap.size rfl 26 X (0, 0) _ R0.out Try.underlying26 rfl IX.out ?_) | (refine wpList_store_row rfl 26 _ _ rfl w1.heap.size X rfl rfl 26 _ (heap_alloc_new w1 _) IX.out SX.out OX.out ?_; refine stopR ?_))
  have r2 := (Blk.new w1 #[.int .u64 0, .int .u64 0, .int .u64 0, .int .u64 0, .int .u64 0, .int .u64 0, .int .u64 0, .int .u64 0, .int .u64 0, .int .u64 0, .int .i64 0, .int .i64 0, .int .i64 0, .int .i64 0, .int .i64 0, .int .i64 0] 26 rfl).setRow X
  have b2 := below_row (below1 w1 (.cells #[.int .u64 0, .int .u64 0, .int .u64 0, .int .u64 0, .int .u64 0, .int .u64 0, .int .u64 0, .int .u64 0, .int .u64 0, .int .u64 0, .int .i64 0, .int .i64 0, .int .i64 0, .int .i64 0, .int .i64 0, .int .i64 0] 26)) X (Nat.le_refl _)
  have r20 := (R0.out.alloc (.cells #[.int .u64 0, .int .u64 0, .int .u64 0, .int .u64 0, .int .u64 0, .int .u64 0, .int .u64 0, .int .u64 0, .int .u64 0, .int .u64 0, .int .i64 0, .int .i64 0, .int .i64 0, .int .i64 0, .int .i64 0, .int .i64 0] 26)).setRowOther X (show w.heap.size ≠ w1.heap.size by have := R0.out.lt; omega)
  unfold StopR
  generalize (w1.alloc (.cells #[.int .u64 0, .int .u64 0, .int .u64 0, .int .u64 0, .int .u64 0, .int .u64 0, .int .u64 0, .int .u64 0, .int .u64 0, .int .u64 0, .int .i64 0, .int .i64 0, .int .i64 0, .int .i64 0, .int .i64 0, .int .i64 0] 26)).setRow w1.heap.size X = w2 at *
  have B2 : Hid (Below w.heap.size w w2) := B1.out.trans (b2.mono B1.out.size)
  have R2 : Hid (Blk w2 w1.heap.size X 26) := r2
  have R20 : Hid (Blk w2 w.heap.size X 26) := r20
  have G1 : Hid (w.heap.size < w1.heap.size) := R0.out.lt
  have cI := (r2.cell 3).trans XI.out
  have fI := r2.frozen 3
  clear r2 b2 r20
  generalize w1.heap.size = g1 at *
  go_wp2_with (refine wpList_load_row rfl 26 _ rfl g1 rfl 26 (X.setIfInBounds 3 (.int .u64 (bits .xor .u64 b 1))) (0, 0) _ (R2.out.set 3 (.int .u64 (bits .xor .u64 b 1))) Try.underlying26 rfl IYX.out ?_; refine stopR ?_)
  unfold StopR
  have r3 := (R2.out.set 3 (.int .u64 (bits .xor .u64 b 1)))
  have r30 := (R20.out.setOther (a := ⟨g1, 3, none⟩) (.int .u64 (bits .xor .u64 b 1)) (show w.heap.size ≠ g1 by have := G1.out; omega))
  have b3 := (B2.out.setCell (p := ⟨g1, 3, none⟩) (show w.heap.size ≤ g1 by have := G1.out; omega) (.int .u64 (bits .xor .u64 b 1)))
  rw [HY.out] at r3 ⊢
  generalize w2.setCell ⟨g1, 3, none⟩ (.int .u64 (bits .xor .u64 b 1)) = w3 at *
  have R3 : Hid (Blk w3 g1 Y 26) := r3
  have R30 : Hid (Blk w3 w.heap.size X 26) := r30
  have B3 : Hid (Below w.heap.size w w3) := b3
  clear r3 r30 b3 cI fI
  have G3 : Hid (g1 < w3.heap.size) := R3.out.lt
  go_wp2_with (refine wpList_store_row rfl 26 _ _ rfl w3.heap.size Y rfl rfl 26 _ (heap_alloc_new w3 _) IY.out SY.out OY.out ?_; refine stopR ?_)
  have r4 := (Blk.new w3 #[.int .u64 0, .int .u64 0, .int .u64 0, .int .u64 0, .int .u64 0, .int .u64 0, .int .u64 0, .int .u64 0, .int .u64 0, .int .u64 0, .int .i64 0, .int .i64 0, .int .i64 0, .int .i64 0, .int .i64 0, .int .i64 0] 26 rfl).setRow Y
  have b4 := below_row (below1 w3 (.cells #[.int .u64 0, .int .u64 0, .int .u64 0, .int .u64 0, .int .u64 0, .int .u64 0, .int .u64 0, .int .u64 0, .int .u64 0, .int .u64 0, .int .i64 0, .int .i64 0, .int .i64 0, .int .i64 0, .int .i64 0, .int .i64 0] 26)) Y (Nat.le_refl _)
  unfold StopR
  generalize (w3.alloc (.cells #[.int .u64 0, .int .u64 0, .int .u64 0, .int .u64 0, .int .u64 0, .int .u64 0, .int .u64 0, .int .u64 0, .int .u64 0, .int .u64 0, .int .i64 0, .int .i64 0, .int .i64 0, .int .i64 0, .int .i64 0, .int .i64 0] 26)).setRow w3.heap.size Y = w4 at *
  have R4 : Hid (Blk w4 w3.heap.size Y 26) := r4
  have B4 : Hid (Below w3.heap.size w3 w4) := b4
  have z11 := (r4.cell 11).trans Y11.out
  have f11 := r4.frozen 11
  clear r4 b4
  have G4 : Hid (w3.heap.size < w4.heap.size) := R4.out.lt
  have G40 : Hid (w.heap.size < w3.heap.size) := by have h1 := G1.out; have h3 := G3.out; show _ < _; omega
  have R41 : Hid (Blk (w4.setCell ⟨w3.heap.size, 11, none⟩ (.int .i64 (bits .xor .i64 l 2))) w.heap.size X 26) := (R30.out.later B4.out).setOther (a := ⟨w3.heap.size, 11, none⟩) _ (show w.heap.size ≠ w3.heap.size by have := G40.out; omega)
  have R42 : Hid (Blk (w4.setCell ⟨w3.heap.size, 11, none⟩ (.int .i64 (bits .xor .i64 l 2))) w3.heap.size (Y.setIfInBounds 11 (.int .i64 (bits .xor .i64 l 2))) 26) := R4.out.set 11 _
  have R43 : Hid (Blk (w4.setCell ⟨w3.heap.size, 11, none⟩ (.int .i64 (bits .xor .i64 l 2))) g1 Y 26) := (R3.out.later B4.out).setOther (a := ⟨w3.heap.size, 11, none⟩) _ (show g1 ≠ w3.heap.size by have := G3.out; omega)
  have B5 : Hid (Below w.heap.size w (w4.setCell ⟨w3.heap.size, 11, none⟩ (.int .i64 (bits .xor .i64 l 2)))) := (B3.out.trans (B4.out.mono B3.out.size)).setCell (p := ⟨w3.heap.size, 11, none⟩) (by have := G40.out; show w.heap.size ≤ w3.heap.size; omega) _
  generalize w3.heap.size = g3 at *
  go_wp2_with (refine wpList_load_row rfl 26 _ rfl w.heap.size rfl 26 X (0, 0) _ R41.out Try.underlying26 rfl IX.out ?_; refine stopR ?_)
  unfold StopR
  clear z11 f11
  generalize w4.setCell ⟨g3, 11, none⟩ (.int .i64 (bits .xor .i64 l 2)) = w5 at *
  go_wp2_with (refine wpList_load_row rfl 26 _ rfl g3 rfl 26 (Y.setIfInBounds 11 (.int .i64 (bits .xor .i64 l 2))) (0, 0) _ R42.out Try.underlying26 rfl IZY.out ?_; refine stopR ?_)
  unfold StopR
  rw [HZ.out]
  go_wp2_with fail
  refine (K1.out _).mono ?_
  rintro e w6 ⟨rfl, hb6⟩
  have R61 : Hid (Blk w6 w.heap.size X 26) := R41.out.later hb6
  have R63 : Hid (Blk w6 g1 Y 26) := R43.out.later hb6
  have B6 : Hid (Below w.heap.size w w6) := B5.out.trans (hb6.mono B5.out.size)
  clear hb6
  go_wp2_with (first | (refine wpList_load_row rfl 26 _ rfl w.heap.size rfl 26 X (0, 0) _ R61.out Try.underlying26 rfl IX.out ?_) | (refine wpList_load_row rfl 26 _ rfl g1 rfl 26 Y (0, 0) _ R63.out Try.underlying26 rfl IY.out ?_))
  refine (K2.out _).mono ?_
  rintro e w7 ⟨rfl, hb7⟩
  go_wp2
  go_ret
  exact ⟨rfl, B6.out.trans (hb7.mono B6.out.size)⟩
set_option maxHeartbeats 4000000 in
theorem reps_c3 (X Y Z : Array Value) (b l x M n0 n1 : Int) (w : World) (hx : bits .and .i64 x 255 = M) (M0 : 0 ≤ M) (M1 : M ≤ 255) (hm : M % 9 = 3)
    (hsX : X.size = 16) (hoX : X.all (·.oneCell') = true) (hoY : Y.all (·.oneCell') = true) (hY : Y = (X.setIfInBounds 4 (.int .u64 (bits .xor .u64 b 1)))) (hZ : Z = Y.setIfInBounds 11 (.int .i64 (bits .xor .i64 l 2)))(xI : X[4]? = some (.int .u64 b)) (y11 : Y[11]? = some (.int .i64 l))
    (K1 : Hid (∀ w, Calls Try.prog 12 #[.agg X, .agg Z] w fun e w' => e = .returned (.int .i64 10) ∧ Below w.heap.size w w'))
    (K2 : Hid (∀ w, Calls Try.prog 12 #[.agg X, .agg Y] w fun e w' => e = .returned (.int .i64 10) ∧ Below w.heap.size w w')) :
    Calls Try.prog 4 #[.agg X, .int .i64 x, .agg #[.int .u64 n0, .int .u64 n1]] w fun e w' => e = .returned (.bool true) ∧ Below w.heap.size w w' := by
  have IX : Hid ((Try.prog.info? 26).map (·.size) = some X.size) := by show _ = _; rw [hsX]; exact info_tr
  have hsY : Y.size = 16 := by rw [hY]; simp [hsX]
  have hsZ : Z.size = 16 := by rw [hZ]; simp [hsY]
  have IY : Hid ((Try.prog.info? 26).map (·.size) = some Y.size) := by show _ = _; rw [hsY]; exact info_tr
  have IZ : Hid ((Try.prog.info? 26).map (·.size) = some Z.size) := by show _ = _; rw [hsZ]; exact info_tr
  have OX : Hid (X.all (·.oneCell') = true) := hoX
  have OY : Hid (Y.all (·.oneCell') = true) := hoY
  have SX : Hid (16 = X.size) := hsX.symm
  have SY : Hid (16 = Y.size) := hsY.symm
  have HY : Hid ((X.setIfInBounds 4 (.int .u64 (bits .xor .u64 b 1))) = Y) := hY.symm
  have HZ : Hid (Y.setIfInBounds 11 (.int .i64 (bits .xor .i64 l 2)) = Z) := hZ.symm
  have Y11 : Hid (Y[11]? = some (.int .i64 l)) := y11
  have IYX : Hid ((Try.prog.info? 26).map (·.size) = some ((X.setIfInBounds 4 (.int .u64 (bits .xor .u64 b 1)))).size) := by show _ = _; rw [HY.out]; exact IY.out
  have IZY : Hid ((Try.prog.info? 26).map (·.size) = some (Y.setIfInBounds 11 (.int .i64 (bits .xor .i64 l 2))).size) := by show _ = _; rw [HZ.out]; exact IZ.out
  have XI := (show Hid _ from xI)
  clear hsX hsY hsZ hoX hoY hY hZ y11 xI
  go_enter Try.func4, Try.ntmps4
  go_wp2_with fail
  refine (fit9_any _).mono ?_
  rintro e w1 ⟨rfl, hb1⟩
  have R0 : Hid (Blk w1 w.heap.size X 26) := ((Blk.new w X 26 rfl).alloc _).later hb1
  have B1 : Hid (Below w.heap.size w w1) := (below2 w _ _).trans (hb1.mono (by simp; omega))
  clear hb1
  go_wp2_with (first | (refine wpList_load_row rfl 26 _ rfl w.heap.size rfl 26 X (0, 0) _ R0.out Try.underlying26 rfl IX.out ?_) | (refine wpList_store_row rfl 26 _ _ rfl w1.heap.size X rfl rfl 26 _ (heap_alloc_new w1 _) IX.out SX.out OX.out ?_; refine stopR ?_))
  have r2 := (Blk.new w1 #[.int .u64 0, .int .u64 0, .int .u64 0, .int .u64 0, .int .u64 0, .int .u64 0, .int .u64 0, .int .u64 0, .int .u64 0, .int .u64 0, .int .i64 0, .int .i64 0, .int .i64 0, .int .i64 0, .int .i64 0, .int .i64 0] 26 rfl).setRow X
  have b2 := below_row (below1 w1 (.cells #[.int .u64 0, .int .u64 0, .int .u64 0, .int .u64 0, .int .u64 0, .int .u64 0, .int .u64 0, .int .u64 0, .int .u64 0, .int .u64 0, .int .i64 0, .int .i64 0, .int .i64 0, .int .i64 0, .int .i64 0, .int .i64 0] 26)) X (Nat.le_refl _)
  have r20 := (R0.out.alloc (.cells #[.int .u64 0, .int .u64 0, .int .u64 0, .int .u64 0, .int .u64 0, .int .u64 0, .int .u64 0, .int .u64 0, .int .u64 0, .int .u64 0, .int .i64 0, .int .i64 0, .int .i64 0, .int .i64 0, .int .i64 0, .int .i64 0] 26)).setRowOther X (show w.heap.size ≠ w1.heap.size by have := R0.out.lt; omega)
  unfold StopR
  generalize (w1.alloc (.cells #[.int .u64 0, .int .u64 0, .int .u64 0, .int .u64 0, .int .u64 0, .int .u64 0, .int .u64 0, .int .u64 0, .int .u64 0, .int .u64 0, .int .i64 0, .int .i64 0, .int .i64 0, .int .i64 0, .int .i64 0, .int .i64 0] 26)).setRow w1.heap.size X = w2 at *
  have B2 : Hid (Below w.heap.size w w2) := B1.out.trans (b2.mono B1.out.size)
  have R2 : Hid (Blk w2 w1.heap.size X 26) := r2
  have R20 : Hid (Blk w2 w.heap.size X 26) := r20
  have G1 : Hid (w.heap.size < w1.heap.size) := R0.out.lt
  have cI := (r2.cell 4).trans XI.out
  have fI := r2.frozen 4
  clear r2 b2 r20
  generalize w1.heap.size = g1 at *
  go_wp2_with (refine wpList_load_row rfl 26 _ rfl g1 rfl 26 (X.setIfInBounds 4 (.int .u64 (bits .xor .u64 b 1))) (0, 0) _ (R2.out.set 4 (.int .u64 (bits .xor .u64 b 1))) Try.underlying26 rfl IYX.out ?_; refine stopR ?_)
  unfold StopR
  have r3 := (R2.out.set 4 (.int .u64 (bits .xor .u64 b 1)))
  have r30 := (R20.out.setOther (a := ⟨g1, 4, none⟩) (.int .u64 (bits .xor .u64 b 1)) (show w.heap.size ≠ g1 by have := G1.out; omega))
  have b3 := (B2.out.setCell (p := ⟨g1, 4, none⟩) (show w.heap.size ≤ g1 by have := G1.out; omega) (.int .u64 (bits .xor .u64 b 1)))
  rw [HY.out] at r3 ⊢
  generalize w2.setCell ⟨g1, 4, none⟩ (.int .u64 (bits .xor .u64 b 1)) = w3 at *
  have R3 : Hid (Blk w3 g1 Y 26) := r3
  have R30 : Hid (Blk w3 w.heap.size X 26) := r30
  have B3 : Hid (Below w.heap.size w w3) := b3
  clear r3 r30 b3 cI fI
  have G3 : Hid (g1 < w3.heap.size) := R3.out.lt
  go_wp2_with (refine wpList_store_row rfl 26 _ _ rfl w3.heap.size Y rfl rfl 26 _ (heap_alloc_new w3 _) IY.out SY.out OY.out ?_; refine stopR ?_)
  have r4 := (Blk.new w3 #[.int .u64 0, .int .u64 0, .int .u64 0, .int .u64 0, .int .u64 0, .int .u64 0, .int .u64 0, .int .u64 0, .int .u64 0, .int .u64 0, .int .i64 0, .int .i64 0, .int .i64 0, .int .i64 0, .int .i64 0, .int .i64 0] 26 rfl).setRow Y
  have b4 := below_row (below1 w3 (.cells #[.int .u64 0, .int .u64 0, .int .u64 0, .int .u64 0, .int .u64 0, .int .u64 0, .int .u64 0, .int .u64 0, .int .u64 0, .int .u64 0, .int .i64 0, .int .i64 0, .int .i64 0, .int .i64 0, .int .i64 0, .int .i64 0] 26)) Y (Nat.le_refl _)
  unfold StopR
  generalize (w3.alloc (.cells #[.int .u64 0, .int .u64 0, .int .u64 0, .int .u64 0, .int .u64 0, .int .u64 0, .int .u64 0, .int .u64 0, .int .u64 0, .int .u64 0, .int .i64 0, .int .i64 0, .int .i64 0, .int .i64 0, .int .i64 0, .int .i64 0] 26)).setRow w3.heap.size Y = w4 at *
  have R4 : Hid (Blk w4 w3.heap.size Y 26) := r4
  have B4 : Hid (Below w3.heap.size w3 w4) := b4
  have z11 := (r4.cell 11).trans Y11.out
  have f11 := r4.frozen 11
  clear r4 b4
  have G4 : Hid (w3.heap.size < w4.heap.size) := R4.out.lt
  have G40 : Hid (w.heap.size < w3.heap.size) := by have h1 := G1.out; have h3 := G3.out; show _ < _; omega
  have R41 : Hid (Blk (w4.setCell ⟨w3.heap.size, 11, none⟩ (.int .i64 (bits .xor .i64 l 2))) w.heap.size X 26) := (R30.out.later B4.out).setOther (a := ⟨w3.heap.size, 11, none⟩) _ (show w.heap.size ≠ w3.heap.size by have := G40.out; omega)
  have R42 : Hid (Blk (w4.setCell ⟨w3.heap.size, 11, none⟩ (.int .i64 (bits .xor .i64 l 2))) w3.heap.size (Y.setIfInBounds 11 (.int .i64 (bits .xor .i64 l 2))) 26) := R4.out.set 11 _
  have R43 : Hid (Blk (w4.setCell ⟨w3.heap.size, 11, none⟩ (.int .i64 (bits .xor .i64 l 2))) g1 Y 26) := (R3.out.later B4.out).setOther (a := ⟨w3.heap.size, 11, none⟩) _ (show g1 ≠ w3.heap.size by have := G3.out; omega)
  have B5 : Hid (Below w.heap.size w (w4.setCell ⟨w3.heap.size, 11, none⟩ (.int .i64 (bits .xor .i64 l 2)))) := (B3.out.trans (B4.out.mono B3.out.size)).setCell (p := ⟨w3.heap.size, 11, none⟩) (by have := G40.out; show w.heap.size ≤ w3.heap.size; omega) _
  generalize w3.heap.size = g3 at *
  go_wp2_with (refine wpList_load_row rfl 26 _ rfl w.heap.size rfl 26 X (0, 0) _ R41.out Try.underlying26 rfl IX.out ?_; refine stopR ?_)
  unfold StopR
  clear z11 f11
  generalize w4.setCell ⟨g3, 11, none⟩ (.int .i64 (bits .xor .i64 l 2)) = w5 at *
  go_wp2_with (refine wpList_load_row rfl 26 _ rfl g3 rfl 26 (Y.setIfInBounds 11 (.int .i64 (bits .xor .i64 l 2))) (0, 0) _ R42.out Try.underlying26 rfl IZY.out ?_; refine stopR ?_)
  unfold StopR
  rw [HZ.out]
  go_wp2_with fail
  refine (K1.out _).mono ?_
  rintro e w6 ⟨rfl, hb6⟩
  have R61 : Hid (Blk w6 w.heap.size X 26) := R41.out.later hb6
  have R63 : Hid (Blk w6 g1 Y 26) := R43.out.later hb6
  have B6 : Hid (Below w.heap.size w w6) := B5.out.trans (hb6.mono B5.out.size)
  clear hb6
  go_wp2_with (first | (refine wpList_load_row rfl 26 _ rfl w.heap.size rfl 26 X (0, 0) _ R61.out Try.underlying26 rfl IX.out ?_) | (refine wpList_load_row rfl 26 _ rfl g1 rfl 26 Y (0, 0) _ R63.out Try.underlying26 rfl IY.out ?_))
  refine (K2.out _).mono ?_
  rintro e w7 ⟨rfl, hb7⟩
  go_wp2
  go_ret
  exact ⟨rfl, B6.out.trans (hb7.mono B6.out.size)⟩
set_option maxHeartbeats 4000000 in
theorem reps_c4 (X Y Z : Array Value) (b l x M n0 n1 : Int) (w : World) (hx : bits .and .i64 x 255 = M) (M0 : 0 ≤ M) (M1 : M ≤ 255) (hm : M % 9 = 4)
    (hsX : X.size = 16) (hoX : X.all (·.oneCell') = true) (hoY : Y.all (·.oneCell') = true) (hY : Y = (X.setIfInBounds 7 (.int .u64 (bits .xor .u64 b 4)))) (hZ : Z = Y.setIfInBounds 11 (.int .i64 (bits .xor .i64 l 2)))(xI : X[7]? = some (.int .u64 b)) (y11 : Y[11]? = some (.int .i64 l))
    (K1 : Hid (∀ w, Calls Try.prog 12 #[.agg X, .agg Z] w fun e w' => e = .returned (.int .i64 11) ∧ Below w.heap.size w w'))
    (K2 : Hid (∀ w, Calls Try.prog 12 #[.agg X, .agg Y] w fun e w' => e = .returned (.int .i64 11) ∧ Below w.heap.size w w')) :
    Calls Try.prog 4 #[.agg X, .int .i64 x, .agg #[.int .u64 n0, .int .u64 n1]] w fun e w' => e = .returned (.bool true) ∧ Below w.heap.size w w' := by
  have IX : Hid ((Try.prog.info? 26).map (·.size) = some X.size) := by show _ = _; rw [hsX]; exact info_tr
  have hsY : Y.size = 16 := by rw [hY]; simp [hsX]
  have hsZ : Z.size = 16 := by rw [hZ]; simp [hsY]
  have IY : Hid ((Try.prog.info? 26).map (·.size) = some Y.size) := by show _ = _; rw [hsY]; exact info_tr
  have IZ : Hid ((Try.prog.info? 26).map (·.size) = some Z.size) := by show _ = _; rw [hsZ]; exact info_tr
  have OX : Hid (X.all (·.oneCell') = true) := hoX
  have OY : Hid (Y.all (·.oneCell') = true) := hoY
  have SX : Hid (16 = X.size) := hsX.symm
  have SY : Hid (16 = Y.size) := hsY.symm
  have HY : Hid ((X.setIfInBounds 7 (.int .u64 (bits .xor .u64 b 4))) = Y) := hY.symm
  have HZ : Hid (Y.setIfInBounds 11 (.int .i64 (bits .xor .i64 l 2)) = Z) := hZ.symm
  have Y11 : Hid (Y[11]? = some (.int .i64 l)) := y11
  have IYX : Hid ((Try.prog.info? 26).map (·.size) = some ((X.setIfInBounds 7 (.int .u64 (bits .xor .u64 b 4)))).size) := by show _ = _; rw [HY.out]; exact IY.out
  have IZY : Hid ((Try.prog.info? 26).map (·.size) = some (Y.setIfInBounds 11 (.int .i64 (bits .xor .i64 l 2))).size) := by show _ = _; rw [HZ.out]; exact IZ.out
  have XI := (show Hid _ from xI)
  clear hsX hsY hsZ hoX hoY hY hZ y11 xI
  go_enter Try.func4, Try.ntmps4
  go_wp2_with fail
  refine (fit9_any _).mono ?_
  rintro e w1 ⟨rfl, hb1⟩
  have R0 : Hid (Blk w1 w.heap.size X 26) := ((Blk.new w X 26 rfl).alloc _).later hb1
  have B1 : Hid (Below w.heap.size w w1) := (below2 w _ _).trans (hb1.mono (by simp; omega))
  clear hb1
  go_wp2_with (first | (refine wpList_load_row rfl 26 _ rfl w.heap.size rfl 26 X (0, 0) _ R0.out Try.underlying26 rfl IX.out ?_) | (refine wpList_store_row rfl 26 _ _ rfl w1.heap.size X rfl rfl 26 _ (heap_alloc_new w1 _) IX.out SX.out OX.out ?_; refine stopR ?_))
  have r2 := (Blk.new w1 #[.int .u64 0, .int .u64 0, .int .u64 0, .int .u64 0, .int .u64 0, .int .u64 0, .int .u64 0, .int .u64 0, .int .u64 0, .int .u64 0, .int .i64 0, .int .i64 0, .int .i64 0, .int .i64 0, .int .i64 0, .int .i64 0] 26 rfl).setRow X
  have b2 := below_row (below1 w1 (.cells #[.int .u64 0, .int .u64 0, .int .u64 0, .int .u64 0, .int .u64 0, .int .u64 0, .int .u64 0, .int .u64 0, .int .u64 0, .int .u64 0, .int .i64 0, .int .i64 0, .int .i64 0, .int .i64 0, .int .i64 0, .int .i64 0] 26)) X (Nat.le_refl _)
  have r20 := (R0.out.alloc (.cells #[.int .u64 0, .int .u64 0, .int .u64 0, .int .u64 0, .int .u64 0, .int .u64 0, .int .u64 0, .int .u64 0, .int .u64 0, .int .u64 0, .int .i64 0, .int .i64 0, .int .i64 0, .int .i64 0, .int .i64 0, .int .i64 0] 26)).setRowOther X (show w.heap.size ≠ w1.heap.size by have := R0.out.lt; omega)
  unfold StopR
  generalize (w1.alloc (.cells #[.int .u64 0, .int .u64 0, .int .u64 0, .int .u64 0, .int .u64 0, .int .u64 0, .int .u64 0, .int .u64 0, .int .u64 0, .int .u64 0, .int .i64 0, .int .i64 0, .int .i64 0, .int .i64 0, .int .i64 0, .int .i64 0] 26)).setRow w1.heap.size X = w2 at *
  have B2 : Hid (Below w.heap.size w w2) := B1.out.trans (b2.mono B1.out.size)
  have R2 : Hid (Blk w2 w1.heap.size X 26) := r2
  have R20 : Hid (Blk w2 w.heap.size X 26) := r20
  have G1 : Hid (w.heap.size < w1.heap.size) := R0.out.lt
  have cI := (r2.cell 7).trans XI.out
  have fI := r2.frozen 7
  clear r2 b2 r20
  generalize w1.heap.size = g1 at *
  go_wp2_with (refine wpList_load_row rfl 26 _ rfl g1 rfl 26 (X.setIfInBounds 7 (.int .u64 (bits .xor .u64 b 4))) (0, 0) _ (R2.out.set 7 (.int .u64 (bits .xor .u64 b 4))) Try.underlying26 rfl IYX.out ?_; refine stopR ?_)
  unfold StopR
  have r3 := (R2.out.set 7 (.int .u64 (bits .xor .u64 b 4)))
  have r30 := (R20.out.setOther (a := ⟨g1, 7, none⟩) (.int .u64 (bits .xor .u64 b 4)) (show w.heap.size ≠ g1 by have := G1.out; omega))
  have b3 := (B2.out.setCell (p := ⟨g1, 7, none⟩) (show w.heap.size ≤ g1 by have := G1.out; omega) (.int .u64 (bits .xor .u64 b 4)))
  rw [HY.out] at r3 ⊢
  generalize w2.setCell ⟨g1, 7, none⟩ (.int .u64 (bits .xor .u64 b 4)) = w3 at *
  have R3 : Hid (Blk w3 g1 Y 26) := r3
  have R30 : Hid (Blk w3 w.heap.size X 26) := r30
  have B3 : Hid (Below w.heap.size w w3) := b3
  clear r3 r30 b3 cI fI
  have G3 : Hid (g1 < w3.heap.size) := R3.out.lt
  go_wp2_with (refine wpList_store_row rfl 26 _ _ rfl w3.heap.size Y rfl rfl 26 _ (heap_alloc_new w3 _) IY.out SY.out OY.out ?_; refine stopR ?_)
  have r4 := (Blk.new w3 #[.int .u64 0, .int .u64 0, .int .u64 0, .int .u64 0, .int .u64 0, .int .u64 0, .int .u64 0, .int .u64 0, .int .u64 0, .int .u64 0, .int .i64 0, .int .i64 0, .int .i64 0, .int .i64 0, .int .i64 0, .int .i64 0] 26 rfl).setRow Y
  have b4 := below_row (below1 w3 (.cells #[.int .u64 0, .int .u64 0, .int .u64 0, .int .u64 0, .int .u64 0, .int .u64 0, .int .u64 0, .int .u64 0, .int .u64 0, .int .u64 0, .int .i64 0, .int .i64 0, .int .i64 0, .int .i64 0, .int .i64 0, .int .i64 0] 26)) Y (Nat.le_refl _)
  unfold StopR
  generalize (w3.alloc (.cells #[.int .u64 0, .int .u64 0, .int .u64 0, .int .u64 0, .int .u64 0, .int .u64 0, .int .u64 0, .int .u64 0, .int .u64 0, .int .u64 0, .int .i64 0, .int .i64 0, .int .i64 0, .int .i64 0, .int .i64 0, .int .i64 0] 26)).setRow w3.heap.size Y = w4 at *
  have R4 : Hid (Blk w4 w3.heap.size Y 26) := r4
  have B4 : Hid (Below w3.heap.size w3 w4) := b4
  have z11 := (r4.cell 11).trans Y11.out
  have f11 := r4.frozen 11
  clear r4 b4
  have G4 : Hid (w3.heap.size < w4.heap.size) := R4.out.lt
  have G40 : Hid (w.heap.size < w3.heap.size) := by have h1 := G1.out; have h3 := G3.out; show _ < _; omega
  have R41 : Hid (Blk (w4.setCell ⟨w3.heap.size, 11, none⟩ (.int .i64 (bits .xor .i64 l 2))) w.heap.size X 26) := (R30.out.later B4.out).setOther (a := ⟨w3.heap.size, 11, none⟩) _ (show w.heap.size ≠ w3.heap.size by have := G40.out; omega)
  have R42 : Hid (Blk (w4.setCell ⟨w3.heap.size, 11, none⟩ (.int .i64 (bits .xor .i64 l 2))) w3.heap.size (Y.setIfInBounds 11 (.int .i64 (bits .xor .i64 l 2))) 26) := R4.out.set 11 _
  have R43 : Hid (Blk (w4.setCell ⟨w3.heap.size, 11, none⟩ (.int .i64 (bits .xor .i64 l 2))) g1 Y 26) := (R3.out.later B4.out).setOther (a := ⟨w3.heap.size, 11, none⟩) _ (show g1 ≠ w3.heap.size by have := G3.out; omega)
  have B5 : Hid (Below w.heap.size w (w4.setCell ⟨w3.heap.size, 11, none⟩ (.int .i64 (bits .xor .i64 l 2)))) := (B3.out.trans (B4.out.mono B3.out.size)).setCell (p := ⟨w3.heap.size, 11, none⟩) (by have := G40.out; show w.heap.size ≤ w3.heap.size; omega) _
  generalize w3.heap.size = g3 at *
  go_wp2_with (refine wpList_load_row rfl 26 _ rfl w.heap.size rfl 26 X (0, 0) _ R41.out Try.underlying26 rfl IX.out ?_; refine stopR ?_)
  unfold StopR
  clear z11 f11
  generalize w4.setCell ⟨g3, 11, none⟩ (.int .i64 (bits .xor .i64 l 2)) = w5 at *
  go_wp2_with (refine wpList_load_row rfl 26 _ rfl g3 rfl 26 (Y.setIfInBounds 11 (.int .i64 (bits .xor .i64 l 2))) (0, 0) _ R42.out Try.underlying26 rfl IZY.out ?_; refine stopR ?_)
  unfold StopR
  rw [HZ.out]
  go_wp2_with fail
  refine (K1.out _).mono ?_
  rintro e w6 ⟨rfl, hb6⟩
  have R61 : Hid (Blk w6 w.heap.size X 26) := R41.out.later hb6
  have R63 : Hid (Blk w6 g1 Y 26) := R43.out.later hb6
  have B6 : Hid (Below w.heap.size w w6) := B5.out.trans (hb6.mono B5.out.size)
  clear hb6
  go_wp2_with (first | (refine wpList_load_row rfl 26 _ rfl w.heap.size rfl 26 X (0, 0) _ R61.out Try.underlying26 rfl IX.out ?_) | (refine wpList_load_row rfl 26 _ rfl g1 rfl 26 Y (0, 0) _ R63.out Try.underlying26 rfl IY.out ?_))
  refine (K2.out _).mono ?_
  rintro e w7 ⟨rfl, hb7⟩
  go_wp2
  go_ret
  exact ⟨rfl, B6.out.trans (hb7.mono B6.out.size)⟩
set_option maxHeartbeats 4000000 in
theorem reps_c5 (X Y Z : Array Value) (b l x M n0 n1 : Int) (w : World) (hx : bits .and .i64 x 255 = M) (M0 : 0 ≤ M) (M1 : M ≤ 255) (hm : M % 9 = 5)
    (hsX : X.size = 16) (hoX : X.all (·.oneCell') = true) (hoY : Y.all (·.oneCell') = true) (hY : Y = (X.setIfInBounds 9 (.int .u64 (bits .xor .u64 b 1)))) (hZ : Z = Y.setIfInBounds 11 (.int .i64 (bits .xor .i64 l 2)))(xI : X[9]? = some (.int .u64 b)) (y11 : Y[11]? = some (.int .i64 l))
    (K1 : Hid (∀ w, Calls Try.prog 12 #[.agg X, .agg Z] w fun e w' => e = .returned (.int .i64 12) ∧ Below w.heap.size w w'))
    (K2 : Hid (∀ w, Calls Try.prog 12 #[.agg X, .agg Y] w fun e w' => e = .returned (.int .i64 12) ∧ Below w.heap.size w w')) :
    Calls Try.prog 4 #[.agg X, .int .i64 x, .agg #[.int .u64 n0, .int .u64 n1]] w fun e w' => e = .returned (.bool true) ∧ Below w.heap.size w w' := by
  have IX : Hid ((Try.prog.info? 26).map (·.size) = some X.size) := by show _ = _; rw [hsX]; exact info_tr
  have hsY : Y.size = 16 := by rw [hY]; simp [hsX]
  have hsZ : Z.size = 16 := by rw [hZ]; simp [hsY]
  have IY : Hid ((Try.prog.info? 26).map (·.size) = some Y.size) := by show _ = _; rw [hsY]; exact info_tr
  have IZ : Hid ((Try.prog.info? 26).map (·.size) = some Z.size) := by show _ = _; rw [hsZ]; exact info_tr
  have OX : Hid (X.all (·.oneCell') = true) := hoX
  have OY : Hid (Y.all (·.oneCell') = true) := hoY
  have SX : Hid (16 = X.size) := hsX.symm
  have SY : Hid (16 = Y.size) := hsY.symm
  have HY : Hid ((X.setIfInBounds 9 (.int .u64 (bits .xor .u64 b 1))) = Y) := hY.symm
  have HZ : Hid (Y.setIfInBounds 11 (.int .i64 (bits .xor .i64 l 2)) = Z) := hZ.symm
  have Y11 : Hid (Y[11]? = some (.int .i64 l)) := y11
  have IYX : Hid ((Try.prog.info? 26).map (·.size) = some ((X.setIfInBounds 9 (.int .u64 (bits .xor .u64 b 1)))).size) := by show _ = _; rw [HY.out]; exact IY.out
  have IZY : Hid ((Try.prog.info? 26).map (·.size) = some (Y.setIfInBounds 11 (.int .i64 (bits .xor .i64 l 2))).size) := by show _ = _; rw [HZ.out]; exact IZ.out
  have XI := (show Hid _ from xI)
  clear hsX hsY hsZ hoX hoY hY hZ y11 xI
  go_enter Try.func4, Try.ntmps4
  go_wp2_with fail
  refine (fit9_any _).mono ?_
  rintro e w1 ⟨rfl, hb1⟩
  have R0 : Hid (Blk w1 w.heap.size X 26) := ((Blk.new w X 26 rfl).alloc _).later hb1
  have B1 : Hid (Below w.heap.size w w1) := (below2 w _ _).trans (hb1.mono (by simp; omega))
  clear hb1
  go_wp2_with (first | (refine wpList_load_row rfl 26 _ rfl w.heap.size rfl 26 X (0, 0) _ R0.out Try.underlying26 rfl IX.out ?_) | (refine wpList_store_row rfl 26 _ _ rfl w1.heap.size X rfl rfl 26 _ (heap_alloc_new w1 _) IX.out SX.out OX.out ?_; refine stopR ?_))
  have r2 := (Blk.new w1 #[.int .u64 0, .int .u64 0, .int .u64 0, .int .u64 0, .int .u64 0, .int .u64 0, .int .u64 0, .int .u64 0, .int .u64 0, .int .u64 0, .int .i64 0, .int .i64 0, .int .i64 0, .int .i64 0, .int .i64 0, .int .i64 0] 26 rfl).setRow X
  have b2 := below_row (below1 w1 (.cells #[.int .u64 0, .int .u64 0, .int .u64 0, .int .u64 0, .int .u64 0, .int .u64 0, .int .u64 0, .int .u64 0, .int .u64 0, .int .u64 0, .int .i64 0, .int .i64 0, .int .i64 0, .int .i64 0, .int .i64 0, .int .i64 0] 26)) X (Nat.le_refl _)
  have r20 := (R0.out.alloc (.cells #[.int .u64 0, .int .u64 0, .int .u64 0, .int .u64 0, .int .u64 0, .int .u64 0, .int .u64 0, .int .u64 0, .int .u64 0, .int .u64 0, .int .i64 0, .int .i64 0, .int .i64 0, .int .i64 0, .int .i64 0, .int .i64 0] 26)).setRowOther X (show w.heap.size ≠ w1.heap.size by have := R0.out.lt; omega)
  unfold StopR
  generalize (w1.alloc (.cells #[.int .u64 0, .int .u64 0, .int .u64 0, .int .u64 0, .int .u64 0, .int .u64 0, .int .u64 0, .int .u64 0, .int .u64 0, .int .u64 0, .int .i64 0, .int .i64 0, .int .i64 0, .int .i64 0, .int .i64 0, .int .i64 0] 26)).setRow w1.heap.size X = w2 at *
  have B2 : Hid (Below w.heap.size w w2) := B1.out.trans (b2.mono B1.out.size)
  have R2 : Hid (Blk w2 w1.heap.size X 26) := r2
  have R20 : Hid (Blk w2 w.heap.size X 26) := r20
  have G1 : Hid (w.heap.size < w1.heap.size) := R0.out.lt
  have cI := (r2.cell 9).trans XI.out
  have fI := r2.frozen 9
  clear r2 b2 r20
  generalize w1.heap.size = g1 at *
  go_wp2_with (refine wpList_load_row rfl 26 _ rfl g1 rfl 26 (X.setIfInBounds 9 (.int .u64 (bits .xor .u64 b 1))) (0, 0) _ (R2.out.set 9 (.int .u64 (bits .xor .u64 b 1))) Try.underlying26 rfl IYX.out ?_; refine stopR ?_)
  unfold StopR
  have r3 := (R2.out.set 9 (.int .u64 (bits .xor .u64 b 1)))
  have r30 := (R20.out.setOther (a := ⟨g1, 9, none⟩) (.int .u64 (bits .xor .u64 b 1)) (show w.heap.size ≠ g1 by have := G1.out; omega))
  have b3 := (B2.out.setCell (p := ⟨g1, 9, none⟩) (show w.heap.size ≤ g1 by have := G1.out; omega) (.int .u64 (bits .xor .u64 b 1)))
  rw [HY.out] at r3 ⊢
  generalize w2.setCell ⟨g1, 9, none⟩ (.int .u64 (bits .xor .u64 b 1)) = w3 at *
  have R3 : Hid (Blk w3 g1 Y 26) := r3
  have R30 : Hid (Blk w3 w.heap.size X 26) := r30
  have B3 : Hid (Below w.heap.size w w3) := b3
  clear r3 r30 b3 cI fI
  have G3 : Hid (g1 < w3.heap.size) := R3.out.lt
  go_wp2_with (refine wpList_store_row rfl 26 _ _ rfl w3.heap.size Y rfl rfl 26 _ (heap_alloc_new w3 _) IY.out SY.out OY.out ?_; refine stopR ?_)
  have r4 := (Blk.new w3 #[.int .u64 0, .int .u64 0, .int .u64 0, .int .u64 0, .int .u64 0, .int .u64 0, .int .u64 0, .int .u64 0, .int .u64 0, .int .u64 0, .int .i64 0, .int .i64 0, .int .i64 0, .int .i64 0, .int .i64 0, .int .i64 0] 26 rfl).setRow Y
  have b4 := below_row (below1 w3 (.cells #[.int .u64 0, .int .u64 0, .int .u64 0, .int .u64 0, .int .u64 0, .int .u64 0, .int .u64 0, .int .u64 0, .int .u64 0, .int .u64 0, .int .i64 0, .int .i64 0, .int .i64 0, .int .i64 0, .int .i64 0, .int .i64 0] 26)) Y (Nat.le_refl _)
  unfold StopR
  generalize (w3.alloc (.cells #[.int .u64 0, .int .u64 0, .int .u64 0, .int .u64 0, .int .u64 0, .int .u64 0, .int .u64 0, .int .u64 0, .int .u64 0, .int .u64 0, .int .i64 0, .int .i64 0, .int .i64 0, .int .i64 0, .int .i64 0, .int .i64 0] 26)).setRow w3.heap.size Y = w4 at *
  have R4 : Hid (Blk w4 w3.heap.size Y 26) := r4
  have B4 : Hid (Below w3.heap.size w3 w4) := b4
  have z11 := (r4.cell 11).trans Y11.out
  have f11 := r4.frozen 11
  clear r4 b4
  have G4 : Hid (w3.heap.size < w4.heap.size) := R4.out.lt
  have G40 : Hid (w.heap.size < w3.heap.size) := by have h1 := G1.out; have h3 := G3.out; show _ < _; omega
  have R41 : Hid (Blk (w4.setCell ⟨w3.heap.size, 11, none⟩ (.int .i64 (bits .xor .i64 l 2))) w.heap.size X 26) := (R30.out.later B4.out).setOther (a := ⟨w3.heap.size, 11, none⟩) _ (show w.heap.size ≠ w3.heap.size by have := G40.out; omega)
  have R42 : Hid (Blk (w4.setCell ⟨w3.heap.size, 11, none⟩ (.int .i64 (bits .xor .i64 l 2))) w3.heap.size (Y.setIfInBounds 11 (.int .i64 (bits .xor .i64 l 2))) 26) := R4.out.set 11 _
  have R43 : Hid (Blk (w4.setCell ⟨w3.heap.size, 11, none⟩ (.int .i64 (bits .xor .i64 l 2))) g1 Y 26) := (R3.out.later B4.out).setOther (a := ⟨w3.heap.size, 11, none⟩) _ (show g1 ≠ w3.heap.size by have := G3.out; omega)
  have B5 : Hid (Below w.heap.size w (w4.setCell ⟨w3.heap.size, 11, none⟩ (.int .i64 (bits .xor .i64 l 2)))) := (B3.out.trans (B4.out.mono B3.out.size)).setCell (p := ⟨w3.heap.size, 11, none⟩) (by have := G40.out; show w.heap.size ≤ w3.heap.size; omega) _
  generalize w3.heap.size = g3 at *
  go_wp2_with (refine wpList_load_row rfl 26 _ rfl w.heap.size rfl 26 X (0, 0) _ R41.out Try.underlying26 rfl IX.out ?_; refine stopR ?_)
  unfold StopR
  clear z11 f11
  generalize w4.setCell ⟨g3, 11, none⟩ (.int .i64 (bits .xor .i64 l 2)) = w5 at *
  go_wp2_with (refine wpList_load_row rfl 26 _ rfl g3 rfl 26 (Y.setIfInBounds 11 (.int .i64 (bits .xor .i64 l 2))) (0, 0) _ R42.out Try.underlying26 rfl IZY.out ?_; refine stopR ?_)
  unfold StopR
  rw [HZ.out]
  go_wp2_with fail
  refine (K1.out _).mono ?_
  rintro e w6 ⟨rfl, hb6⟩
  have R61 : Hid (Blk w6 w.heap.size X 26) := R41.out.later hb6
  have R63 : Hid (Blk w6 g1 Y 26) := R43.out.later hb6
  have B6 : Hid (Below w.heap.size w w6) := B5.out.trans (hb6.mono B5.out.size)
  clear hb6
  go_wp2_with (first | (refine wpList_load_row rfl 26 _ rfl w.heap.size rfl 26 X (0, 0) _ R61.out Try.underlying26 rfl IX.out ?_) | (refine wpList_load_row rfl 26 _ rfl g1 rfl 26 Y (0, 0) _ R63.out Try.underlying26 rfl IY.out ?_))
  refine (K2.out _).mono ?_
  rintro e w7 ⟨rfl, hb7⟩
  go_wp2
  go_ret
  exact ⟨rfl, B6.out.trans (hb7.mono B6.out.size)⟩
set_option maxHeartbeats 4000000 in
theorem reps_c6 (X Y Z : Array Value) (b l x M n0 n1 : Int) (w : World) (hx : bits .and .i64 x 255 = M) (M0 : 0 ≤ M) (M1 : M ≤ 255) (hm : M % 9 = 6)
    (hsX : X.size = 16) (hoX : X.all (·.oneCell') = true) (hoY : Y.all (·.oneCell') = true) (hY : Y = (X.setIfInBounds 10 (.int .i64 (bits .xor .i64 b 1)))) (hZ : Z = Y.setIfInBounds 11 (.int .i64 (bits .xor .i64 l 2)))(xI : X[10]? = some (.int .i64 b)) (y11 : Y[11]? = some (.int .i64 l))
    (K1 : Hid (∀ w, Calls Try.prog 12 #[.agg X, .agg Z] w fun e w' => e = .returned (.int .i64 13) ∧ Below w.heap.size w w'))
    (K2 : Hid (∀ w, Calls Try.prog 12 #[.agg X, .agg Y] w fun e w' => e = .returned (.int .i64 13) ∧ Below w.heap.size w w')) :
    Calls Try.prog 4 #[.agg X, .int .i64 x, .agg #[.int .u64 n0, .int .u64 n1]] w fun e w' => e = .returned (.bool true) ∧ Below w.heap.size w w' := by
  have IX : Hid ((Try.prog.info? 26).map (·.size) = some X.size) := by show _ = _; rw [hsX]; exact info_tr
  have hsY : Y.size = 16 := by rw [hY]; simp [hsX]
  have hsZ : Z.size = 16 := by rw [hZ]; simp [hsY]
  have IY : Hid ((Try.prog.info? 26).map (·.size) = some Y.size) := by show _ = _; rw [hsY]; exact info_tr
  have IZ : Hid ((Try.prog.info? 26).map (·.size) = some Z.size) := by show _ = _; rw [hsZ]; exact info_tr
  have OX : Hid (X.all (·.oneCell') = true) := hoX
  have OY : Hid (Y.all (·.oneCell') = true) := hoY
  have SX : Hid (16 = X.size) := hsX.symm
  have SY : Hid (16 = Y.size) := hsY.symm
  have HY : Hid ((X.setIfInBounds 10 (.int .i64 (bits .xor .i64 b 1))) = Y) := hY.symm
  have HZ : Hid (Y.setIfInBounds 11 (.int .i64 (bits .xor .i64 l 2)) = Z) := hZ.symm
  have Y11 : Hid (Y[11]? = some (.int .i64 l)) := y11
  have IYX : Hid ((Try.prog.info? 26).map (·.size) = some ((X.setIfInBounds 10 (.int .i64 (bits .xor .i64 b 1)))).size) := by show _ = _; rw [HY.out]; exact IY.out
  have IZY : Hid ((Try.prog.info? 26).map (·.size) = some (Y.setIfInBounds 11 (.int .i64 (bits .xor .i64 l 2))).size) := by show _ = _; rw [HZ.out]; exact IZ.out
  have XI := (show Hid _ from xI)
  clear hsX hsY hsZ hoX hoY hY hZ y11 xI
  go_enter Try.func4, Try.ntmps4
  go_wp2_with fail
  refine (fit9_any _).mono ?_
  rintro e w1 ⟨rfl, hb1⟩
  have R0 : Hid (Blk w1 w.heap.size X 26) := ((Blk.new w X 26 rfl).alloc _).later hb1
  have B1 : Hid (Below w.heap.size w w1) := (below2 w _ _).trans (hb1.mono (by simp; omega))
  clear hb1
  go_wp2_with (first | (refine wpList_load_row rfl 26 _ rfl w.heap.size rfl 26 X (0, 0) _ R0.out Try.underlying26 rfl IX.out ?_) | (refine wpList_store_row rfl 26 _ _ rfl w1.heap.size X rfl rfl 26 _ (heap_alloc_new w1 _) IX.out SX.out OX.out ?_; refine stopR ?_))
  have r2 := (Blk.new w1 #[.int .u64 0, .int .u64 0, .int .u64 0, .int .u64 0, .int .u64 0, .int .u64 0, .int .u64 0, .int .u64 0, .int .u64 0, .int .u64 0, .int .i64 0, .int .i64 0, .int .i64 0, .int .i64 0, .int .i64 0, .int .i64 0] 26 rfl).setRow X
  have b2 := below_row (below1 w1 (.cells #[.int .u64 0, .int .u64 0, .int .u64 0, .int .u64 0, .int .u64 0, .int .u64 0, .int .u64 0, .int .u64 0, .int .u64 0, .int .u64 0, .int .i64 0, .int .i64 0, .int .i64 0, .int .i64 0, .int .i64 0, .int .i64 0] 26)) X (Nat.le_refl _)
  have r20 := (R0.out.alloc (.cells #[.int .u64 0, .int .u64 0, .int .u64 0, .int .u64 0, .int .u64 0, .int .u64 0, .int .u64 0, .int .u64 0, .int .u64 0, .int .u64 0, .int .i64 0, .int .i64 0, .int .i64 0, .int .i64 0, .int .i64 0, .int .i64 0] 26)).setRowOther X (show w.heap.size ≠ w1.heap.size by have := R0.out.lt; omega)
  unfold StopR
  generalize (w1.alloc (.cells #[.int .u64 0, .int .u64 0, .int .u64 0, .int .u64 0, .int .u64 0, .int .u64 0, .int .u64 0, .int .u64 0, .int .u64 0, .int .u64 0, .int .i64 0, .int .i64 0, .int .i64 0, .int .i64 0, .int .i64 0, .int .i64 0] 26)).setRow w1.heap.size X = w2 at *
  have B2 : Hid (Below w.heap.size w w2) := B1.out.trans (b2.mono B1.out.size)
  have R2 : Hid (Blk w2 w1.heap.size X 26) := r2
  have R20 : Hid (Blk w2 w.heap.size X 26) := r20
  have G1 : Hid (w.heap.size < w1.heap.size) := R0.out.lt
  have cI := (r2.cell 10).trans XI.out
  have fI := r2.frozen 10
  clear r2 b2 r20
  generalize w1.heap.size = g1 at *
  go_wp2_with (refine wpList_load_row rfl 26 _ rfl g1 rfl 26 (X.setIfInBounds 10 (.int .i64 (bits .xor .i64 b 1))) (0, 0) _ (R2.out.set 10 (.int .i64 (bits .xor .i64 b 1))) Try.underlying26 rfl IYX.out ?_; refine stopR ?_)
  unfold StopR
  have r3 := (R2.out.set 10 (.int .i64 (bits .xor .i64 b 1)))
  have r30 := (R20.out.setOther (a := ⟨g1, 10, none⟩) (.int .i64 (bits .xor .i64 b 1)) (show w.heap.size ≠ g1 by have := G1.out; omega))
  have b3 := (B2.out.setCell (p := ⟨g1, 10, none⟩) (show w.heap.size ≤ g1 by have := G1.out; omega) (.int .i64 (bits .xor .i64 b 1)))
  rw [HY.out] at r3 ⊢
  generalize w2.setCell ⟨g1, 10, none⟩ (.int .i64 (bits .xor .i64 b 1)) = w3 at *
  have R3 : Hid (Blk w3 g1 Y 26) := r3
  have R30 : Hid (Blk w3 w.heap.size X 26) := r30
  have B3 : Hid (Below w.heap.size w w3) := b3
  clear r3 r30 b3 cI fI
  have G3 : Hid (g1 < w3.heap.size) := R3.out.lt
  go_wp2_with (refine wpList_store_row rfl 26 _ _ rfl w3.heap.size Y rfl rfl 26 _ (heap_alloc_new w3 _) IY.out SY.out OY.out ?_; refine stopR ?_)
  have r4 := (Blk.new w3 #[.int .u64 0, .int .u64 0, .int .u64 0, .int .u64 0, .int .u64 0, .int .u64 0, .int .u64 0, .int .u64 0, .int .u64 0, .int .u64 0, .int .i64 0, .int .i64 0, .int .i64 0, .int .i64 0, .int .i64 0, .int .i64 0] 26 rfl).setRow Y
  have b4 := below_row (below1 w3 (.cells #[.int .u64 0, .int .u64 0, .int .u64 0, .int .u64 0, .int .u64 0, .int .u64 0, .int .u64 0, .int .u64 0, .int .u64 0, .int .u64 0, .int .i64 0, .int .i64 0, .int .i64 0, .int .i64 0, .int .i64 0, .int .i64 0] 26)) Y (Nat.le_refl _)
  unfold StopR
  generalize (w3.alloc (.cells #[.int .u64 0, .int .u64 0, .int .u64 0, .int .u64 0, .int .u64 0, .int .u64 0, .int .u64 0, .int .u64 0, .int .u64 0, .int .u64 0, .int .i64 0, .int .i64 0, .int .i64 0, .int .i64 0, .int .i64 0, .int .i64 0] 26)).setRow w3.heap.size Y = w4 at *
  have R4 : Hid (Blk w4 w3.heap.size Y 26) := r4
  have B4 : Hid (Below w3.heap.size w3 w4) := b4
  have z11 := (r4.cell 11).trans Y11.out
  have f11 := r4.frozen 11
  clear r4 b4
  have G4 : Hid (w3.heap.size < w4.heap.size) := R4.out.lt
  have G40 : Hid (w.heap.size < w3.heap.size) := by have h1 := G1.out; have h3 := G3.out; show _ < _; omega
  have R41 : Hid (Blk (w4.setCell ⟨w3.heap.size, 11, none⟩ (.int .i64 (bits .xor .i64 l 2))) w.heap.size X 26) := (R30.out.later B4.out).setOther (a := ⟨w3.heap.size, 11, none⟩) _ (show w.heap.size ≠ w3.heap.size by have := G40.out; omega)
  have R42 : Hid (Blk (w4.setCell ⟨w3.heap.size, 11, none⟩ (.int .i64 (bits .xor .i64 l 2))) w3.heap.size (Y.setIfInBounds 11 (.int .i64 (bits .xor .i64 l 2))) 26) := R4.out.set 11 _
  have R43 : Hid (Blk (w4.setCell ⟨w3.heap.size, 11, none⟩ (.int .i64 (bits .xor .i64 l 2))) g1 Y 26) := (R3.out.later B4.out).setOther (a := ⟨w3.heap.size, 11, none⟩) _ (show g1 ≠ w3.heap.size by have := G3.out; omega)
  have B5 : Hid (Below w.heap.size w (w4.setCell ⟨w3.heap.size, 11, none⟩ (.int .i64 (bits .xor .i64 l 2)))) := (B3.out.trans (B4.out.mono B3.out.size)).setCell (p := ⟨w3.heap.size, 11, none⟩) (by have := G40.out; show w.heap.size ≤ w3.heap.size; omega) _
  generalize w3.heap.size = g3 at *
  go_wp2_with (refine wpList_load_row rfl 26 _ rfl w.heap.size rfl 26 X (0, 0) _ R41.out Try.underlying26 rfl IX.out ?_; refine stopR ?_)
  unfold StopR
  clear z11 f11
  generalize w4.setCell ⟨g3, 11, none⟩ (.int .i64 (bits .xor .i64 l 2)) = w5 at *
  go_wp2_with (refine wpList_load_row rfl 26 _ rfl g3 rfl 26 (Y.setIfInBounds 11 (.int .i64 (bits .xor .i64 l 2))) (0, 0) _ R42.out Try.underlying26 rfl IZY.out ?_; refine stopR ?_)
  unfold StopR
  rw [HZ.out]
  go_wp2_with fail
  refine (K1.out _).mono ?_
  rintro e w6 ⟨rfl, hb6⟩
  have R61 : Hid (Blk w6 w.heap.size X 26) := R41.out.later hb6
  have R63 : Hid (Blk w6 g1 Y 26) := R43.out.later hb6
  have B6 : Hid (Below w.heap.size w w6) := B5.out.trans (hb6.mono B5.out.size)
  clear hb6
  go_wp2_with (first | (refine wpList_load_row rfl 26 _ rfl w.heap.size rfl 26 X (0, 0) _ R61.out Try.underlying26 rfl IX.out ?_) | (refine wpList_load_row rfl 26 _ rfl g1 rfl 26 Y (0, 0) _ R63.out Try.underlying26 rfl IY.out ?_))
  refine (K2.out _).mono ?_
  rintro e w7 ⟨rfl, hb7⟩
  go_wp2
  go_ret
  exact ⟨rfl, B6.out.trans (hb7.mono B6.out.size)⟩
set_option maxHeartbeats 4000000 in
theorem reps_c7 (X Y Z : Array Value) (b x M n0 n1 : Int) (w : World) (hx : bits .and .i64 x 255 = M) (M0 : 0 ≤ M) (M1 : M ≤ 255) (hm : M % 9 = 7)
    (hsX : X.size = 16) (hoX : X.all (·.oneCell') = true) (hoY : Y.all (·.oneCell') = true) (hY : Y = (X.setIfInBounds 11 (.int .i64 (bits .xor .i64 b 1)))) (hZ : Z = Y.setIfInBounds 11 (.int .i64 (bits .xor .i64 (bits .xor .i64 b 1) 2)))(xI : X[11]? = some (.int .i64 b)) (y11 : Y[11]? = some (.int .i64 (bits .xor .i64 b 1)))
    (K1 : Hid (∀ w, Calls Try.prog 12 #[.agg X, .agg Z] w fun e w' => e = .returned (.int .i64 7) ∧ Below w.heap.size w w'))
    (K2 : Hid (∀ w, Calls Try.prog 12 #[.agg X, .agg Y] w fun e w' => e = .returned (.int .i64 7) ∧ Below w.heap.size w w')) :
    Calls Try.prog 4 #[.agg X, .int .i64 x, .agg #[.int .u64 n0, .int .u64 n1]] w fun e w' => e = .returned (.bool true) ∧ Below w.heap.size w w' := by
  have IX : Hid ((Try.prog.info? 26).map (·.size) = some X.size) := by show _ = _; rw [hsX]; exact info_tr
  have hsY : Y.size = 16 := by rw [hY]; simp [hsX]
  have hsZ : Z.size = 16 := by rw [hZ]; simp [hsY]
  have IY : Hid ((Try.prog.info? 26).map (·.size) = some Y.size) := by show _ = _; rw [hsY]; exact info_tr
  have IZ : Hid ((Try.prog.info? 26).map (·.size) = some Z.size) := by show _ = _; rw [hsZ]; exact info_tr
  have OX : Hid (X.all (·.oneCell') = true) := hoX
  have OY : Hid (Y.all (·.oneCell') = true) := hoY
  have SX : Hid (16 = X.size) := hsX.symm
  have SY : Hid (16 = Y.size) := hsY.symm
  have HY : Hid ((X.setIfInBounds 11 (.int .i64 (bits .xor .i64 b 1))) = Y) := hY.symm
  have HZ : Hid (Y.setIfInBounds 11 (.int .i64 (bits .xor .i64 (bits .xor .i64 b 1) 2)) = Z) := hZ.symm
  have Y11 : Hid (Y[11]? = some (.int .i64 (bits .xor .i64 b 1))) := y11
  have IYX : Hid ((Try.prog.info? 26).map (·.size) = some ((X.setIfInBounds 11 (.int .i64 (bits .xor .i64 b 1)))).size) := by show _ = _; rw [HY.out]; exact IY.out
  have IZY : Hid ((Try.prog.info? 26).map (·.size) = some (Y.setIfInBounds 11 (.int .i64 (bits .xor .i64 (bits .xor .i64 b 1) 2))).size) := by show _ = _; rw [HZ.out]; exact IZ.out
  have XI := (show Hid _ from xI)
  clear hsX hsY hsZ hoX hoY hY hZ y11 xI
  go_enter Try.func4, Try.ntmps4
  go_wp2_with fail
  refine (fit9_any _).mono ?_
  rintro e w1 ⟨rfl, hb1⟩
  have R0 : Hid (Blk w1 w.heap.size X 26) := ((Blk.new w X 26 rfl).alloc _).later hb1
  have B1 : Hid (Below w.heap.size w w1) := (below2 w _ _).trans (hb1.mono (by simp; omega))
  clear hb1
  go_wp2_with (first | (refine wpList_load_row rfl 26 _ rfl w.heap.size rfl 26 X (0, 0) _ R0.out Try.underlying26 rfl IX.out ?_) | (refine wpList_store_row rfl 26 _ _ rfl w1.heap.size X rfl rfl 26 _ (heap_alloc_new w1 _) IX.out SX.out OX.out ?_; refine stopR ?_))
  have r2 := (Blk.new w1 #[.int .u64 0, .int .u64 0, .int .u64 0, .int .u64 0, .int .u64 0, .int .u64 0, .int .u64 0, .int .u64 0, .int .u64 0, .int .u64 0, .int .i64 0, .int .i64 0, .int .i64 0, .int .i64 0, .int .i64 0, .int .i64 0] 26 rfl).setRow X
  have b2 := below_row (below1 w1 (.cells #[.int .u64 0, .int .u64 0, .int .u64 0, .int .u64 0, .int .u64 0, .int .u64 0, .int .u64 0, .int .u64 0, .int .u64 0, .int .u64 0, .int .i64 0, .int .i64 0, .int .i64 0, .int .i64 0, .int .i64 0, .int .i64 0] 26)) X (Nat.le_refl _)
  have r20 := (R0.out.alloc (.cells #[.int .u64 0, .int .u64 0, .int .u64 0, .int .u64 0, .int .u64 0, .int .u64 0, .int .u64 0, .int .u64 0, .int .u64 0, .int .u64 0, .int .i64 0, .int .i64 0, .int .i64 0, .int .i64 0, .int .i64 0, .int .i64 0] 26)).setRowOther X (show w.heap.size ≠ w1.heap.size by have := R0.out.lt; omega)
  unfold StopR
  generalize (w1.alloc (.cells #[.int .u64 0, .int .u64 0, .int .u64 0, .int .u64 0, .int .u64 0, .int .u64 0, .int .u64 0, .int .u64 0, .int .u64 0, .int .u64 0, .int .i64 0, .int .i64 0, .int .i64 0, .int .i64 0, .int .i64 0, .int .i64 0] 26)).setRow w1.heap.size X = w2 at *
  have B2 : Hid (Below w.heap.size w w2) := B1.out.trans (b2.mono B1.out.size)
  have R2 : Hid (Blk w2 w1.heap.size X 26) := r2
  have R20 : Hid (Blk w2 w.heap.size X 26) := r20
  have G1 : Hid (w.heap.size < w1.heap.size) := R0.out.lt
  have cI := (r2.cell 11).trans XI.out
  have fI := r2.frozen 11
  clear r2 b2 r20
  generalize w1.heap.size = g1 at *
  go_wp2_with (refine wpList_load_row rfl 26 _ rfl g1 rfl 26 (X.setIfInBounds 11 (.int .i64 (bits .xor .i64 b 1))) (0, 0) _ (R2.out.set 11 (.int .i64 (bits .xor .i64 b 1))) Try.underlying26 rfl IYX.out ?_; refine stopR ?_)
  unfold StopR
  have r3 := (R2.out.set 11 (.int .i64 (bits .xor .i64 b 1)))
  have r30 := (R20.out.setOther (a := ⟨g1, 11, none⟩) (.int .i64 (bits .xor .i64 b 1)) (show w.heap.size ≠ g1 by have := G1.out; omega))
  have b3 := (B2.out.setCell (p := ⟨g1, 11, none⟩) (show w.heap.size ≤ g1 by have := G1.out; omega) (.int .i64 (bits .xor .i64 b 1)))
  rw [HY.out] at r3 ⊢
  generalize w2.setCell ⟨g1, 11, none⟩ (.int .i64 (bits .xor .i64 b 1)) = w3 at *
  have R3 : Hid (Blk w3 g1 Y 26) := r3
  have R30 : Hid (Blk w3 w.heap.size X 26) := r30
  have B3 : Hid (Below w.heap.size w w3) := b3
  clear r3 r30 b3 cI fI
  have G3 : Hid (g1 < w3.heap.size) := R3.out.lt
  go_wp2_with (refine wpList_store_row rfl 26 _ _ rfl w3.heap.size Y rfl rfl 26 _ (heap_alloc_new w3 _) IY.out SY.out OY.out ?_; refine stopR ?_)
  have r4 := (Blk.new w3 #[.int .u64 0, .int .u64 0, .int .u64 0, .int .u64 0, .int .u64 0, .int .u64 0, .int .u64 0, .int .u64 0, .int .u64 0, .int .u64 0, .int .i64 0, .int .i64 0, .int .i64 0, .int .i64 0, .int .i64 0, .int .i64 0] 26 rfl).setRow Y
  have b4 := below_row (below1 w3 (.cells #[.int .u64 0, .int .u64 0, .int .u64 0, .int .u64 0, .int .u64 0, .int .u64 0, .int .u64 0, .int .u64 0, .int .u64 0, .int .u64 0, .int .i64 0, .int .i64 0, .int .i64 0, .int .i64 0, .int .i64 0, .int .i64 0] 26)) Y (Nat.le_refl _)
  unfold StopR
  generalize (w3.alloc (.cells #[.int .u64 0, .int .u64 0, .int .u64 0, .int .u64 0, .int .u64 0, .int .u64 0, .int .u64 0, .int .u64 0, .int .u64 0, .int .u64 0, .int .i64 0, .int .i64 0, .int .i64 0, .int .i64 0, .int .i64 0, .int .i64 0] 26)).setRow w3.heap.size Y = w4 at *
  have R4 : Hid (Blk w4 w3.heap.size Y 26) := r4
  have B4 : Hid (Below w3.heap.size w3 w4) := b4
  have z11 := (r4.cell 11).trans Y11.out
  have f11 := r4.frozen 11
  clear r4 b4
  have G4 : Hid (w3.heap.size < w4.heap.size) := R4.out.lt
  have G40 : Hid (w.heap.size < w3.heap.size) := by have h1 := G1.out; have h3 := G3.out; show _ < _; omega
  have R41 : Hid (Blk (w4.setCell ⟨w3.heap.size, 11, none⟩ (.int .i64 (bits .xor .i64 (bits .xor .i64 b 1) 2))) w.heap.size X 26) := (R30.out.later B4.out).setOther (a := ⟨w3.heap.size, 11, none⟩) _ (show w.heap.size ≠ w3.heap.size by have := G40.out; omega)
  have R42 : Hid (Blk (w4.setCell ⟨w3.heap.size, 11, none⟩ (.int .i64 (bits .xor .i64 (bits .xor .i64 b 1) 2))) w3.heap.size (Y.setIfInBounds 11 (.int .i64 (bits .xor .i64 (bits .xor .i64 b 1) 2))) 26) := R4.out.set 11 _
  have R43 : Hid (Blk (w4.setCell ⟨w3.heap.size, 11, none⟩ (.int .i64 (bits .xor .i64 (bits .xor .i64 b 1) 2))) g1 Y 26) := (R3.out.later B4.out).setOther (a := ⟨w3.heap.size, 11, none⟩) _ (show g1 ≠ w3.heap.size by have := G3.out; omega)
  have B5 : Hid (Below w.heap.size w (w4.setCell ⟨w3.heap.size, 11, none⟩ (.int .i64 (bits .xor .i64 (bits .xor .i64 b 1) 2)))) := (B3.out.trans (B4.out.mono B3.out.size)).setCell (p := ⟨w3.heap.size, 11, none⟩) (by have := G40.out; show w.heap.size ≤ w3.heap.size; omega) _
  generalize w3.heap.size = g3 at *
  go_wp2_with (refine wpList_load_row rfl 26 _ rfl w.heap.size rfl 26 X (0, 0) _ R41.out Try.underlying26 rfl IX.out ?_; refine stopR ?_)
  unfold StopR
  clear z11 f11
  generalize w4.setCell ⟨g3, 11, none⟩ (.int .i64 (bits .xor .i64 (bits .xor .i64 b 1) 2)) = w5 at *
  go_wp2_with (refine wpList_load_row rfl 26 _ rfl g3 rfl 26 (Y.setIfInBounds 11 (.int .i64 (bits .xor .i64 (bits .xor .i64 b 1) 2))) (0, 0) _ R42.out Try.underlying26 rfl IZY.out ?_; refine stopR ?_)
  unfold StopR
  rw [HZ.out]
  go_wp2_with fail
  refine (K1.out _).mono ?_
  rintro e w6 ⟨rfl, hb6⟩
  have R61 : Hid (Blk w6 w.heap.size X 26) := R41.out.later hb6
  have R63 : Hid (Blk w6 g1 Y 26) := R43.out.later hb6
  have B6 : Hid (Below w.heap.size w w6) := B5.out.trans (hb6.mono B5.out.size)
  clear hb6
  go_wp2_with (first | (refine wpList_load_row rfl 26 _ rfl w.heap.size rfl 26 X (0, 0) _ R61.out Try.underlying26 rfl IX.out ?_) | (refine wpList_load_row rfl 26 _ rfl g1 rfl 26 Y (0, 0) _ R63.out Try.underlying26 rfl IY.out ?_))
  refine (K2.out _).mono ?_
  rintro e w7 ⟨rfl, hb7⟩
  go_wp2
  go_ret
  exact ⟨rfl, B6.out.trans (hb7.mono B6.out.size)⟩
set_option maxHeartbeats 4000000 in
theorem reps_c8 (X Y Z : Array Value) (b c d l x M n0 n1 : Int) (w : World) (hx : bits .and .i64 x 255 = M) (M0 : 0 ≤ M) (M1 : M ≤ 255) (hm : M % 9 = 8)
    (hsX : X.size = 16) (hoX : X.all (·.oneCell') = true) (hoY : Y.all (·.oneCell') = true) (hY : Y = (((X.setIfInBounds 13 (.int .i64 7)).setIfInBounds 14 (.int .i64 8)).setIfInBounds 15 (.int .i64 2))) (hZ : Z = Y.setIfInBounds 11 (.int .i64 (bits .xor .i64 l 2)))(x13 : X[13]? = some (.int .i64 b)) (x14 : X[14]? = some (.int .i64 c)) (x15 : X[15]? = some (.int .i64 d)) (y11 : Y[11]? = some (.int .i64 l))
    (K1 : Hid (∀ w, Calls Try.prog 12 #[.agg X, .agg Z] w fun e w' => e = .returned (.int .i64 7) ∧ Below w.heap.size w w'))
    (K2 : Hid (∀ w, Calls Try.prog 12 #[.agg X, .agg Y] w fun e w' => e = .returned (.int .i64 14) ∧ Below w.heap.size w w')) :
    Calls Try.prog 4 #[.agg X, .int .i64 x, .agg #[.int .u64 n0, .int .u64 n1]] w fun e w' => e = .returned (.bool true) ∧ Below w.heap.size w w' := by
  have IX : Hid ((Try.prog.info? 26).map (·.size) = some X.size) := by show _ = _; rw [hsX]; exact info_tr
  have hsY : Y.size = 16 := by rw [hY]; simp [hsX]
  have hsZ : Z.size = 16 := by rw [hZ]; simp [hsY]
  have IY : Hid ((Try.prog.info? 26).map (·.size) = some Y.size) := by show _ = _; rw [hsY]; exact info_tr
  have IZ : Hid ((Try.prog.info? 26).map (·.size) = some Z.size) := by show _ = _; rw [hsZ]; exact info_tr
  have OX : Hid (X.all (·.oneCell') = true) := hoX
  have OY : Hid (Y.all (·.oneCell') = true) := hoY
  have SX : Hid (16 = X.size) := hsX.symm
  have SY : Hid (16 = Y.size) := hsY.symm
  have HY : Hid ((((X.setIfInBounds 13 (.int .i64 7)).setIfInBounds 14 (.int .i64 8)).setIfInBounds 15 (.int .i64 2)) = Y) := hY.symm
  have HZ : Hid (Y.setIfInBounds 11 (.int .i64 (bits .xor .i64 l 2)) = Z) := hZ.symm
  have Y11 : Hid (Y[11]? = some (.int .i64 l)) := y11
  have IYX : Hid ((Try.prog.info? 26).map (·.size) = some ((((X.setIfInBounds 13 (.int .i64 7)).setIfInBounds 14 (.int .i64 8)).setIfInBounds 15 (.int .i64 2))).size) := by show _ = _; rw [HY.out]; exact IY.out
  have IZY : Hid ((Try.prog.info? 26).map (·.size) = some (Y.setIfInBounds 11 (.int .i64 (bits .xor .i64 l 2))).size) := by show _ = _; rw [HZ.out]; exact IZ.out
  have X13 : Hid (X[13]? = some (.int .i64 b)) := x13
  have X14 : Hid (X[14]? = some (.int .i64 c)) := x14
  have X15 : Hid (X[15]? = some (.int .i64 d)) := x15
  clear hsX hsY hsZ hoX hoY hY hZ y11 x13 x14 x15
  go_enter Try.func4, Try.ntmps4
  go_wp2_with fail
  refine (fit9_any _).mono ?_
  rintro e w1 ⟨rfl, hb1⟩
  have R0 : Hid (Blk w1 w.heap.size X 26) := ((Blk.new w X 26 rfl).alloc _).later hb1
  have B1 : Hid (Below w.heap.size w w1) := (below2 w _ _).trans (hb1.mono (by simp; omega))
  clear hb1
  go_wp2_with (first | (refine wpList_load_row rfl 26 _ rfl w.heap.size rfl 26 X (0, 0) _ R0.out Try.underlying26 rfl IX.out ?_) | (refine wpList_store_row rfl 26 _ _ rfl w1.heap.size X rfl rfl 26 _ (heap_alloc_new w1 _) IX.out SX.out OX.out ?_; refine stopR ?_))
  have r2 := (Blk.new w1 #[.int .u64 0, .int .u64 0, .int .u64 0, .int .u64 0, .int .u64 0, .int .u64 0, .int .u64 0, .int .u64 0, .int .u64 0, .int .u64 0, .int .i64 0, .int .i64 0, .int .i64 0, .int .i64 0, .int .i64 0, .int .i64 0] 26 rfl).setRow X
  have b2 := below_row (below1 w1 (.cells #[.int .u64 0, .int .u64 0, .int .u64 0, .int .u64 0, .int .u64 0, .int .u64 0, .int .u64 0, .int .u64 0, .int .u64 0, .int .u64 0, .int .i64 0, .int .i64 0, .int .i64 0, .int .i64 0, .int .i64 0, .int .i64 0] 26)) X (Nat.le_refl _)
  have r20 := (R0.out.alloc (.cells #[.int .u64 0, .int .u64 0, .int .u64 0, .int .u64 0, .int .u64 0, .int .u64 0, .int .u64 0, .int .u64 0, .int .u64 0, .int .u64 0, .int .i64 0, .int .i64 0, .int .i64 0, .int .i64 0, .int .i64 0, .int .i64 0] 26)).setRowOther X (show w.heap.size ≠ w1.heap.size by have := R0.out.lt; omega)
  unfold StopR
  generalize (w1.alloc (.cells #[.int .u64 0, .int .u64 0, .int .u64 0, .int .u64 0, .int .u64 0, .int .u64 0, .int .u64 0, .int .u64 0, .int .u64 0, .int .u64 0, .int .i64 0, .int .i64 0, .int .i64 0, .int .i64 0, .int .i64 0, .int .i64 0] 26)).setRow w1.heap.size X = w2 at *
  have B2 : Hid (Below w.heap.size w w2) := B1.out.trans (b2.mono B1.out.size)
  have R2 : Hid (Blk w2 w1.heap.size X 26) := r2
  have R20 : Hid (Blk w2 w.heap.size X 26) := r20
  have G1 : Hid (w.heap.size < w1.heap.size) := R0.out.lt
  have c13 := (r2.cell 13).trans X13.out
  have f13 := r2.frozen 13
  have c14 := (r2.cell 14).trans X14.out
  have f14 := r2.frozen 14
  have c15 := (r2.cell 15).trans X15.out
  have f15 := r2.frozen 15
  clear r2 b2 r20
  generalize w1.heap.size = g1 at *
  go_wp2_with (refine wpList_load_row rfl 26 _ rfl g1 rfl 26 (((X.setIfInBounds 13 (.int .i64 7)).setIfInBounds 14 (.int .i64 8)).setIfInBounds 15 (.int .i64 2)) (0, 0) _ (((R2.out.set 13 (.int .i64 7)).set 14 (.int .i64 8)).set 15 (.int .i64 2)) Try.underlying26 rfl IYX.out ?_; refine stopR ?_)
  unfold StopR
  have r3 := (((R2.out.set 13 (.int .i64 7)).set 14 (.int .i64 8)).set 15 (.int .i64 2))
  have r30 := (((R20.out.setOther (a := ⟨g1, 13, none⟩) (.int .i64 7) (show w.heap.size ≠ g1 by have := G1.out; omega)).setOther (a := ⟨g1, 14, none⟩) (.int .i64 8) (show w.heap.size ≠ g1 by have := G1.out; omega)).setOther (a := ⟨g1, 15, none⟩) (.int .i64 2) (show w.heap.size ≠ g1 by have := G1.out; omega))
  have b3 := (((B2.out.setCell (p := ⟨g1, 13, none⟩) (show w.heap.size ≤ g1 by have := G1.out; omega) (.int .i64 7)).setCell (p := ⟨g1, 14, none⟩) (show w.heap.size ≤ g1 by have := G1.out; omega) (.int .i64 8)).setCell (p := ⟨g1, 15, none⟩) (show w.heap.size ≤ g1 by have := G1.out; omega) (.int .i64 2))
  rw [HY.out] at r3 ⊢
  generalize ((w2.setCell ⟨g1, 13, none⟩ (.int .i64 7)).setCell ⟨g1, 14, none⟩ (.int .i64 8)).setCell ⟨g1, 15, none⟩ (.int .i64 2) = w3 at *
  have R3 : Hid (Blk w3 g1 Y 26) := r3
  have R30 : Hid (Blk w3 w.heap.size X 26) := r30
  have B3 : Hid (Below w.heap.size w w3) := b3
  clear r3 r30 b3 c13 f13 c14 f14 c15 f15
  have G3 : Hid (g1 < w3.heap.size) := R3.out.lt
  go_wp2_with (refine wpList_store_row rfl 26 _ _ rfl w3.heap.size Y rfl rfl 26 _ (heap_alloc_new w3 _) IY.out SY.out OY.out ?_; refine stopR ?_)
  have r4 := (Blk.new w3 #[.int .u64 0, .int .u64 0, .int .u64 0, .int .u64 0, .int .u64 0, .int .u64 0, .int .u64 0, .int .u64 0, .int .u64 0, .int .u64 0, .int .i64 0, .int .i64 0, .int .i64 0, .int .i64 0, .int .i64 0, .int .i64 0] 26 rfl).setRow Y
  have b4 := below_row (below1 w3 (.cells #[.int .u64 0, .int .u64 0, .int .u64 0, .int .u64 0, .int .u64 0, .int .u64 0, .int .u64 0, .int .u64 0, .int .u64 0, .int .u64 0, .int .i64 0, .int .i64 0, .int .i64 0, .int .i64 0, .int .i64 0, .int .i64 0] 26)) Y (Nat.le_refl _)
  unfold StopR
  generalize (w3.alloc (.cells #[.int .u64 0, .int .u64 0, .int .u64 0, .int .u64 0, .int .u64 0, .int .u64 0, .int .u64 0, .int .u64 0, .int .u64 0, .int .u64 0, .int .i64 0, .int .i64 0, .int .i64 0, .int .i64 0, .int .i64 0, .int .i64 0] 26)).setRow w3.heap.size Y = w4 at *
  have R4 : Hid (Blk w4 w3.heap.size Y 26) := r4
  have B4 : Hid (Below w3.heap.size w3 w4) := b4
  have z11 := (r4.cell 11).trans Y11.out
  have f11 := r4.frozen 11
  clear r4 b4
  have G4 : Hid (w3.heap.size < w4.heap.size) := R4.out.lt
  have G40 : Hid (w.heap.size < w3.heap.size) := by have h1 := G1.out; have h3 := G3.out; show _ < _; omega
  have R41 : Hid (Blk (w4.setCell ⟨w3.heap.size, 11, none⟩ (.int .i64 (bits .xor .i64 l 2))) w.heap.size X 26) := (R30.out.later B4.out).setOther (a := ⟨w3.heap.size, 11, none⟩) _ (show w.heap.size ≠ w3.heap.size by have := G40.out; omega)
  have R42 : Hid (Blk (w4.setCell ⟨w3.heap.size, 11, none⟩ (.int .i64 (bits .xor .i64 l 2))) w3.heap.size (Y.setIfInBounds 11 (.int .i64 (bits .xor .i64 l 2))) 26) := R4.out.set 11 _
  have R43 : Hid (Blk (w4.setCell ⟨w3.heap.size, 11, none⟩ (.int .i64 (bits .xor .i64 l 2))) g1 Y 26) := (R3.out.later B4.out).setOther (a := ⟨w3.heap.size, 11, none⟩) _ (show g1 ≠ w3.heap.size by have := G3.out; omega)
  have B5 : Hid (Below w.heap.size w (w4.setCell ⟨w3.heap.size, 11, none⟩ (.int .i64 (bits .xor .i64 l 2)))) := (B3.out.trans (B4.out.mono B3.out.size)).setCell (p := ⟨w3.heap.size, 11, none⟩) (by have := G40.out; show w.heap.size ≤ w3.heap.size; omega) _
  generalize w3.heap.size = g3 at *
  go_wp2_with (refine wpList_load_row rfl 26 _ rfl w.heap.size rfl 26 X (0, 0) _ R41.out Try.underlying26 rfl IX.out ?_; refine stopR ?_)
  unfold StopR
  clear z11 f11
  generalize w4.setCell ⟨g3, 11, none⟩ (.int .i64 (bits .xor .i64 l 2)) = w5 at *
  go_wp2_with (refine wpList_load_row rfl 26 _ rfl g3 rfl 26 (Y.setIfInBounds 11 (.int .i64 (bits .xor .i64 l 2))) (0, 0) _ R42.out Try.underlying26 rfl IZY.out ?_; refine stopR ?_)
  unfold StopR
  rw [HZ.out]
  go_wp2_with fail
  refine (K1.out _).mono ?_
  rintro e w6 ⟨rfl, hb6⟩
  have R61 : Hid (Blk w6 w.heap.size X 26) := R41.out.later hb6
  have R63 : Hid (Blk w6 g1 Y 26) := R43.out.later hb6
  have B6 : Hid (Below w.heap.size w w6) := B5.out.trans (hb6.mono B5.out.size)
  clear hb6
  go_wp2_with (first | (refine wpList_load_row rfl 26 _ rfl w.heap.size rfl 26 X (0, 0) _ R61.out Try.underlying26 rfl IX.out ?_) | (refine wpList_load_row rfl 26 _ rfl g1 rfl 26 Y (0, 0) _ R63.out Try.underlying26 rfl IY.out ?_))
  refine (K2.out _).mono ?_
  rintro e w7 ⟨rfl, hb7⟩
  go_wp2
  go_ret
  exact ⟨rfl, B6.out.trans (hb7.mono B6.out.size)⟩
end Go.Proofs.Ytkigdfpgdkgcaaa
