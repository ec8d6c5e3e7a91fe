
/-
  The walk of paciolilaw09.RuleTransfers: it returns true, for every transfer, and turns nothing that was there. The ways, part 1. (Made by tools/rudgen.py.)
-/
import Derived.Test.YtkigdfpgdkgcaaaRuD
namespace Go.Proofs.Ytkigdfpgdkgcaaa
open Go.RowKit
set_option maxRecDepth 100000
set_option linter.unusedVariables false
set_option linter.unusedSimpArgs false
set_option maxHeartbeats 4000000 in
theorem tr_z (a0 a1 a2 a3 a4 a5 a6 a7 a8 a9 a10 a11 a12 a13 a14 a15 P kk : Int) (w : World) (KT : Hid (∀ w, Calls Try.prog 11 #[.agg #[.int .u64 a0, .int .u64 a1, .int .u64 a2, .int .u64 a3, .int .u64 a4, .int .u64 a5, .int .u64 a6, .int .u64 a7, .int .u64 a8, .int .u64 a9, .int .i64 a10, .int .i64 a11, .int .i64 a12, .int .i64 a13, .int .i64 a14, .int .i64 a15]] w fun e w' => e = .returned (.int .i64 3) ∧ Below w.heap.size w w'))
    (KB : Hid (∀ w, Calls Try.prog 10 #[.int .i64 kk] w fun e w' => e = .returned (.int .i64 P) ∧ w' = w))(ea00eql : ∀ w, (binOp .eql 24 (.agg #[.int .u64 a0, .int .u64 a1]) (.agg #[.int .u64 0, .int .u64 0])).run Try.prog w = .ok (.bool true) w) :
    Calls Try.prog 3 #[.agg #[.int .u64 a0, .int .u64 a1, .int .u64 a2, .int .u64 a3, .int .u64 a4, .int .u64 a5, .int .u64 a6, .int .u64 a7, .int .u64 a8, .int .u64 a9, .int .i64 a10, .int .i64 a11, .int .i64 a12, .int .i64 a13, .int .i64 a14, .int .i64 a15]] w fun e w' => e = .returned (.bool true) ∧ Below w.heap.size w w' := by
  go_enter Try.func3, Try.ntmps3
  go_wp2_with fail
  refine (fit9_any _).mono ?_
  rintro e w1 ⟨rfl, hb1⟩
  have hc : ∀ i, w1.cell? ⟨w.heap.size, i, none⟩ = _ := fun i => hb1.cell (p := ⟨w.heap.size, i, none⟩) (by simp)
  simp only [World.cell?_alloc_new] at hc
  have c0 := hc 0
  have c1 := hc 1
  have c2 := hc 2
  have c3 := hc 3
  have c4 := hc 4
  have c5 := hc 5
  have c6 := hc 6
  have c7 := hc 7
  have c8 := hc 8
  have c9 := hc 9
  have c10 := hc 10
  have c11 := hc 11
  have c12 := hc 12
  have c13 := hc 13
  have c14 := hc 14
  have c15 := hc 15
  simp at c0 c1 c2 c3 c4 c5 c6 c7 c8 c9 c10 c11 c12 c13 c14 c15
  clear hc
  go_wp2_with (go_at_call 10; refine (KB.out _).mono ?_; rintro e w' ⟨rfl, rfl⟩)
  refine (KT.out _).mono ?_
  rintro e w2 ⟨rfl, hb2⟩
  go_wp2
  go_ret
  exact ⟨rfl, (below1 w _).trans ((chain hb1 hb2).mono (by simp))⟩
set_option maxHeartbeats 4000000 in
theorem tr_lo (a0 a1 a2 a3 a4 a5 a6 a7 a8 a9 a10 a11 a12 a13 a14 a15 P kk : Int) (w : World) (KT : Hid (∀ w, Calls Try.prog 11 #[.agg #[.int .u64 a0, .int .u64 a1, .int .u64 a2, .int .u64 a3, .int .u64 a4, .int .u64 a5, .int .u64 a6, .int .u64 a7, .int .u64 a8, .int .u64 a9, .int .i64 a10, .int .i64 a11, .int .i64 a12, .int .i64 a13, .int .i64 a14, .int .i64 a15]] w fun e w' => e = .returned (.int .i64 4) ∧ Below w.heap.size w w'))
    (KB : Hid (∀ w, Calls Try.prog 10 #[.int .i64 kk] w fun e w' => e = .returned (.int .i64 P) ∧ w' = w))(ea00eql : ∀ w, (binOp .eql 24 (.agg #[.int .u64 a0, .int .u64 a1]) (.agg #[.int .u64 0, .int .u64 0])).run Try.prog w = .ok (.bool false) w) (g0 : decide (a12 < 0) = true) :
    Calls Try.prog 3 #[.agg #[.int .u64 a0, .int .u64 a1, .int .u64 a2, .int .u64 a3, .int .u64 a4, .int .u64 a5, .int .u64 a6, .int .u64 a7, .int .u64 a8, .int .u64 a9, .int .i64 a10, .int .i64 a11, .int .i64 a12, .int .i64 a13, .int .i64 a14, .int .i64 a15]] w fun e w' => e = .returned (.bool true) ∧ Below w.heap.size w w' := by
  go_enter Try.func3, Try.ntmps3
  go_wp2_with fail
  refine (fit9_any _).mono ?_
  rintro e w1 ⟨rfl, hb1⟩
  have hc : ∀ i, w1.cell? ⟨w.heap.size, i, none⟩ = _ := fun i => hb1.cell (p := ⟨w.heap.size, i, none⟩) (by simp)
  simp only [World.cell?_alloc_new] at hc
  have c0 := hc 0
  have c1 := hc 1
  have c2 := hc 2
  have c3 := hc 3
  have c4 := hc 4
  have c5 := hc 5
  have c6 := hc 6
  have c7 := hc 7
  have c8 := hc 8
  have c9 := hc 9
  have c10 := hc 10
  have c11 := hc 11
  have c12 := hc 12
  have c13 := hc 13
  have c14 := hc 14
  have c15 := hc 15
  simp at c0 c1 c2 c3 c4 c5 c6 c7 c8 c9 c10 c11 c12 c13 c14 c15
  clear hc
  go_wp2_with (go_at_call 10; refine (KB.out _).mono ?_; rintro e w' ⟨rfl, rfl⟩)
  refine (KT.out _).mono ?_
  rintro e w2 ⟨rfl, hb2⟩
  go_wp2
  go_ret
  exact ⟨rfl, (below1 w _).trans ((chain hb1 hb2).mono (by simp))⟩
set_option maxHeartbeats 4000000 in
theorem tr_hi (a0 a1 a2 a3 a4 a5 a6 a7 a8 a9 a10 a11 a12 a13 a14 a15 P kk : Int) (w : World) (KT : Hid (∀ w, Calls Try.prog 11 #[.agg #[.int .u64 a0, .int .u64 a1, .int .u64 a2, .int .u64 a3, .int .u64 a4, .int .u64 a5, .int .u64 a6, .int .u64 a7, .int .u64 a8, .int .u64 a9, .int .i64 a10, .int .i64 a11, .int .i64 a12, .int .i64 a13, .int .i64 a14, .int .i64 a15]] w fun e w' => e = .returned (.int .i64 4) ∧ Below w.heap.size w w'))
    (KB : Hid (∀ w, Calls Try.prog 10 #[.int .i64 kk] w fun e w' => e = .returned (.int .i64 P) ∧ w' = w))(ea00eql : ∀ w, (binOp .eql 24 (.agg #[.int .u64 a0, .int .u64 a1]) (.agg #[.int .u64 0, .int .u64 0])).run Try.prog w = .ok (.bool false) w) (g0 : decide (a12 < 0) = false) (g1 : decide (255 < a12) = true) :
    Calls Try.prog 3 #[.agg #[.int .u64 a0, .int .u64 a1, .int .u64 a2, .int .u64 a3, .int .u64 a4, .int .u64 a5, .int .u64 a6, .int .u64 a7, .int .u64 a8, .int .u64 a9, .int .i64 a10, .int .i64 a11, .int .i64 a12, .int .i64 a13, .int .i64 a14, .int .i64 a15]] w fun e w' => e = .returned (.bool true) ∧ Below w.heap.size w w' := by
  go_enter Try.func3, Try.ntmps3
  go_wp2_with fail
  refine (fit9_any _).mono ?_
  rintro e w1 ⟨rfl, hb1⟩
  have hc : ∀ i, w1.cell? ⟨w.heap.size, i, none⟩ = _ := fun i => hb1.cell (p := ⟨w.heap.size, i, none⟩) (by simp)
  simp only [World.cell?_alloc_new] at hc
  have c0 := hc 0
  have c1 := hc 1
  have c2 := hc 2
  have c3 := hc 3
  have c4 := hc 4
  have c5 := hc 5
  have c6 := hc 6
  have c7 := hc 7
  have c8 := hc 8
  have c9 := hc 9
  have c10 := hc 10
  have c11 := hc 11
  have c12 := hc 12
  have c13 := hc 13
  have c14 := hc 14
  have c15 := hc 15
  simp at c0 c1 c2 c3 c4 c5 c6 c7 c8 c9 c10 c11 c12 c13 c14 c15
  clear hc
  go_wp2_with (go_at_call 10; refine (KB.out _).mono ?_; rintro e w' ⟨rfl, rfl⟩)
  refine (KT.out _).mono ?_
  rintro e w2 ⟨rfl, hb2⟩
  go_wp2
  go_ret
  exact ⟨rfl, (below1 w _).trans ((chain hb1 hb2).mono (by simp))⟩
set_option maxHeartbeats 4000000 in
theorem tr_b2 (a0 a1 a2 a3 a4 a5 a6 a7 a8 a9 a10 a11 a12 a13 a14 a15 P kk : Int) (w : World) (KT : Hid (∀ w, Calls Try.prog 11 #[.agg #[.int .u64 a0, .int .u64 a1, .int .u64 a2, .int .u64 a3, .int .u64 a4, .int .u64 a5, .int .u64 a6, .int .u64 a7, .int .u64 a8, .int .u64 a9, .int .i64 a10, .int .i64 a11, .int .i64 a12, .int .i64 a13, .int .i64 a14, .int .i64 a15]] w fun e w' => e = .returned (.int .i64 4) ∧ Below w.heap.size w w'))
    (KB : Hid (∀ w, Calls Try.prog 10 #[.int .i64 kk] w fun e w' => e = .returned (.int .i64 P) ∧ w' = w))(ea00eql : ∀ w, (binOp .eql 24 (.agg #[.int .u64 a0, .int .u64 a1]) (.agg #[.int .u64 0, .int .u64 0])).run Try.prog w = .ok (.bool false) w) (g0 : decide (a12 < 0) = false) (g1 : decide (255 < a12) = false) (hk : bits .and .i64 a12 14 = kk) (h2 : decide (1 < P) = true) :
    Calls Try.prog 3 #[.agg #[.int .u64 a0, .int .u64 a1, .int .u64 a2, .int .u64 a3, .int .u64 a4, .int .u64 a5, .int .u64 a6, .int .u64 a7, .int .u64 a8, .int .u64 a9, .int .i64 a10, .int .i64 a11, .int .i64 a12, .int .i64 a13, .int .i64 a14, .int .i64 a15]] w fun e w' => e = .returned (.bool true) ∧ Below w.heap.size w w' := by
  go_enter Try.func3, Try.ntmps3
  go_wp2_with fail
  refine (fit9_any _).mono ?_
  rintro e w1 ⟨rfl, hb1⟩
  have hc : ∀ i, w1.cell? ⟨w.heap.size, i, none⟩ = _ := fun i => hb1.cell (p := ⟨w.heap.size, i, none⟩) (by simp)
  simp only [World.cell?_alloc_new] at hc
  have c0 := hc 0
  have c1 := hc 1
  have c2 := hc 2
  have c3 := hc 3
  have c4 := hc 4
  have c5 := hc 5
  have c6 := hc 6
  have c7 := hc 7
  have c8 := hc 8
  have c9 := hc 9
  have c10 := hc 10
  have c11 := hc 11
  have c12 := hc 12
  have c13 := hc 13
  have c14 := hc 14
  have c15 := hc 15
  simp at c0 c1 c2 c3 c4 c5 c6 c7 c8 c9 c10 c11 c12 c13 c14 c15
  clear hc
  go_wp2_with (go_at_call 10; refine (KB.out _).mono ?_; rintro e w' ⟨rfl, rfl⟩)
  refine (KT.out _).mono ?_
  rintro e w2 ⟨rfl, hb2⟩
  go_wp2
  go_ret
  exact ⟨rfl, (below1 w _).trans ((chain hb1 hb2).mono (by simp))⟩
set_option maxHeartbeats 4000000 in
theorem tr_b34 (a0 a1 a2 a3 a4 a5 a6 a7 a8 a9 a10 a11 a12 a13 a14 a15 P kk : Int) (w : World) (KT : Hid (∀ w, Calls Try.prog 11 #[.agg #[.int .u64 a0, .int .u64 a1, .int .u64 a2, .int .u64 a3, .int .u64 a4, .int .u64 a5, .int .u64 a6, .int .u64 a7, .int .u64 a8, .int .u64 a9, .int .i64 a10, .int .i64 a11, .int .i64 a12, .int .i64 a13, .int .i64 a14, .int .i64 a15]] w fun e w' => e = .returned (.int .i64 4) ∧ Below w.heap.size w w'))
    (KB : Hid (∀ w, Calls Try.prog 10 #[.int .i64 kk] w fun e w' => e = .returned (.int .i64 P) ∧ w' = w))(ea00eql : ∀ w, (binOp .eql 24 (.agg #[.int .u64 a0, .int .u64 a1]) (.agg #[.int .u64 0, .int .u64 0])).run Try.prog w = .ok (.bool false) w) (g0 : decide (a12 < 0) = false) (g1 : decide (255 < a12) = false) (hk : bits .and .i64 a12 14 = kk) (h2 : decide (1 < P) = false) (p3 : decide (0 < bits .and .i64 a12 192) = true) (h4 : (bits .and .i64 a12 2 == 0) = true) :
    Calls Try.prog 3 #[.agg #[.int .u64 a0, .int .u64 a1, .int .u64 a2, .int .u64 a3, .int .u64 a4, .int .u64 a5, .int .u64 a6, .int .u64 a7, .int .u64 a8, .int .u64 a9, .int .i64 a10, .int .i64 a11, .int .i64 a12, .int .i64 a13, .int .i64 a14, .int .i64 a15]] w fun e w' => e = .returned (.bool true) ∧ Below w.heap.size w w' := by
  go_enter Try.func3, Try.ntmps3
  go_wp2_with fail
  refine (fit9_any _).mono ?_
  rintro e w1 ⟨rfl, hb1⟩
  have hc : ∀ i, w1.cell? ⟨w.heap.size, i, none⟩ = _ := fun i => hb1.cell (p := ⟨w.heap.size, i, none⟩) (by simp)
  simp only [World.cell?_alloc_new] at hc
  have c0 := hc 0
  have c1 := hc 1
  have c2 := hc 2
  have c3 := hc 3
  have c4 := hc 4
  have c5 := hc 5
  have c6 := hc 6
  have c7 := hc 7
  have c8 := hc 8
  have c9 := hc 9
  have c10 := hc 10
  have c11 := hc 11
  have c12 := hc 12
  have c13 := hc 13
  have c14 := hc 14
  have c15 := hc 15
  simp at c0 c1 c2 c3 c4 c5 c6 c7 c8 c9 c10 c11 c12 c13 c14 c15
  clear hc
  go_wp2_with (go_at_call 10; refine (KB.out _).mono ?_; rintro e w' ⟨rfl, rfl⟩)
  refine (KT.out _).mono ?_
  rintro e w2 ⟨rfl, hb2⟩
  go_wp2
  go_ret
  exact ⟨rfl, (below1 w _).trans ((chain hb1 hb2).mono (by simp))⟩
set_option maxHeartbeats 4000000 in
theorem tr_c0bad (a0 a1 a2 a3 a4 a5 a6 a7 a8 a9 a10 a11 a12 a13 a14 a15 P kk : Int) (w : World) (KT : Hid (∀ w, Calls Try.prog 11 #[.agg #[.int .u64 a0, .int .u64 a1, .int .u64 a2, .int .u64 a3, .int .u64 a4, .int .u64 a5, .int .u64 a6, .int .u64 a7, .int .u64 a8, .int .u64 a9, .int .i64 a10, .int .i64 a11, .int .i64 a12, .int .i64 a13, .int .i64 a14, .int .i64 a15]] w fun e w' => e = .returned (.int .i64 4) ∧ Below w.heap.size w w'))
    (KB : Hid (∀ w, Calls Try.prog 10 #[.int .i64 kk] w fun e w' => e = .returned (.int .i64 P) ∧ w' = w))(ea00eql : ∀ w, (binOp .eql 24 (.agg #[.int .u64 a0, .int .u64 a1]) (.agg #[.int .u64 0, .int .u64 0])).run Try.prog w = .ok (.bool false) w) (g0 : decide (a12 < 0) = false) (g1 : decide (255 < a12) = false) (hk : bits .and .i64 a12 14 = kk) (h2 : decide (1 < P) = false) (p3 : decide (0 < bits .and .i64 a12 192) = true) (h4 : (bits .and .i64 a12 2 == 0) = false) (p5 : decide (0 < bits .and .i64 a12 48) = true) (p6 : decide (0 < bits .and .i64 a12 12) = true) (h6 : (bits .and .i64 a12 12 == 0) = false) :
    Calls Try.prog 3 #[.agg #[.int .u64 a0, .int .u64 a1, .int .u64 a2, .int .u64 a3, .int .u64 a4, .int .u64 a5, .int .u64 a6, .int .u64 a7, .int .u64 a8, .int .u64 a9, .int .i64 a10, .int .i64 a11, .int .i64 a12, .int .i64 a13, .int .i64 a14, .int .i64 a15]] w fun e w' => e = .returned (.bool true) ∧ Below w.heap.size w w' := by
  go_enter Try.func3, Try.ntmps3
  go_wp2_with fail
  refine (fit9_any _).mono ?_
  rintro e w1 ⟨rfl, hb1⟩
  have hc : ∀ i, w1.cell? ⟨w.heap.size, i, none⟩ = _ := fun i => hb1.cell (p := ⟨w.heap.size, i, none⟩) (by simp)
  simp only [World.cell?_alloc_new] at hc
  have c0 := hc 0
  have c1 := hc 1
  have c2 := hc 2
  have c3 := hc 3
  have c4 := hc 4
  have c5 := hc 5
  have c6 := hc 6
  have c7 := hc 7
  have c8 := hc 8
  have c9 := hc 9
  have c10 := hc 10
  have c11 := hc 11
  have c12 := hc 12
  have c13 := hc 13
  have c14 := hc 14
  have c15 := hc 15
  simp at c0 c1 c2 c3 c4 c5 c6 c7 c8 c9 c10 c11 c12 c13 c14 c15
  clear hc
  go_wp2_with (go_at_call 10; refine (KB.out _).mono ?_; rintro e w' ⟨rfl, rfl⟩)
  refine (KT.out _).mono ?_
  rintro e w2 ⟨rfl, hb2⟩
  go_wp2
  go_ret
  exact ⟨rfl, (below1 w _).trans ((chain hb1 hb2).mono (by simp))⟩
set_option maxHeartbeats 4000000 in
theorem tr_c00q (a0 a1 a2 a3 a4 a5 a6 a7 a8 a9 a10 a11 a12 a13 a14 a15 P kk : Int) (w : World) (KT : Hid (∀ w, Calls Try.prog 11 #[.agg #[.int .u64 a0, .int .u64 a1, .int .u64 a2, .int .u64 a3, .int .u64 a4, .int .u64 a5, .int .u64 a6, .int .u64 a7, .int .u64 a8, .int .u64 a9, .int .i64 a10, .int .i64 a11, .int .i64 a12, .int .i64 a13, .int .i64 a14, .int .i64 a15]] w fun e w' => e = .returned (.int .i64 18) ∧ Below w.heap.size w w'))
    (KB : Hid (∀ w, Calls Try.prog 10 #[.int .i64 kk] w fun e w' => e = .returned (.int .i64 P) ∧ w' = w))(ea00eql : ∀ w, (binOp .eql 24 (.agg #[.int .u64 a0, .int .u64 a1]) (.agg #[.int .u64 0, .int .u64 0])).run Try.prog w = .ok (.bool false) w) (g0 : decide (a12 < 0) = false) (g1 : decide (255 < a12) = false) (hk : bits .and .i64 a12 14 = kk) (h2 : decide (1 < P) = false) (p3 : decide (0 < bits .and .i64 a12 192) = true) (h4 : (bits .and .i64 a12 2 == 0) = false) (p5 : decide (0 < bits .and .i64 a12 48) = false) (p6 : decide (0 < bits .and .i64 a12 12) = false) (h6 : (bits .and .i64 a12 12 == 0) = true) (ea80eql : ∀ w, (binOp .eql 24 (.agg #[.int .u64 a8, .int .u64 a9]) (.agg #[.int .u64 0, .int .u64 0])).run Try.prog w = .ok (.bool false) w) (ea80neq : ∀ w, (binOp .neq 24 (.agg #[.int .u64 a8, .int .u64 a9]) (.agg #[.int .u64 0, .int .u64 0])).run Try.prog w = .ok (.bool true) w) :
    Calls Try.prog 3 #[.agg #[.int .u64 a0, .int .u64 a1, .int .u64 a2, .int .u64 a3, .int .u64 a4, .int .u64 a5, .int .u64 a6, .int .u64 a7, .int .u64 a8, .int .u64 a9, .int .i64 a10, .int .i64 a11, .int .i64 a12, .int .i64 a13, .int .i64 a14, .int .i64 a15]] w fun e w' => e = .returned (.bool true) ∧ Below w.heap.size w w' := by
  go_enter Try.func3, Try.ntmps3
  go_wp2_with fail
  refine (fit9_any _).mono ?_
  rintro e w1 ⟨rfl, hb1⟩
  have hc : ∀ i, w1.cell? ⟨w.heap.size, i, none⟩ = _ := fun i => hb1.cell (p := ⟨w.heap.size, i, none⟩) (by simp)
  simp only [World.cell?_alloc_new] at hc
  have c0 := hc 0
  have c1 := hc 1
  have c2 := hc 2
  have c3 := hc 3
  have c4 := hc 4
  have c5 := hc 5
  have c6 := hc 6
  have c7 := hc 7
  have c8 := hc 8
  have c9 := hc 9
  have c10 := hc 10
  have c11 := hc 11
  have c12 := hc 12
  have c13 := hc 13
  have c14 := hc 14
  have c15 := hc 15
  simp at c0 c1 c2 c3 c4 c5 c6 c7 c8 c9 c10 c11 c12 c13 c14 c15
  clear hc
  go_wp2_with (go_at_call 10; refine (KB.out _).mono ?_; rintro e w' ⟨rfl, rfl⟩)
  refine (KT.out _).mono ?_
  rintro e w2 ⟨rfl, hb2⟩
  go_wp2
  go_ret
  exact ⟨rfl, (below1 w _).trans ((chain hb1 hb2).mono (by simp))⟩
set_option maxHeartbeats 4000000 in
theorem tr_c00t (a0 a1 a2 a3 a4 a5 a6 a7 a8 a9 a10 a11 a12 a13 a14 a15 P kk : Int) (w : World) (KT : Hid (∀ w, Calls Try.prog 11 #[.agg #[.int .u64 a0, .int .u64 a1, .int .u64 a2, .int .u64 a3, .int .u64 a4, .int .u64 a5, .int .u64 a6, .int .u64 a7, .int .u64 a8, .int .u64 a9, .int .i64 a10, .int .i64 a11, .int .i64 a12, .int .i64 a13, .int .i64 a14, .int .i64 a15]] w fun e w' => e = .returned (.int .i64 0) ∧ Below w.heap.size w w'))
    (KB : Hid (∀ w, Calls Try.prog 10 #[.int .i64 kk] w fun e w' => e = .returned (.int .i64 P) ∧ w' = w))(ea00eql : ∀ w, (binOp .eql 24 (.agg #[.int .u64 a0, .int .u64 a1]) (.agg #[.int .u64 0, .int .u64 0])).run Try.prog w = .ok (.bool false) w) (g0 : decide (a12 < 0) = false) (g1 : decide (255 < a12) = false) (hk : bits .and .i64 a12 14 = kk) (h2 : decide (1 < P) = false) (p3 : decide (0 < bits .and .i64 a12 192) = true) (h4 : (bits .and .i64 a12 2 == 0) = false) (p5 : decide (0 < bits .and .i64 a12 48) = false) (p6 : decide (0 < bits .and .i64 a12 12) = false) (h6 : (bits .and .i64 a12 12 == 0) = true) (ea80eql : ∀ w, (binOp .eql 24 (.agg #[.int .u64 a8, .int .u64 a9]) (.agg #[.int .u64 0, .int .u64 0])).run Try.prog w = .ok (.bool true) w) (ea80neq : ∀ w, (binOp .neq 24 (.agg #[.int .u64 a8, .int .u64 a9]) (.agg #[.int .u64 0, .int .u64 0])).run Try.prog w = .ok (.bool false) w) (ht : (a10 != 0) = false) :
    Calls Try.prog 3 #[.agg #[.int .u64 a0, .int .u64 a1, .int .u64 a2, .int .u64 a3, .int .u64 a4, .int .u64 a5, .int .u64 a6, .int .u64 a7, .int .u64 a8, .int .u64 a9, .int .i64 a10, .int .i64 a11, .int .i64 a12, .int .i64 a13, .int .i64 a14, .int .i64 a15]] w fun e w' => e = .returned (.bool true) ∧ Below w.heap.size w w' := by
  go_enter Try.func3, Try.ntmps3
  go_wp2_with fail
  refine (fit9_any _).mono ?_
  rintro e w1 ⟨rfl, hb1⟩
  have hc : ∀ i, w1.cell? ⟨w.heap.size, i, none⟩ = _ := fun i => hb1.cell (p := ⟨w.heap.size, i, none⟩) (by simp)
  simp only [World.cell?_alloc_new] at hc
  have c0 := hc 0
  have c1 := hc 1
  have c2 := hc 2
  have c3 := hc 3
  have c4 := hc 4
  have c5 := hc 5
  have c6 := hc 6
  have c7 := hc 7
  have c8 := hc 8
  have c9 := hc 9
  have c10 := hc 10
  have c11 := hc 11
  have c12 := hc 12
  have c13 := hc 13
  have c14 := hc 14
  have c15 := hc 15
  simp at c0 c1 c2 c3 c4 c5 c6 c7 c8 c9 c10 c11 c12 c13 c14 c15
  clear hc
  go_wp2_with (go_at_call 10; refine (KB.out _).mono ?_; rintro e w' ⟨rfl, rfl⟩)
  refine (KT.out _).mono ?_
  rintro e w2 ⟨rfl, hb2⟩
  go_wp2
  go_ret
  exact ⟨rfl, (below1 w _).trans ((chain hb1 hb2).mono (by simp))⟩
set_option maxHeartbeats 4000000 in
theorem tr_c00u (a0 a1 a2 a3 a4 a5 a6 a7 a8 a9 a10 a11 a12 a13 a14 a15 P kk : Int) (w : World) (KT : Hid (∀ w, Calls Try.prog 11 #[.agg #[.int .u64 a0, .int .u64 a1, .int .u64 a2, .int .u64 a3, .int .u64 a4, .int .u64 a5, .int .u64 a6, .int .u64 a7, .int .u64 a8, .int .u64 a9, .int .i64 a10, .int .i64 a11, .int .i64 a12, .int .i64 a13, .int .i64 a14, .int .i64 a15]] w fun e w' => e = .returned (.int .i64 0) ∧ Below w.heap.size w w'))
    (KB : Hid (∀ w, Calls Try.prog 10 #[.int .i64 kk] w fun e w' => e = .returned (.int .i64 P) ∧ w' = w))(ea00eql : ∀ w, (binOp .eql 24 (.agg #[.int .u64 a0, .int .u64 a1]) (.agg #[.int .u64 0, .int .u64 0])).run Try.prog w = .ok (.bool false) w) (g0 : decide (a12 < 0) = false) (g1 : decide (255 < a12) = false) (hk : bits .and .i64 a12 14 = kk) (h2 : decide (1 < P) = false) (p3 : decide (0 < bits .and .i64 a12 192) = true) (h4 : (bits .and .i64 a12 2 == 0) = false) (p5 : decide (0 < bits .and .i64 a12 48) = false) (p6 : decide (0 < bits .and .i64 a12 12) = false) (h6 : (bits .and .i64 a12 12 == 0) = true) (ea80eql : ∀ w, (binOp .eql 24 (.agg #[.int .u64 a8, .int .u64 a9]) (.agg #[.int .u64 0, .int .u64 0])).run Try.prog w = .ok (.bool true) w) (ea80neq : ∀ w, (binOp .neq 24 (.agg #[.int .u64 a8, .int .u64 a9]) (.agg #[.int .u64 0, .int .u64 0])).run Try.prog w = .ok (.bool false) w) (ht : (a10 != 0) = true) :
    Calls Try.prog 3 #[.agg #[.int .u64 a0, .int .u64 a1, .int .u64 a2, .int .u64 a3, .int .u64 a4, .int .u64 a5, .int .u64 a6, .int .u64 a7, .int .u64 a8, .int .u64 a9, .int .i64 a10, .int .i64 a11, .int .i64 a12, .int .i64 a13, .int .i64 a14, .int .i64 a15]] w fun e w' => e = .returned (.bool true) ∧ Below w.heap.size w w' := by
  go_enter Try.func3, Try.ntmps3
  go_wp2_with fail
  refine (fit9_any _).mono ?_
  rintro e w1 ⟨rfl, hb1⟩
  have hc : ∀ i, w1.cell? ⟨w.heap.size, i, none⟩ = _ := fun i => hb1.cell (p := ⟨w.heap.size, i, none⟩) (by simp)
  simp only [World.cell?_alloc_new] at hc
  have c0 := hc 0
  have c1 := hc 1
  have c2 := hc 2
  have c3 := hc 3
  have c4 := hc 4
  have c5 := hc 5
  have c6 := hc 6
  have c7 := hc 7
  have c8 := hc 8
  have c9 := hc 9
  have c10 := hc 10
  have c11 := hc 11
  have c12 := hc 12
  have c13 := hc 13
  have c14 := hc 14
  have c15 := hc 15
  simp at c0 c1 c2 c3 c4 c5 c6 c7 c8 c9 c10 c11 c12 c13 c14 c15
  clear hc
  go_wp2_with (go_at_call 10; refine (KB.out _).mono ?_; rintro e w' ⟨rfl, rfl⟩)
  refine (KT.out _).mono ?_
  rintro e w2 ⟨rfl, hb2⟩
  go_wp2
  go_ret
  exact ⟨rfl, (below1 w _).trans ((chain hb1 hb2).mono (by simp))⟩
set_option maxHeartbeats 4000000 in
theorem tr_c01q (a0 a1 a2 a3 a4 a5 a6 a7 a8 a9 a10 a11 a12 a13 a14 a15 P kk : Int) (w : World) (KT : Hid (∀ w, Calls Try.prog 11 #[.agg #[.int .u64 a0, .int .u64 a1, .int .u64 a2, .int .u64 a3, .int .u64 a4, .int .u64 a5, .int .u64 a6, .int .u64 a7, .int .u64 a8, .int .u64 a9, .int .i64 a10, .int .i64 a11, .int .i64 a12, .int .i64 a13, .int .i64 a14, .int .i64 a15]] w fun e w' => e = .returned (.int .i64 18) ∧ Below w.heap.size w w'))
    (KB : Hid (∀ w, Calls Try.prog 10 #[.int .i64 kk] w fun e w' => e = .returned (.int .i64 P) ∧ w' = w))(ea00eql : ∀ w, (binOp .eql 24 (.agg #[.int .u64 a0, .int .u64 a1]) (.agg #[.int .u64 0, .int .u64 0])).run Try.prog w = .ok (.bool false) w) (g0 : decide (a12 < 0) = false) (g1 : decide (255 < a12) = false) (hk : bits .and .i64 a12 14 = kk) (h2 : decide (1 < P) = false) (p3 : decide (0 < bits .and .i64 a12 192) = true) (h4 : (bits .and .i64 a12 2 == 0) = false) (p5 : decide (0 < bits .and .i64 a12 48) = false) (p6 : decide (0 < bits .and .i64 a12 12) = true) (h6 : (bits .and .i64 a12 12 == 0) = false) (ea80eql : ∀ w, (binOp .eql 24 (.agg #[.int .u64 a8, .int .u64 a9]) (.agg #[.int .u64 0, .int .u64 0])).run Try.prog w = .ok (.bool true) w) (ea80neq : ∀ w, (binOp .neq 24 (.agg #[.int .u64 a8, .int .u64 a9]) (.agg #[.int .u64 0, .int .u64 0])).run Try.prog w = .ok (.bool false) w) :
    Calls Try.prog 3 #[.agg #[.int .u64 a0, .int .u64 a1, .int .u64 a2, .int .u64 a3, .int .u64 a4, .int .u64 a5, .int .u64 a6, .int .u64 a7, .int .u64 a8, .int .u64 a9, .int .i64 a10, .int .i64 a11, .int .i64 a12, .int .i64 a13, .int .i64 a14, .int .i64 a15]] w fun e w' => e = .returned (.bool true) ∧ Below w.heap.size w w' := by
  go_enter Try.func3, Try.ntmps3
  go_wp2_with fail
  refine (fit9_any _).mono ?_
  rintro e w1 ⟨rfl, hb1⟩
  have hc : ∀ i, w1.cell? ⟨w.heap.size, i, none⟩ = _ := fun i => hb1.cell (p := ⟨w.heap.size, i, none⟩) (by simp)
  simp only [World.cell?_alloc_new] at hc
  have c0 := hc 0
  have c1 := hc 1
  have c2 := hc 2
  have c3 := hc 3
  have c4 := hc 4
  have c5 := hc 5
  have c6 := hc 6
  have c7 := hc 7
  have c8 := hc 8
  have c9 := hc 9
  have c10 := hc 10
  have c11 := hc 11
  have c12 := hc 12
  have c13 := hc 13
  have c14 := hc 14
  have c15 := hc 15
  simp at c0 c1 c2 c3 c4 c5 c6 c7 c8 c9 c10 c11 c12 c13 c14 c15
  clear hc
  go_wp2_with (go_at_call 10; refine (KB.out _).mono ?_; rintro e w' ⟨rfl, rfl⟩)
  refine (KT.out _).mono ?_
  rintro e w2 ⟨rfl, hb2⟩
  go_wp2
  go_ret
  exact ⟨rfl, (below1 w _).trans ((chain hb1 hb2).mono (by simp))⟩
set_option maxHeartbeats 4000000 in
theorem tr_c01s (a0 a1 a2 a3 a4 a5 a6 a7 a8 a9 a10 a11 a12 a13 a14 a15 P kk : Int) (w : World) (KT : Hid (∀ w, Calls Try.prog 11 #[.agg #[.int .u64 a0, .int .u64 a1, .int .u64 a2, .int .u64 a3, .int .u64 a4, .int .u64 a5, .int .u64 a6, .int .u64 a7, .int .u64 a8, .int .u64 a9, .int .i64 a10, .int .i64 a11, .int .i64 a12, .int .i64 a13, .int .i64 a14, .int .i64 a15]] w fun e w' => e = .returned (.int .i64 18) ∧ Below w.heap.size w w'))
    (KB : Hid (∀ w, Calls Try.prog 10 #[.int .i64 kk] w fun e w' => e = .returned (.int .i64 P) ∧ w' = w))(ea00eql : ∀ w, (binOp .eql 24 (.agg #[.int .u64 a0, .int .u64 a1]) (.agg #[.int .u64 0, .int .u64 0])).run Try.prog w = .ok (.bool false) w) (g0 : decide (a12 < 0) = false) (g1 : decide (255 < a12) = false) (hk : bits .and .i64 a12 14 = kk) (h2 : decide (1 < P) = false) (p3 : decide (0 < bits .and .i64 a12 192) = true) (h4 : (bits .and .i64 a12 2 == 0) = false) (p5 : decide (0 < bits .and .i64 a12 48) = false) (p6 : decide (0 < bits .and .i64 a12 12) = true) (h6 : (bits .and .i64 a12 12 == 0) = false) (ea80eql : ∀ w, (binOp .eql 24 (.agg #[.int .u64 a8, .int .u64 a9]) (.agg #[.int .u64 0, .int .u64 0])).run Try.prog w = .ok (.bool false) w) (ea80neq : ∀ w, (binOp .neq 24 (.agg #[.int .u64 a8, .int .u64 a9]) (.agg #[.int .u64 0, .int .u64 0])).run Try.prog w = .ok (.bool true) w) (ea8a0eql : ∀ w, (binOp .eql 24 (.agg #[.int .u64 a8, .int .u64 a9]) (.agg #[.int .u64 a0, .int .u64 a1])).run Try.prog w = .ok (.bool true) w) :
    Calls Try.prog 3 #[.agg #[.int .u64 a0, .int .u64 a1, .int .u64 a2, .int .u64 a3, .int .u64 a4, .int .u64 a5, .int .u64 a6, .int .u64 a7, .int .u64 a8, .int .u64 a9, .int .i64 a10, .int .i64 a11, .int .i64 a12, .int .i64 a13, .int .i64 a14, .int .i64 a15]] w fun e w' => e = .returned (.bool true) ∧ Below w.heap.size w w' := by
  go_enter Try.func3, Try.ntmps3
  go_wp2_with fail
  refine (fit9_any _).mono ?_
  rintro e w1 ⟨rfl, hb1⟩
  have hc : ∀ i, w1.cell? ⟨w.heap.size, i, none⟩ = _ := fun i => hb1.cell (p := ⟨w.heap.size, i, none⟩) (by simp)
  simp only [World.cell?_alloc_new] at hc
  have c0 := hc 0
  have c1 := hc 1
  have c2 := hc 2
  have c3 := hc 3
  have c4 := hc 4
  have c5 := hc 5
  have c6 := hc 6
  have c7 := hc 7
  have c8 := hc 8
  have c9 := hc 9
  have c10 := hc 10
  have c11 := hc 11
  have c12 := hc 12
  have c13 := hc 13
  have c14 := hc 14
  have c15 := hc 15
  simp at c0 c1 c2 c3 c4 c5 c6 c7 c8 c9 c10 c11 c12 c13 c14 c15
  clear hc
  go_wp2_with (go_at_call 10; refine (KB.out _).mono ?_; rintro e w' ⟨rfl, rfl⟩)
  refine (KT.out _).mono ?_
  rintro e w2 ⟨rfl, hb2⟩
  go_wp2
  go_ret
  exact ⟨rfl, (below1 w _).trans ((chain hb1 hb2).mono (by simp))⟩
set_option maxHeartbeats 4000000 in
theorem tr_c01t (a0 a1 a2 a3 a4 a5 a6 a7 a8 a9 a10 a11 a12 a13 a14 a15 P kk : Int) (w : World) (KT : Hid (∀ w, Calls Try.prog 11 #[.agg #[.int .u64 a0, .int .u64 a1, .int .u64 a2, .int .u64 a3, .int .u64 a4, .int .u64 a5, .int .u64 a6, .int .u64 a7, .int .u64 a8, .int .u64 a9, .int .i64 a10, .int .i64 a11, .int .i64 a12, .int .i64 a13, .int .i64 a14, .int .i64 a15]] w fun e w' => e = .returned (.int .i64 0) ∧ Below w.heap.size w w'))
    (KB : Hid (∀ w, Calls Try.prog 10 #[.int .i64 kk] w fun e w' => e = .returned (.int .i64 P) ∧ w' = w))(ea00eql : ∀ w, (binOp .eql 24 (.agg #[.int .u64 a0, .int .u64 a1]) (.agg #[.int .u64 0, .int .u64 0])).run Try.prog w = .ok (.bool false) w) (g0 : decide (a12 < 0) = false) (g1 : decide (255 < a12) = false) (hk : bits .and .i64 a12 14 = kk) (h2 : decide (1 < P) = false) (p3 : decide (0 < bits .and .i64 a12 192) = true) (h4 : (bits .and .i64 a12 2 == 0) = false) (p5 : decide (0 < bits .and .i64 a12 48) = false) (p6 : decide (0 < bits .and .i64 a12 12) = true) (h6 : (bits .and .i64 a12 12 == 0) = false) (ea80eql : ∀ w, (binOp .eql 24 (.agg #[.int .u64 a8, .int .u64 a9]) (.agg #[.int .u64 0, .int .u64 0])).run Try.prog w = .ok (.bool false) w) (ea80neq : ∀ w, (binOp .neq 24 (.agg #[.int .u64 a8, .int .u64 a9]) (.agg #[.int .u64 0, .int .u64 0])).run Try.prog w = .ok (.bool true) w) (ea8a0eql : ∀ w, (binOp .eql 24 (.agg #[.int .u64 a8, .int .u64 a9]) (.agg #[.int .u64 a0, .int .u64 a1])).run Try.prog w = .ok (.bool false) w) (ht : (a10 != 0) = false) :
    Calls Try.prog 3 #[.agg #[.int .u64 a0, .int .u64 a1, .int .u64 a2, .int .u64 a3, .int .u64 a4, .int .u64 a5, .int .u64 a6, .int .u64 a7, .int .u64 a8, .int .u64 a9, .int .i64 a10, .int .i64 a11, .int .i64 a12, .int .i64 a13, .int .i64 a14, .int .i64 a15]] w fun e w' => e = .returned (.bool true) ∧ Below w.heap.size w w' := by
  go_enter Try.func3, Try.ntmps3
  go_wp2_with fail
  refine (fit9_any _).mono ?_
  rintro e w1 ⟨rfl, hb1⟩
  have hc : ∀ i, w1.cell? ⟨w.heap.size, i, none⟩ = _ := fun i => hb1.cell (p := ⟨w.heap.size, i, none⟩) (by simp)
  simp only [World.cell?_alloc_new] at hc
  have c0 := hc 0
  have c1 := hc 1
  have c2 := hc 2
  have c3 := hc 3
  have c4 := hc 4
  have c5 := hc 5
  have c6 := hc 6
  have c7 := hc 7
  have c8 := hc 8
  have c9 := hc 9
  have c10 := hc 10
  have c11 := hc 11
  have c12 := hc 12
  have c13 := hc 13
  have c14 := hc 14
  have c15 := hc 15
  simp at c0 c1 c2 c3 c4 c5 c6 c7 c8 c9 c10 c11 c12 c13 c14 c15
  clear hc
  go_wp2_with (go_at_call 10; refine (KB.out _).mono ?_; rintro e w' ⟨rfl, rfl⟩)
  refine (KT.out _).mono ?_
  rintro e w2 ⟨rfl, hb2⟩
  go_wp2
  go_ret
  exact ⟨rfl, (below1 w _).trans ((chain hb1 hb2).mono (by simp))⟩
set_option maxHeartbeats 4000000 in
theorem tr_c01u (a0 a1 a2 a3 a4 a5 a6 a7 a8 a9 a10 a11 a12 a13 a14 a15 P kk : Int) (w : World) (KT : Hid (∀ w, Calls Try.prog 11 #[.agg #[.int .u64 a0, .int .u64 a1, .int .u64 a2, .int .u64 a3, .int .u64 a4, .int .u64 a5, .int .u64 a6, .int .u64 a7, .int .u64 a8, .int .u64 a9, .int .i64 a10, .int .i64 a11, .int .i64 a12, .int .i64 a13, .int .i64 a14, .int .i64 a15]] w fun e w' => e = .returned (.int .i64 0) ∧ Below w.heap.size w w'))
    (KB : Hid (∀ w, Calls Try.prog 10 #[.int .i64 kk] w fun e w' => e = .returned (.int .i64 P) ∧ w' = w))(ea00eql : ∀ w, (binOp .eql 24 (.agg #[.int .u64 a0, .int .u64 a1]) (.agg #[.int .u64 0, .int .u64 0])).run Try.prog w = .ok (.bool false) w) (g0 : decide (a12 < 0) = false) (g1 : decide (255 < a12) = false) (hk : bits .and .i64 a12 14 = kk) (h2 : decide (1 < P) = false) (p3 : decide (0 < bits .and .i64 a12 192) = true) (h4 : (bits .and .i64 a12 2 == 0) = false) (p5 : decide (0 < bits .and .i64 a12 48) = false) (p6 : decide (0 < bits .and .i64 a12 12) = true) (h6 : (bits .and .i64 a12 12 == 0) = false) (ea80eql : ∀ w, (binOp .eql 24 (.agg #[.int .u64 a8, .int .u64 a9]) (.agg #[.int .u64 0, .int .u64 0])).run Try.prog w = .ok (.bool false) w) (ea80neq : ∀ w, (binOp .neq 24 (.agg #[.int .u64 a8, .int .u64 a9]) (.agg #[.int .u64 0, .int .u64 0])).run Try.prog w = .ok (.bool true) w) (ea8a0eql : ∀ w, (binOp .eql 24 (.agg #[.int .u64 a8, .int .u64 a9]) (.agg #[.int .u64 a0, .int .u64 a1])).run Try.prog w = .ok (.bool false) w) (ht : (a10 != 0) = true) :
    Calls Try.prog 3 #[.agg #[.int .u64 a0, .int .u64 a1, .int .u64 a2, .int .u64 a3, .int .u64 a4, .int .u64 a5, .int .u64 a6, .int .u64 a7, .int .u64 a8, .int .u64 a9, .int .i64 a10, .int .i64 a11, .int .i64 a12, .int .i64 a13, .int .i64 a14, .int .i64 a15]] w fun e w' => e = .returned (.bool true) ∧ Below w.heap.size w w' := by
  go_enter Try.func3, Try.ntmps3
  go_wp2_with fail
  refine (fit9_any _).mono ?_
  rintro e w1 ⟨rfl, hb1⟩
  have hc : ∀ i, w1.cell? ⟨w.heap.size, i, none⟩ = _ := fun i => hb1.cell (p := ⟨w.heap.size, i, none⟩) (by simp)
  simp only [World.cell?_alloc_new] at hc
  have c0 := hc 0
  have c1 := hc 1
  have c2 := hc 2
  have c3 := hc 3
  have c4 := hc 4
  have c5 := hc 5
  have c6 := hc 6
  have c7 := hc 7
  have c8 := hc 8
  have c9 := hc 9
  have c10 := hc 10
  have c11 := hc 11
  have c12 := hc 12
  have c13 := hc 13
  have c14 := hc 14
  have c15 := hc 15
  simp at c0 c1 c2 c3 c4 c5 c6 c7 c8 c9 c10 c11 c12 c13 c14 c15
  clear hc
  go_wp2_with (go_at_call 10; refine (KB.out _).mono ?_; rintro e w' ⟨rfl, rfl⟩)
  refine (KT.out _).mono ?_
  rintro e w2 ⟨rfl, hb2⟩
  go_wp2
  go_ret
  exact ⟨rfl, (below1 w _).trans ((chain hb1 hb2).mono (by simp))⟩
end Go.Proofs.Ytkigdfpgdkgcaaa
