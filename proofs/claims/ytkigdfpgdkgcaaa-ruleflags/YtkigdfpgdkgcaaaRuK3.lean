
/-
  The walk of paciolilaw09.RuleFlags. Its ways, part 3. (Made by tools/ruflag.py.)
-/
import Derived.Test.YtkigdfpgdkgcaaaRuK
namespace Go.Proofs.Ytkigdfpgdkgcaaa
open Go.RowKit
set_option maxRecDepth 100000
set_option linter.unusedVariables false
set_option linter.unusedSimpArgs false

set_option maxHeartbeats 4000000 in
theorem fl_mdb1 (f N C : Int)  (s4 s8 : Bool) (h12 : Bool) (w : World) (hf : bits .and .i64 f 511 = N) (e12 : (bits .and .i64 N 12 != 0) = h12) (hC : Hid (cnt true s4 s8 3 = C))
    (e2 : (bits .and .i64 N 2 != 0) = true) (e4 : (bits .and .i64 N 4 != 0) = s4) (e8 : (bits .and .i64 N 8 != 0) = s8) (g : decide (N < 256) = true) (gs : decide (C ≤ 1) = true) (q64 : (bits .and .i64 N 64 == 0) = false) (q16 : (bits .and .i64 N 16 == 0) = true) (q32 : (bits .and .i64 N 32 == 0) = false) (q4 : (bits .and .i64 N 4 == 0) = false)
    (KT : Hid (∀ w, Calls Try.prog 11 #[.agg (flX N h12)] w fun e w' => e = .returned (.int .i64 4) ∧ Below w.heap.size w w')) :
    Calls Try.prog 6 #[.int .i64 f] w fun e w' => e = .returned (.bool true) ∧ Below w.heap.size w w' := by
  have IX : Hid ((Try.prog.info? 26).map (·.size) = some (flX N h12).size) := by show _ = _; rw [flX_size]; exact info_tr
  have E2H := (show Hid _ from e2)
  have i0 : ∀ w, (Instr.index 45 (.agg #[.int .i64 2, .int .i64 4, .int .i64 8]) (.int .i64 0)).run Try.prog w = .ok (.int .i64 2) w := fun _ => by kernel_rfl
  have i1 : ∀ w, (Instr.index 45 (.agg #[.int .i64 2, .int .i64 4, .int .i64 8]) (.int .i64 1)).run Try.prog w = .ok (.int .i64 4) w := fun _ => by kernel_rfl
  have i2 : ∀ w, (Instr.index 45 (.agg #[.int .i64 2, .int .i64 4, .int .i64 8]) (.int .i64 2)).run Try.prog w = .ok (.int .i64 8) w := fun _ => by kernel_rfl
  cases h12
  · go_enter Try.func6, Try.ntmps6
    go_wp2_with fail
    refine (fit9_any _).mono ?_
    rintro e w1 ⟨rfl, hb1⟩
    go_wp2_with fail
    refine (of_any _ _).mono ?_
    rintro e w2 ⟨rfl, hb2⟩
    have B2 := chain hb1 hb2
    clear hb1 hb2
    go_wp2
    have r3 : Blk (w2.alloc (.cells #[.int .u64 0, .int .u64 5, .int .u64 0, .int .u64 0, .int .u64 0, .int .u64 0, .int .u64 0, .int .u64 0, .int .u64 0, .int .u64 0, .int .i64 0, .int .i64 0, .int .i64 N, .int .i64 0, .int .i64 0, .int .i64 0] 26)) w2.heap.size (flX N false) 26 := Blk.new w2 _ _ rfl
    have b3 : Below w.heap.size w (w2.alloc (.cells #[.int .u64 0, .int .u64 5, .int .u64 0, .int .u64 0, .int .u64 0, .int .u64 0, .int .u64 0, .int .u64 0, .int .u64 0, .int .u64 0, .int .i64 0, .int .i64 0, .int .i64 N, .int .i64 0, .int .i64 0, .int .i64 0] 26)) := B2.alloc B2.size _
    generalize w2.alloc (.cells #[.int .u64 0, .int .u64 5, .int .u64 0, .int .u64 0, .int .u64 0, .int .u64 0, .int .u64 0, .int .u64 0, .int .u64 0, .int .u64 0, .int .i64 0, .int .i64 0, .int .i64 N, .int .i64 0, .int .i64 0, .int .i64 0] 26) = w3 at *
    have R3 : Hid (Blk w3 w2.heap.size (flX N false) 26) := r3
    have B3 : Hid (Below w.heap.size w w3) := b3
    clear r3 b3 B2
    generalize w2.heap.size = g at *
    go_loop [4, 21] (fun s i => ∃ k : Nat, k ≤ 3 ∧ i = .int .i64 k ∧ s = .int .i64 (cnt true s4 s8 k)) (fun _ i => 3 - (intOf i).toNat)
    case atStart => exact ⟨0, by omega, rfl, rfl⟩
    case round =>
      obtain ⟨k, hk, rfl, rfl⟩ := hrel
      have hk4 : k = 0 ∨ k = 1 ∨ k = 2 ∨ k = 3 := by omega
      rcases hk4 with rfl | rfl | rfl | rfl
      · skip
        all_goals
          go_wp2
          go_round
          case rel => exact ⟨1, by omega, rfl, by first | rfl | exact congrArg (Value.int .i64) (cnt1 _ _)⟩
          case measure => decide
      · cases s4
        all_goals
          go_wp2
          go_round
          case rel => exact ⟨2, by omega, rfl, by first | exact congrArg (Value.int .i64) (cnt2 _ _) | exact congrArg (Value.int .i64) (cnt2f _ _)⟩
          case measure => decide
      · cases s8
        all_goals
          go_wp2
          go_round
          case rel => exact ⟨3, by omega, rfl, by first | exact congrArg (Value.int .i64) (cnt3 _ _) | exact congrArg (Value.int .i64) (cnt3f _ _)⟩
          case measure => decide
      · rw [hC.out]
        clear e2 e4 e8 hC
        have e2 := E2H.out
        go_wp2_with (refine wpList_load_row rfl 26 _ rfl g rfl 26 (flX N false) (0, 0) _ R3.out Try.underlying26 rfl IX.out ?_)
        refine (KT.out _).mono ?_
        rintro e w5 ⟨rfl, hb5⟩
        have R5 : Hid (Blk w5 g (flX N false) 26) := R3.out.later hb5
        have B5 : Hid (Below w.heap.size w w5) := B3.out.trans (hb5.mono B3.out.size)
        clear hb5
        go_wp2_with (refine wpList_wr rfl (wp_load_row 26 _ rfl g rfl 26 (flX N false) (0, 0) _ R5.out Try.underlying26 rfl IX.out ?_))
        refine (KT.out _).mono ?_
        rintro e w6 ⟨rfl, hb6⟩
        have B6 := B5.out.trans (hb6.mono B5.out.size)
        go_wp2
        go_ret
        exact ⟨rfl, B6⟩
  · go_enter Try.func6, Try.ntmps6
    go_wp2_with fail
    refine (fit9_any _).mono ?_
    rintro e w1 ⟨rfl, hb1⟩
    go_wp2_with fail
    refine (of_any _ _).mono ?_
    rintro e w2 ⟨rfl, hb2⟩
    have B2 := chain hb1 hb2
    clear hb1 hb2
    go_wp2_with fail
    refine (of_any _ _).mono ?_
    rintro e w4 ⟨rfl, hb4⟩
    have r4 : Blk w4 w2.heap.size #[.int .u64 0, .int .u64 5, .int .u64 0, .int .u64 0, .int .u64 0, .int .u64 0, .int .u64 0, .int .u64 0, .int .u64 0, .int .u64 0, .int .i64 0, .int .i64 0, .int .i64 N, .int .i64 0, .int .i64 0, .int .i64 0] 26 := (Blk.new w2 #[.int .u64 0, .int .u64 5, .int .u64 0, .int .u64 0, .int .u64 0, .int .u64 0, .int .u64 0, .int .u64 0, .int .u64 0, .int .u64 0, .int .i64 0, .int .i64 0, .int .i64 N, .int .i64 0, .int .i64 0, .int .i64 0] 26 rfl).later hb4
    have b4 : Below w.heap.size w w4 := (B2.alloc B2.size _).trans (hb4.mono (by have := B2.size; simp; omega))
    have c8 := r4.cell 8
    have c9 := r4.cell 9
    have f8 := r4.frozen 8
    have f9 := r4.frozen 9
    simp only [List.getElem?_toArray, List.getElem?_cons_zero, List.getElem?_cons_succ] at c8 c9
    have r3 : Blk ((w4.setCell ⟨w2.heap.size, 8, none⟩ (.int .u64 0)).setCell ⟨w2.heap.size, 9, none⟩ (.int .u64 4)) w2.heap.size (flX N true) 26 := (r4.set 8 (.int .u64 0)).set 9 (.int .u64 4)
    have b3 := (b4.setCell (p := ⟨w2.heap.size, 8, none⟩) B2.size (.int .u64 0)).setCell (p := ⟨w2.heap.size, 9, none⟩) B2.size (.int .u64 4)
    clear hb4 r4
    go_wp2
    generalize (w4.setCell ⟨w2.heap.size, 8, none⟩ (.int .u64 0)).setCell ⟨w2.heap.size, 9, none⟩ (.int .u64 4) = w3 at *
    have R3 : Hid (Blk w3 w2.heap.size (flX N true) 26) := r3
    have B3 : Hid (Below w.heap.size w w3) := b3
    clear r3 b3 B2 b4 c8 c9 f8 f9
    generalize w2.heap.size = g at *
    go_loop [4, 21] (fun s i => ∃ k : Nat, k ≤ 3 ∧ i = .int .i64 k ∧ s = .int .i64 (cnt true s4 s8 k)) (fun _ i => 3 - (intOf i).toNat)
    case atStart => exact ⟨0, by omega, rfl, rfl⟩
    case round =>
      obtain ⟨k, hk, rfl, rfl⟩ := hrel
      have hk4 : k = 0 ∨ k = 1 ∨ k = 2 ∨ k = 3 := by omega
      rcases hk4 with rfl | rfl | rfl | rfl
      · skip
        all_goals
          go_wp2
          go_round
          case rel => exact ⟨1, by omega, rfl, by first | rfl | exact congrArg (Value.int .i64) (cnt1 _ _)⟩
          case measure => decide
      · cases s4
        all_goals
          go_wp2
          go_round
          case rel => exact ⟨2, by omega, rfl, by first | exact congrArg (Value.int .i64) (cnt2 _ _) | exact congrArg (Value.int .i64) (cnt2f _ _)⟩
          case measure => decide
      · cases s8
        all_goals
          go_wp2
          go_round
          case rel => exact ⟨3, by omega, rfl, by first | exact congrArg (Value.int .i64) (cnt3 _ _) | exact congrArg (Value.int .i64) (cnt3f _ _)⟩
          case measure => decide
      · rw [hC.out]
        clear e2 e4 e8 hC
        have e2 := E2H.out
        go_wp2_with (refine wpList_load_row rfl 26 _ rfl g rfl 26 (flX N true) (0, 0) _ R3.out Try.underlying26 rfl IX.out ?_)
        refine (KT.out _).mono ?_
        rintro e w5 ⟨rfl, hb5⟩
        have R5 : Hid (Blk w5 g (flX N true) 26) := R3.out.later hb5
        have B5 : Hid (Below w.heap.size w w5) := B3.out.trans (hb5.mono B3.out.size)
        clear hb5
        go_wp2_with (refine wpList_wr rfl (wp_load_row 26 _ rfl g rfl 26 (flX N true) (0, 0) _ R5.out Try.underlying26 rfl IX.out ?_))
        refine (KT.out _).mono ?_
        rintro e w6 ⟨rfl, hb6⟩
        have B6 := B5.out.trans (hb6.mono B5.out.size)
        go_wp2
        go_ret
        exact ⟨rfl, B6⟩
set_option maxHeartbeats 4000000 in
theorem fl_mdb2 (f N C : Int)  (s4 s8 : Bool) (h12 : Bool) (w : World) (hf : bits .and .i64 f 511 = N) (e12 : (bits .and .i64 N 12 != 0) = h12) (hC : Hid (cnt true s4 s8 3 = C))
    (e2 : (bits .and .i64 N 2 != 0) = true) (e4 : (bits .and .i64 N 4 != 0) = s4) (e8 : (bits .and .i64 N 8 != 0) = s8) (g : decide (N < 256) = true) (gs : decide (C ≤ 1) = true) (q64 : (bits .and .i64 N 64 == 0) = false) (q16 : (bits .and .i64 N 16 == 0) = true) (q32 : (bits .and .i64 N 32 == 0) = false) (q4 : (bits .and .i64 N 4 == 0) = true) (q8 : (bits .and .i64 N 8 == 0) = true)
    (KT : Hid (∀ w, Calls Try.prog 11 #[.agg (flX N h12)] w fun e w' => e = .returned (.int .i64 0) ∧ Below w.heap.size w w')) :
    Calls Try.prog 6 #[.int .i64 f] w fun e w' => e = .returned (.bool true) ∧ Below w.heap.size w w' := by
  have IX : Hid ((Try.prog.info? 26).map (·.size) = some (flX N h12).size) := by show _ = _; rw [flX_size]; exact info_tr
  have E2H := (show Hid _ from e2)
  have i0 : ∀ w, (Instr.index 45 (.agg #[.int .i64 2, .int .i64 4, .int .i64 8]) (.int .i64 0)).run Try.prog w = .ok (.int .i64 2) w := fun _ => by kernel_rfl
  have i1 : ∀ w, (Instr.index 45 (.agg #[.int .i64 2, .int .i64 4, .int .i64 8]) (.int .i64 1)).run Try.prog w = .ok (.int .i64 4) w := fun _ => by kernel_rfl
  have i2 : ∀ w, (Instr.index 45 (.agg #[.int .i64 2, .int .i64 4, .int .i64 8]) (.int .i64 2)).run Try.prog w = .ok (.int .i64 8) w := fun _ => by kernel_rfl
  cases h12
  · go_enter Try.func6, Try.ntmps6
    go_wp2_with fail
    refine (fit9_any _).mono ?_
    rintro e w1 ⟨rfl, hb1⟩
    go_wp2_with fail
    refine (of_any _ _).mono ?_
    rintro e w2 ⟨rfl, hb2⟩
    have B2 := chain hb1 hb2
    clear hb1 hb2
    go_wp2
    have r3 : Blk (w2.alloc (.cells #[.int .u64 0, .int .u64 5, .int .u64 0, .int .u64 0, .int .u64 0, .int .u64 0, .int .u64 0, .int .u64 0, .int .u64 0, .int .u64 0, .int .i64 0, .int .i64 0, .int .i64 N, .int .i64 0, .int .i64 0, .int .i64 0] 26)) w2.heap.size (flX N false) 26 := Blk.new w2 _ _ rfl
    have b3 : Below w.heap.size w (w2.alloc (.cells #[.int .u64 0, .int .u64 5, .int .u64 0, .int .u64 0, .int .u64 0, .int .u64 0, .int .u64 0, .int .u64 0, .int .u64 0, .int .u64 0, .int .i64 0, .int .i64 0, .int .i64 N, .int .i64 0, .int .i64 0, .int .i64 0] 26)) := B2.alloc B2.size _
    generalize w2.alloc (.cells #[.int .u64 0, .int .u64 5, .int .u64 0, .int .u64 0, .int .u64 0, .int .u64 0, .int .u64 0, .int .u64 0, .int .u64 0, .int .u64 0, .int .i64 0, .int .i64 0, .int .i64 N, .int .i64 0, .int .i64 0, .int .i64 0] 26) = w3 at *
    have R3 : Hid (Blk w3 w2.heap.size (flX N false) 26) := r3
    have B3 : Hid (Below w.heap.size w w3) := b3
    clear r3 b3 B2
    generalize w2.heap.size = g at *
    go_loop [4, 21] (fun s i => ∃ k : Nat, k ≤ 3 ∧ i = .int .i64 k ∧ s = .int .i64 (cnt true s4 s8 k)) (fun _ i => 3 - (intOf i).toNat)
    case atStart => exact ⟨0, by omega, rfl, rfl⟩
    case round =>
      obtain ⟨k, hk, rfl, rfl⟩ := hrel
      have hk4 : k = 0 ∨ k = 1 ∨ k = 2 ∨ k = 3 := by omega
      rcases hk4 with rfl | rfl | rfl | rfl
      · skip
        all_goals
          go_wp2
          go_round
          case rel => exact ⟨1, by omega, rfl, by first | rfl | exact congrArg (Value.int .i64) (cnt1 _ _)⟩
          case measure => decide
      · cases s4
        all_goals
          go_wp2
          go_round
          case rel => exact ⟨2, by omega, rfl, by first | exact congrArg (Value.int .i64) (cnt2 _ _) | exact congrArg (Value.int .i64) (cnt2f _ _)⟩
          case measure => decide
      · cases s8
        all_goals
          go_wp2
          go_round
          case rel => exact ⟨3, by omega, rfl, by first | exact congrArg (Value.int .i64) (cnt3 _ _) | exact congrArg (Value.int .i64) (cnt3f _ _)⟩
          case measure => decide
      · rw [hC.out]
        clear e2 e4 e8 hC
        have e2 := E2H.out
        go_wp2_with (refine wpList_load_row rfl 26 _ rfl g rfl 26 (flX N false) (0, 0) _ R3.out Try.underlying26 rfl IX.out ?_)
        refine (KT.out _).mono ?_
        rintro e w5 ⟨rfl, hb5⟩
        have B5 := B3.out.trans (hb5.mono B3.out.size)
        go_wp2
        go_ret
        exact ⟨rfl, B5⟩
  · go_enter Try.func6, Try.ntmps6
    go_wp2_with fail
    refine (fit9_any _).mono ?_
    rintro e w1 ⟨rfl, hb1⟩
    go_wp2_with fail
    refine (of_any _ _).mono ?_
    rintro e w2 ⟨rfl, hb2⟩
    have B2 := chain hb1 hb2
    clear hb1 hb2
    go_wp2_with fail
    refine (of_any _ _).mono ?_
    rintro e w4 ⟨rfl, hb4⟩
    have r4 : Blk w4 w2.heap.size #[.int .u64 0, .int .u64 5, .int .u64 0, .int .u64 0, .int .u64 0, .int .u64 0, .int .u64 0, .int .u64 0, .int .u64 0, .int .u64 0, .int .i64 0, .int .i64 0, .int .i64 N, .int .i64 0, .int .i64 0, .int .i64 0] 26 := (Blk.new w2 #[.int .u64 0, .int .u64 5, .int .u64 0, .int .u64 0, .int .u64 0, .int .u64 0, .int .u64 0, .int .u64 0, .int .u64 0, .int .u64 0, .int .i64 0, .int .i64 0, .int .i64 N, .int .i64 0, .int .i64 0, .int .i64 0] 26 rfl).later hb4
    have b4 : Below w.heap.size w w4 := (B2.alloc B2.size _).trans (hb4.mono (by have := B2.size; simp; omega))
    have c8 := r4.cell 8
    have c9 := r4.cell 9
    have f8 := r4.frozen 8
    have f9 := r4.frozen 9
    simp only [List.getElem?_toArray, List.getElem?_cons_zero, List.getElem?_cons_succ] at c8 c9
    have r3 : Blk ((w4.setCell ⟨w2.heap.size, 8, none⟩ (.int .u64 0)).setCell ⟨w2.heap.size, 9, none⟩ (.int .u64 4)) w2.heap.size (flX N true) 26 := (r4.set 8 (.int .u64 0)).set 9 (.int .u64 4)
    have b3 := (b4.setCell (p := ⟨w2.heap.size, 8, none⟩) B2.size (.int .u64 0)).setCell (p := ⟨w2.heap.size, 9, none⟩) B2.size (.int .u64 4)
    clear hb4 r4
    go_wp2
    generalize (w4.setCell ⟨w2.heap.size, 8, none⟩ (.int .u64 0)).setCell ⟨w2.heap.size, 9, none⟩ (.int .u64 4) = w3 at *
    have R3 : Hid (Blk w3 w2.heap.size (flX N true) 26) := r3
    have B3 : Hid (Below w.heap.size w w3) := b3
    clear r3 b3 B2 b4 c8 c9 f8 f9
    generalize w2.heap.size = g at *
    go_loop [4, 21] (fun s i => ∃ k : Nat, k ≤ 3 ∧ i = .int .i64 k ∧ s = .int .i64 (cnt true s4 s8 k)) (fun _ i => 3 - (intOf i).toNat)
    case atStart => exact ⟨0, by omega, rfl, rfl⟩
    case round =>
      obtain ⟨k, hk, rfl, rfl⟩ := hrel
      have hk4 : k = 0 ∨ k = 1 ∨ k = 2 ∨ k = 3 := by omega
      rcases hk4 with rfl | rfl | rfl | rfl
      · skip
        all_goals
          go_wp2
          go_round
          case rel => exact ⟨1, by omega, rfl, by first | rfl | exact congrArg (Value.int .i64) (cnt1 _ _)⟩
          case measure => decide
      · cases s4
        all_goals
          go_wp2
          go_round
          case rel => exact ⟨2, by omega, rfl, by first | exact congrArg (Value.int .i64) (cnt2 _ _) | exact congrArg (Value.int .i64) (cnt2f _ _)⟩
          case measure => decide
      · cases s8
        all_goals
          go_wp2
          go_round
          case rel => exact ⟨3, by omega, rfl, by first | exact congrArg (Value.int .i64) (cnt3 _ _) | exact congrArg (Value.int .i64) (cnt3f _ _)⟩
          case measure => decide
      · rw [hC.out]
        clear e2 e4 e8 hC
        have e2 := E2H.out
        go_wp2_with (refine wpList_load_row rfl 26 _ rfl g rfl 26 (flX N true) (0, 0) _ R3.out Try.underlying26 rfl IX.out ?_)
        refine (KT.out _).mono ?_
        rintro e w5 ⟨rfl, hb5⟩
        have B5 := B3.out.trans (hb5.mono B3.out.size)
        go_wp2
        go_ret
        exact ⟨rfl, B5⟩
set_option maxHeartbeats 4000000 in
theorem fl_mdb3 (f N C : Int)  (s4 s8 : Bool) (h12 : Bool) (w : World) (hf : bits .and .i64 f 511 = N) (e12 : (bits .and .i64 N 12 != 0) = h12) (hC : Hid (cnt true s4 s8 3 = C))
    (e2 : (bits .and .i64 N 2 != 0) = true) (e4 : (bits .and .i64 N 4 != 0) = s4) (e8 : (bits .and .i64 N 8 != 0) = s8) (g : decide (N < 256) = true) (gs : decide (C ≤ 1) = true) (q64 : (bits .and .i64 N 64 == 0) = false) (q16 : (bits .and .i64 N 16 == 0) = true) (q32 : (bits .and .i64 N 32 == 0) = false) (q4 : (bits .and .i64 N 4 == 0) = true) (q8 : (bits .and .i64 N 8 == 0) = false)
    (KT : Hid (∀ w, Calls Try.prog 11 #[.agg (flX N h12)] w fun e w' => e = .returned (.int .i64 4) ∧ Below w.heap.size w w')) :
    Calls Try.prog 6 #[.int .i64 f] w fun e w' => e = .returned (.bool true) ∧ Below w.heap.size w w' := by
  have IX : Hid ((Try.prog.info? 26).map (·.size) = some (flX N h12).size) := by show _ = _; rw [flX_size]; exact info_tr
  have E2H := (show Hid _ from e2)
  have i0 : ∀ w, (Instr.index 45 (.agg #[.int .i64 2, .int .i64 4, .int .i64 8]) (.int .i64 0)).run Try.prog w = .ok (.int .i64 2) w := fun _ => by kernel_rfl
  have i1 : ∀ w, (Instr.index 45 (.agg #[.int .i64 2, .int .i64 4, .int .i64 8]) (.int .i64 1)).run Try.prog w = .ok (.int .i64 4) w := fun _ => by kernel_rfl
  have i2 : ∀ w, (Instr.index 45 (.agg #[.int .i64 2, .int .i64 4, .int .i64 8]) (.int .i64 2)).run Try.prog w = .ok (.int .i64 8) w := fun _ => by kernel_rfl
  cases h12
  · go_enter Try.func6, Try.ntmps6
    go_wp2_with fail
    refine (fit9_any _).mono ?_
    rintro e w1 ⟨rfl, hb1⟩
    go_wp2_with fail
    refine (of_any _ _).mono ?_
    rintro e w2 ⟨rfl, hb2⟩
    have B2 := chain hb1 hb2
    clear hb1 hb2
    go_wp2
    have r3 : Blk (w2.alloc (.cells #[.int .u64 0, .int .u64 5, .int .u64 0, .int .u64 0, .int .u64 0, .int .u64 0, .int .u64 0, .int .u64 0, .int .u64 0, .int .u64 0, .int .i64 0, .int .i64 0, .int .i64 N, .int .i64 0, .int .i64 0, .int .i64 0] 26)) w2.heap.size (flX N false) 26 := Blk.new w2 _ _ rfl
    have b3 : Below w.heap.size w (w2.alloc (.cells #[.int .u64 0, .int .u64 5, .int .u64 0, .int .u64 0, .int .u64 0, .int .u64 0, .int .u64 0, .int .u64 0, .int .u64 0, .int .u64 0, .int .i64 0, .int .i64 0, .int .i64 N, .int .i64 0, .int .i64 0, .int .i64 0] 26)) := B2.alloc B2.size _
    generalize w2.alloc (.cells #[.int .u64 0, .int .u64 5, .int .u64 0, .int .u64 0, .int .u64 0, .int .u64 0, .int .u64 0, .int .u64 0, .int .u64 0, .int .u64 0, .int .i64 0, .int .i64 0, .int .i64 N, .int .i64 0, .int .i64 0, .int .i64 0] 26) = w3 at *
    have R3 : Hid (Blk w3 w2.heap.size (flX N false) 26) := r3
    have B3 : Hid (Below w.heap.size w w3) := b3
    clear r3 b3 B2
    generalize w2.heap.size = g at *
    go_loop [4, 21] (fun s i => ∃ k : Nat, k ≤ 3 ∧ i = .int .i64 k ∧ s = .int .i64 (cnt true s4 s8 k)) (fun _ i => 3 - (intOf i).toNat)
    case atStart => exact ⟨0, by omega, rfl, rfl⟩
    case round =>
      obtain ⟨k, hk, rfl, rfl⟩ := hrel
      have hk4 : k = 0 ∨ k = 1 ∨ k = 2 ∨ k = 3 := by omega
      rcases hk4 with rfl | rfl | rfl | rfl
      · skip
        all_goals
          go_wp2
          go_round
          case rel => exact ⟨1, by omega, rfl, by first | rfl | exact congrArg (Value.int .i64) (cnt1 _ _)⟩
          case measure => decide
      · cases s4
        all_goals
          go_wp2
          go_round
          case rel => exact ⟨2, by omega, rfl, by first | exact congrArg (Value.int .i64) (cnt2 _ _) | exact congrArg (Value.int .i64) (cnt2f _ _)⟩
          case measure => decide
      · cases s8
        all_goals
          go_wp2
          go_round
          case rel => exact ⟨3, by omega, rfl, by first | exact congrArg (Value.int .i64) (cnt3 _ _) | exact congrArg (Value.int .i64) (cnt3f _ _)⟩
          case measure => decide
      · rw [hC.out]
        clear e2 e4 e8 hC
        have e2 := E2H.out
        go_wp2_with (refine wpList_load_row rfl 26 _ rfl g rfl 26 (flX N false) (0, 0) _ R3.out Try.underlying26 rfl IX.out ?_)
        refine (KT.out _).mono ?_
        rintro e w5 ⟨rfl, hb5⟩
        have R5 : Hid (Blk w5 g (flX N false) 26) := R3.out.later hb5
        have B5 : Hid (Below w.heap.size w w5) := B3.out.trans (hb5.mono B3.out.size)
        clear hb5
        go_wp2_with (refine wpList_wr rfl (wp_load_row 26 _ rfl g rfl 26 (flX N false) (0, 0) _ R5.out Try.underlying26 rfl IX.out ?_))
        refine (KT.out _).mono ?_
        rintro e w6 ⟨rfl, hb6⟩
        have B6 := B5.out.trans (hb6.mono B5.out.size)
        go_wp2
        go_ret
        exact ⟨rfl, B6⟩
  · go_enter Try.func6, Try.ntmps6
    go_wp2_with fail
    refine (fit9_any _).mono ?_
    rintro e w1 ⟨rfl, hb1⟩
    go_wp2_with fail
    refine (of_any _ _).mono ?_
    rintro e w2 ⟨rfl, hb2⟩
    have B2 := chain hb1 hb2
    clear hb1 hb2
    go_wp2_with fail
    refine (of_any _ _).mono ?_
    rintro e w4 ⟨rfl, hb4⟩
    have r4 : Blk w4 w2.heap.size #[.int .u64 0, .int .u64 5, .int .u64 0, .int .u64 0, .int .u64 0, .int .u64 0, .int .u64 0, .int .u64 0, .int .u64 0, .int .u64 0, .int .i64 0, .int .i64 0, .int .i64 N, .int .i64 0, .int .i64 0, .int .i64 0] 26 := (Blk.new w2 #[.int .u64 0, .int .u64 5, .int .u64 0, .int .u64 0, .int .u64 0, .int .u64 0, .int .u64 0, .int .u64 0, .int .u64 0, .int .u64 0, .int .i64 0, .int .i64 0, .int .i64 N, .int .i64 0, .int .i64 0, .int .i64 0] 26 rfl).later hb4
    have b4 : Below w.heap.size w w4 := (B2.alloc B2.size _).trans (hb4.mono (by have := B2.size; simp; omega))
    have c8 := r4.cell 8
    have c9 := r4.cell 9
    have f8 := r4.frozen 8
    have f9 := r4.frozen 9
    simp only [List.getElem?_toArray, List.getElem?_cons_zero, List.getElem?_cons_succ] at c8 c9
    have r3 : Blk ((w4.setCell ⟨w2.heap.size, 8, none⟩ (.int .u64 0)).setCell ⟨w2.heap.size, 9, none⟩ (.int .u64 4)) w2.heap.size (flX N true) 26 := (r4.set 8 (.int .u64 0)).set 9 (.int .u64 4)
    have b3 := (b4.setCell (p := ⟨w2.heap.size, 8, none⟩) B2.size (.int .u64 0)).setCell (p := ⟨w2.heap.size, 9, none⟩) B2.size (.int .u64 4)
    clear hb4 r4
    go_wp2
    generalize (w4.setCell ⟨w2.heap.size, 8, none⟩ (.int .u64 0)).setCell ⟨w2.heap.size, 9, none⟩ (.int .u64 4) = w3 at *
    have R3 : Hid (Blk w3 w2.heap.size (flX N true) 26) := r3
    have B3 : Hid (Below w.heap.size w w3) := b3
    clear r3 b3 B2 b4 c8 c9 f8 f9
    generalize w2.heap.size = g at *
    go_loop [4, 21] (fun s i => ∃ k : Nat, k ≤ 3 ∧ i = .int .i64 k ∧ s = .int .i64 (cnt true s4 s8 k)) (fun _ i => 3 - (intOf i).toNat)
    case atStart => exact ⟨0, by omega, rfl, rfl⟩
    case round =>
      obtain ⟨k, hk, rfl, rfl⟩ := hrel
      have hk4 : k = 0 ∨ k = 1 ∨ k = 2 ∨ k = 3 := by omega
      rcases hk4 with rfl | rfl | rfl | rfl
      · skip
        all_goals
          go_wp2
          go_round
          case rel => exact ⟨1, by omega, rfl, by first | rfl | exact congrArg (Value.int .i64) (cnt1 _ _)⟩
          case measure => decide
      · cases s4
        all_goals
          go_wp2
          go_round
          case rel => exact ⟨2, by omega, rfl, by first | exact congrArg (Value.int .i64) (cnt2 _ _) | exact congrArg (Value.int .i64) (cnt2f _ _)⟩
          case measure => decide
      · cases s8
        all_goals
          go_wp2
          go_round
          case rel => exact ⟨3, by omega, rfl, by first | exact congrArg (Value.int .i64) (cnt3 _ _) | exact congrArg (Value.int .i64) (cnt3f _ _)⟩
          case measure => decide
      · rw [hC.out]
        clear e2 e4 e8 hC
        have e2 := E2H.out
        go_wp2_with (refine wpList_load_row rfl 26 _ rfl g rfl 26 (flX N true) (0, 0) _ R3.out Try.underlying26 rfl IX.out ?_)
        refine (KT.out _).mono ?_
        rintro e w5 ⟨rfl, hb5⟩
        have R5 : Hid (Blk w5 g (flX N true) 26) := R3.out.later hb5
        have B5 : Hid (Below w.heap.size w w5) := B3.out.trans (hb5.mono B3.out.size)
        clear hb5
        go_wp2_with (refine wpList_wr rfl (wp_load_row 26 _ rfl g rfl 26 (flX N true) (0, 0) _ R5.out Try.underlying26 rfl IX.out ?_))
        refine (KT.out _).mono ?_
        rintro e w6 ⟨rfl, hb6⟩
        have B6 := B5.out.trans (hb6.mono B5.out.size)
        go_wp2
        go_ret
        exact ⟨rfl, B6⟩
set_option maxHeartbeats 4000000 in
theorem fl_mdc1 (f N C : Int)  (s4 s8 : Bool) (h12 : Bool) (w : World) (hf : bits .and .i64 f 511 = N) (e12 : (bits .and .i64 N 12 != 0) = h12) (hC : Hid (cnt true s4 s8 3 = C))
    (e2 : (bits .and .i64 N 2 != 0) = true) (e4 : (bits .and .i64 N 4 != 0) = s4) (e8 : (bits .and .i64 N 8 != 0) = s8) (g : decide (N < 256) = true) (gs : decide (C ≤ 1) = true) (q64 : (bits .and .i64 N 64 == 0) = false) (q16 : (bits .and .i64 N 16 == 0) = false) (q4 : (bits .and .i64 N 4 == 0) = false)
    (KT : Hid (∀ w, Calls Try.prog 11 #[.agg (flX N h12)] w fun e w' => e = .returned (.int .i64 4) ∧ Below w.heap.size w w')) :
    Calls Try.prog 6 #[.int .i64 f] w fun e w' => e = .returned (.bool true) ∧ Below w.heap.size w w' := by
  have IX : Hid ((Try.prog.info? 26).map (·.size) = some (flX N h12).size) := by show _ = _; rw [flX_size]; exact info_tr
  have E2H := (show Hid _ from e2)
  have i0 : ∀ w, (Instr.index 45 (.agg #[.int .i64 2, .int .i64 4, .int .i64 8]) (.int .i64 0)).run Try.prog w = .ok (.int .i64 2) w := fun _ => by kernel_rfl
  have i1 : ∀ w, (Instr.index 45 (.agg #[.int .i64 2, .int .i64 4, .int .i64 8]) (.int .i64 1)).run Try.prog w = .ok (.int .i64 4) w := fun _ => by kernel_rfl
  have i2 : ∀ w, (Instr.index 45 (.agg #[.int .i64 2, .int .i64 4, .int .i64 8]) (.int .i64 2)).run Try.prog w = .ok (.int .i64 8) w := fun _ => by kernel_rfl
  cases h12
  · go_enter Try.func6, Try.ntmps6
    go_wp2_with fail
    refine (fit9_any _).mono ?_
    rintro e w1 ⟨rfl, hb1⟩
    go_wp2_with fail
    refine (of_any _ _).mono ?_
    rintro e w2 ⟨rfl, hb2⟩
    have B2 := chain hb1 hb2
    clear hb1 hb2
    go_wp2
    have r3 : Blk (w2.alloc (.cells #[.int .u64 0, .int .u64 5, .int .u64 0, .int .u64 0, .int .u64 0, .int .u64 0, .int .u64 0, .int .u64 0, .int .u64 0, .int .u64 0, .int .i64 0, .int .i64 0, .int .i64 N, .int .i64 0, .int .i64 0, .int .i64 0] 26)) w2.heap.size (flX N false) 26 := Blk.new w2 _ _ rfl
    have b3 : Below w.heap.size w (w2.alloc (.cells #[.int .u64 0, .int .u64 5, .int .u64 0, .int .u64 0, .int .u64 0, .int .u64 0, .int .u64 0, .int .u64 0, .int .u64 0, .int .u64 0, .int .i64 0, .int .i64 0, .int .i64 N, .int .i64 0, .int .i64 0, .int .i64 0] 26)) := B2.alloc B2.size _
    generalize w2.alloc (.cells #[.int .u64 0, .int .u64 5, .int .u64 0, .int .u64 0, .int .u64 0, .int .u64 0, .int .u64 0, .int .u64 0, .int .u64 0, .int .u64 0, .int .i64 0, .int .i64 0, .int .i64 N, .int .i64 0, .int .i64 0, .int .i64 0] 26) = w3 at *
    have R3 : Hid (Blk w3 w2.heap.size (flX N false) 26) := r3
    have B3 : Hid (Below w.heap.size w w3) := b3
    clear r3 b3 B2
    generalize w2.heap.size = g at *
    go_loop [4, 21] (fun s i => ∃ k : Nat, k ≤ 3 ∧ i = .int .i64 k ∧ s = .int .i64 (cnt true s4 s8 k)) (fun _ i => 3 - (intOf i).toNat)
    case atStart => exact ⟨0, by omega, rfl, rfl⟩
    case round =>
      obtain ⟨k, hk, rfl, rfl⟩ := hrel
      have hk4 : k = 0 ∨ k = 1 ∨ k = 2 ∨ k = 3 := by omega
      rcases hk4 with rfl | rfl | rfl | rfl
      · skip
        all_goals
          go_wp2
          go_round
          case rel => exact ⟨1, by omega, rfl, by first | rfl | exact congrArg (Value.int .i64) (cnt1 _ _)⟩
          case measure => decide
      · cases s4
        all_goals
          go_wp2
          go_round
          case rel => exact ⟨2, by omega, rfl, by first | exact congrArg (Value.int .i64) (cnt2 _ _) | exact congrArg (Value.int .i64) (cnt2f _ _)⟩
          case measure => decide
      · cases s8
        all_goals
          go_wp2
          go_round
          case rel => exact ⟨3, by omega, rfl, by first | exact congrArg (Value.int .i64) (cnt3 _ _) | exact congrArg (Value.int .i64) (cnt3f _ _)⟩
          case measure => decide
      · rw [hC.out]
        clear e2 e4 e8 hC
        have e2 := E2H.out
        go_wp2_with (refine wpList_load_row rfl 26 _ rfl g rfl 26 (flX N false) (0, 0) _ R3.out Try.underlying26 rfl IX.out ?_)
        refine (KT.out _).mono ?_
        rintro e w5 ⟨rfl, hb5⟩
        have R5 : Hid (Blk w5 g (flX N false) 26) := R3.out.later hb5
        have B5 : Hid (Below w.heap.size w w5) := B3.out.trans (hb5.mono B3.out.size)
        clear hb5
        go_wp2_with (refine wpList_wr rfl (wp_load_row 26 _ rfl g rfl 26 (flX N false) (0, 0) _ R5.out Try.underlying26 rfl IX.out ?_))
        refine (KT.out _).mono ?_
        rintro e w6 ⟨rfl, hb6⟩
        have B6 := B5.out.trans (hb6.mono B5.out.size)
        go_wp2
        go_ret
        exact ⟨rfl, B6⟩
  · go_enter Try.func6, Try.ntmps6
    go_wp2_with fail
    refine (fit9_any _).mono ?_
    rintro e w1 ⟨rfl, hb1⟩
    go_wp2_with fail
    refine (of_any _ _).mono ?_
    rintro e w2 ⟨rfl, hb2⟩
    have B2 := chain hb1 hb2
    clear hb1 hb2
    go_wp2_with fail
    refine (of_any _ _).mono ?_
    rintro e w4 ⟨rfl, hb4⟩
    have r4 : Blk w4 w2.heap.size #[.int .u64 0, .int .u64 5, .int .u64 0, .int .u64 0, .int .u64 0, .int .u64 0, .int .u64 0, .int .u64 0, .int .u64 0, .int .u64 0, .int .i64 0, .int .i64 0, .int .i64 N, .int .i64 0, .int .i64 0, .int .i64 0] 26 := (Blk.new w2 #[.int .u64 0, .int .u64 5, .int .u64 0, .int .u64 0, .int .u64 0, .int .u64 0, .int .u64 0, .int .u64 0, .int .u64 0, .int .u64 0, .int .i64 0, .int .i64 0, .int .i64 N, .int .i64 0, .int .i64 0, .int .i64 0] 26 rfl).later hb4
    have b4 : Below w.heap.size w w4 := (B2.alloc B2.size _).trans (hb4.mono (by have := B2.size; simp; omega))
    have c8 := r4.cell 8
    have c9 := r4.cell 9
    have f8 := r4.frozen 8
    have f9 := r4.frozen 9
    simp only [List.getElem?_toArray, List.getElem?_cons_zero, List.getElem?_cons_succ] at c8 c9
    have r3 : Blk ((w4.setCell ⟨w2.heap.size, 8, none⟩ (.int .u64 0)).setCell ⟨w2.heap.size, 9, none⟩ (.int .u64 4)) w2.heap.size (flX N true) 26 := (r4.set 8 (.int .u64 0)).set 9 (.int .u64 4)
    have b3 := (b4.setCell (p := ⟨w2.heap.size, 8, none⟩) B2.size (.int .u64 0)).setCell (p := ⟨w2.heap.size, 9, none⟩) B2.size (.int .u64 4)
    clear hb4 r4
    go_wp2
    generalize (w4.setCell ⟨w2.heap.size, 8, none⟩ (.int .u64 0)).setCell ⟨w2.heap.size, 9, none⟩ (.int .u64 4) = w3 at *
    have R3 : Hid (Blk w3 w2.heap.size (flX N true) 26) := r3
    have B3 : Hid (Below w.heap.size w w3) := b3
    clear r3 b3 B2 b4 c8 c9 f8 f9
    generalize w2.heap.size = g at *
    go_loop [4, 21] (fun s i => ∃ k : Nat, k ≤ 3 ∧ i = .int .i64 k ∧ s = .int .i64 (cnt true s4 s8 k)) (fun _ i => 3 - (intOf i).toNat)
    case atStart => exact ⟨0, by omega, rfl, rfl⟩
    case round =>
      obtain ⟨k, hk, rfl, rfl⟩ := hrel
      have hk4 : k = 0 ∨ k = 1 ∨ k = 2 ∨ k = 3 := by omega
      rcases hk4 with rfl | rfl | rfl | rfl
      · skip
        all_goals
          go_wp2
          go_round
          case rel => exact ⟨1, by omega, rfl, by first | rfl | exact congrArg (Value.int .i64) (cnt1 _ _)⟩
          case measure => decide
      · cases s4
        all_goals
          go_wp2
          go_round
          case rel => exact ⟨2, by omega, rfl, by first | exact congrArg (Value.int .i64) (cnt2 _ _) | exact congrArg (Value.int .i64) (cnt2f _ _)⟩
          case measure => decide
      · cases s8
        all_goals
          go_wp2
          go_round
          case rel => exact ⟨3, by omega, rfl, by first | exact congrArg (Value.int .i64) (cnt3 _ _) | exact congrArg (Value.int .i64) (cnt3f _ _)⟩
          case measure => decide
      · rw [hC.out]
        clear e2 e4 e8 hC
        have e2 := E2H.out
        go_wp2_with (refine wpList_load_row rfl 26 _ rfl g rfl 26 (flX N true) (0, 0) _ R3.out Try.underlying26 rfl IX.out ?_)
        refine (KT.out _).mono ?_
        rintro e w5 ⟨rfl, hb5⟩
        have R5 : Hid (Blk w5 g (flX N true) 26) := R3.out.later hb5
        have B5 : Hid (Below w.heap.size w w5) := B3.out.trans (hb5.mono B3.out.size)
        clear hb5
        go_wp2_with (refine wpList_wr rfl (wp_load_row 26 _ rfl g rfl 26 (flX N true) (0, 0) _ R5.out Try.underlying26 rfl IX.out ?_))
        refine (KT.out _).mono ?_
        rintro e w6 ⟨rfl, hb6⟩
        have B6 := B5.out.trans (hb6.mono B5.out.size)
        go_wp2
        go_ret
        exact ⟨rfl, B6⟩
set_option maxHeartbeats 4000000 in
theorem fl_mdc2 (f N C : Int)  (s4 s8 : Bool) (h12 : Bool) (w : World) (hf : bits .and .i64 f 511 = N) (e12 : (bits .and .i64 N 12 != 0) = h12) (hC : Hid (cnt true s4 s8 3 = C))
    (e2 : (bits .and .i64 N 2 != 0) = true) (e4 : (bits .and .i64 N 4 != 0) = s4) (e8 : (bits .and .i64 N 8 != 0) = s8) (g : decide (N < 256) = true) (gs : decide (C ≤ 1) = true) (q64 : (bits .and .i64 N 64 == 0) = false) (q16 : (bits .and .i64 N 16 == 0) = false) (q4 : (bits .and .i64 N 4 == 0) = true) (q8 : (bits .and .i64 N 8 == 0) = true)
    (KT : Hid (∀ w, Calls Try.prog 11 #[.agg (flX N h12)] w fun e w' => e = .returned (.int .i64 0) ∧ Below w.heap.size w w')) :
    Calls Try.prog 6 #[.int .i64 f] w fun e w' => e = .returned (.bool true) ∧ Below w.heap.size w w' := by
  have IX : Hid ((Try.prog.info? 26).map (·.size) = some (flX N h12).size) := by show _ = _; rw [flX_size]; exact info_tr
  have E2H := (show Hid _ from e2)
  have i0 : ∀ w, (Instr.index 45 (.agg #[.int .i64 2, .int .i64 4, .int .i64 8]) (.int .i64 0)).run Try.prog w = .ok (.int .i64 2) w := fun _ => by kernel_rfl
  have i1 : ∀ w, (Instr.index 45 (.agg #[.int .i64 2, .int .i64 4, .int .i64 8]) (.int .i64 1)).run Try.prog w = .ok (.int .i64 4) w := fun _ => by kernel_rfl
  have i2 : ∀ w, (Instr.index 45 (.agg #[.int .i64 2, .int .i64 4, .int .i64 8]) (.int .i64 2)).run Try.prog w = .ok (.int .i64 8) w := fun _ => by kernel_rfl
  cases h12
  · go_enter Try.func6, Try.ntmps6
    go_wp2_with fail
    refine (fit9_any _).mono ?_
    rintro e w1 ⟨rfl, hb1⟩
    go_wp2_with fail
    refine (of_any _ _).mono ?_
    rintro e w2 ⟨rfl, hb2⟩
    have B2 := chain hb1 hb2
    clear hb1 hb2
    go_wp2
    have r3 : Blk (w2.alloc (.cells #[.int .u64 0, .int .u64 5, .int .u64 0, .int .u64 0, .int .u64 0, .int .u64 0, .int .u64 0, .int .u64 0, .int .u64 0, .int .u64 0, .int .i64 0, .int .i64 0, .int .i64 N, .int .i64 0, .int .i64 0, .int .i64 0] 26)) w2.heap.size (flX N false) 26 := Blk.new w2 _ _ rfl
    have b3 : Below w.heap.size w (w2.alloc (.cells #[.int .u64 0, .int .u64 5, .int .u64 0, .int .u64 0, .int .u64 0, .int .u64 0, .int .u64 0, .int .u64 0, .int .u64 0, .int .u64 0, .int .i64 0, .int .i64 0, .int .i64 N, .int .i64 0, .int .i64 0, .int .i64 0] 26)) := B2.alloc B2.size _
    generalize w2.alloc (.cells #[.int .u64 0, .int .u64 5, .int .u64 0, .int .u64 0, .int .u64 0, .int .u64 0, .int .u64 0, .int .u64 0, .int .u64 0, .int .u64 0, .int .i64 0, .int .i64 0, .int .i64 N, .int .i64 0, .int .i64 0, .int .i64 0] 26) = w3 at *
    have R3 : Hid (Blk w3 w2.heap.size (flX N false) 26) := r3
    have B3 : Hid (Below w.heap.size w w3) := b3
    clear r3 b3 B2
    generalize w2.heap.size = g at *
    go_loop [4, 21] (fun s i => ∃ k : Nat, k ≤ 3 ∧ i = .int .i64 k ∧ s = .int .i64 (cnt true s4 s8 k)) (fun _ i => 3 - (intOf i).toNat)
    case atStart => exact ⟨0, by omega, rfl, rfl⟩
    case round =>
      obtain ⟨k, hk, rfl, rfl⟩ := hrel
      have hk4 : k = 0 ∨ k = 1 ∨ k = 2 ∨ k = 3 := by omega
      rcases hk4 with rfl | rfl | rfl | rfl
      · skip
        all_goals
          go_wp2
          go_round
          case rel => exact ⟨1, by omega, rfl, by first | rfl | exact congrArg (Value.int .i64) (cnt1 _ _)⟩
          case measure => decide
      · cases s4
        all_goals
          go_wp2
          go_round
          case rel => exact ⟨2, by omega, rfl, by first | exact congrArg (Value.int .i64) (cnt2 _ _) | exact congrArg (Value.int .i64) (cnt2f _ _)⟩
          case measure => decide
      · cases s8
        all_goals
          go_wp2
          go_round
          case rel => exact ⟨3, by omega, rfl, by first | exact congrArg (Value.int .i64) (cnt3 _ _) | exact congrArg (Value.int .i64) (cnt3f _ _)⟩
          case measure => decide
      · rw [hC.out]
        clear e2 e4 e8 hC
        have e2 := E2H.out
        go_wp2_with (refine wpList_load_row rfl 26 _ rfl g rfl 26 (flX N false) (0, 0) _ R3.out Try.underlying26 rfl IX.out ?_)
        refine (KT.out _).mono ?_
        rintro e w5 ⟨rfl, hb5⟩
        have B5 := B3.out.trans (hb5.mono B3.out.size)
        go_wp2
        go_ret
        exact ⟨rfl, B5⟩
  · go_enter Try.func6, Try.ntmps6
    go_wp2_with fail
    refine (fit9_any _).mono ?_
    rintro e w1 ⟨rfl, hb1⟩
    go_wp2_with fail
    refine (of_any _ _).mono ?_
    rintro e w2 ⟨rfl, hb2⟩
    have B2 := chain hb1 hb2
    clear hb1 hb2
    go_wp2_with fail
    refine (of_any _ _).mono ?_
    rintro e w4 ⟨rfl, hb4⟩
    have r4 : Blk w4 w2.heap.size #[.int .u64 0, .int .u64 5, .int .u64 0, .int .u64 0, .int .u64 0, .int .u64 0, .int .u64 0, .int .u64 0, .int .u64 0, .int .u64 0, .int .i64 0, .int .i64 0, .int .i64 N, .int .i64 0, .int .i64 0, .int .i64 0] 26 := (Blk.new w2 #[.int .u64 0, .int .u64 5, .int .u64 0, .int .u64 0, .int .u64 0, .int .u64 0, .int .u64 0, .int .u64 0, .int .u64 0, .int .u64 0, .int .i64 0, .int .i64 0, .int .i64 N, .int .i64 0, .int .i64 0, .int .i64 0] 26 rfl).later hb4
    have b4 : Below w.heap.size w w4 := (B2.alloc B2.size _).trans (hb4.mono (by have := B2.size; simp; omega))
    have c8 := r4.cell 8
    have c9 := r4.cell 9
    have f8 := r4.frozen 8
    have f9 := r4.frozen 9
    simp only [List.getElem?_toArray, List.getElem?_cons_zero, List.getElem?_cons_succ] at c8 c9
    have r3 : Blk ((w4.setCell ⟨w2.heap.size, 8, none⟩ (.int .u64 0)).setCell ⟨w2.heap.size, 9, none⟩ (.int .u64 4)) w2.heap.size (flX N true) 26 := (r4.set 8 (.int .u64 0)).set 9 (.int .u64 4)
    have b3 := (b4.setCell (p := ⟨w2.heap.size, 8, none⟩) B2.size (.int .u64 0)).setCell (p := ⟨w2.heap.size, 9, none⟩) B2.size (.int .u64 4)
    clear hb4 r4
    go_wp2
    generalize (w4.setCell ⟨w2.heap.size, 8, none⟩ (.int .u64 0)).setCell ⟨w2.heap.size, 9, none⟩ (.int .u64 4) = w3 at *
    have R3 : Hid (Blk w3 w2.heap.size (flX N true) 26) := r3
    have B3 : Hid (Below w.heap.size w w3) := b3
    clear r3 b3 B2 b4 c8 c9 f8 f9
    generalize w2.heap.size = g at *
    go_loop [4, 21] (fun s i => ∃ k : Nat, k ≤ 3 ∧ i = .int .i64 k ∧ s = .int .i64 (cnt true s4 s8 k)) (fun _ i => 3 - (intOf i).toNat)
    case atStart => exact ⟨0, by omega, rfl, rfl⟩
    case round =>
      obtain ⟨k, hk, rfl, rfl⟩ := hrel
      have hk4 : k = 0 ∨ k = 1 ∨ k = 2 ∨ k = 3 := by omega
      rcases hk4 with rfl | rfl | rfl | rfl
      · skip
        all_goals
          go_wp2
          go_round
          case rel => exact ⟨1, by omega, rfl, by first | rfl | exact congrArg (Value.int .i64) (cnt1 _ _)⟩
          case measure => decide
      · cases s4
        all_goals
          go_wp2
          go_round
          case rel => exact ⟨2, by omega, rfl, by first | exact congrArg (Value.int .i64) (cnt2 _ _) | exact congrArg (Value.int .i64) (cnt2f _ _)⟩
          case measure => decide
      · cases s8
        all_goals
          go_wp2
          go_round
          case rel => exact ⟨3, by omega, rfl, by first | exact congrArg (Value.int .i64) (cnt3 _ _) | exact congrArg (Value.int .i64) (cnt3f _ _)⟩
          case measure => decide
      · rw [hC.out]
        clear e2 e4 e8 hC
        have e2 := E2H.out
        go_wp2_with (refine wpList_load_row rfl 26 _ rfl g rfl 26 (flX N true) (0, 0) _ R3.out Try.underlying26 rfl IX.out ?_)
        refine (KT.out _).mono ?_
        rintro e w5 ⟨rfl, hb5⟩
        have B5 := B3.out.trans (hb5.mono B3.out.size)
        go_wp2
        go_ret
        exact ⟨rfl, B5⟩
set_option maxHeartbeats 4000000 in
theorem fl_mdc3 (f N C : Int)  (s4 s8 : Bool) (h12 : Bool) (w : World) (hf : bits .and .i64 f 511 = N) (e12 : (bits .and .i64 N 12 != 0) = h12) (hC : Hid (cnt true s4 s8 3 = C))
    (e2 : (bits .and .i64 N 2 != 0) = true) (e4 : (bits .and .i64 N 4 != 0) = s4) (e8 : (bits .and .i64 N 8 != 0) = s8) (g : decide (N < 256) = true) (gs : decide (C ≤ 1) = true) (q64 : (bits .and .i64 N 64 == 0) = false) (q16 : (bits .and .i64 N 16 == 0) = false) (q4 : (bits .and .i64 N 4 == 0) = true) (q8 : (bits .and .i64 N 8 == 0) = false)
    (KT : Hid (∀ w, Calls Try.prog 11 #[.agg (flX N h12)] w fun e w' => e = .returned (.int .i64 4) ∧ Below w.heap.size w w')) :
    Calls Try.prog 6 #[.int .i64 f] w fun e w' => e = .returned (.bool true) ∧ Below w.heap.size w w' := by
  have IX : Hid ((Try.prog.info? 26).map (·.size) = some (flX N h12).size) := by show _ = _; rw [flX_size]; exact info_tr
  have E2H := (show Hid _ from e2)
  have i0 : ∀ w, (Instr.index 45 (.agg #[.int .i64 2, .int .i64 4, .int .i64 8]) (.int .i64 0)).run Try.prog w = .ok (.int .i64 2) w := fun _ => by kernel_rfl
  have i1 : ∀ w, (Instr.index 45 (.agg #[.int .i64 2, .int .i64 4, .int .i64 8]) (.int .i64 1)).run Try.prog w = .ok (.int .i64 4) w := fun _ => by kernel_rfl
  have i2 : ∀ w, (Instr.index 45 (.agg #[.int .i64 2, .int .i64 4, .int .i64 8]) (.int .i64 2)).run Try.prog w = .ok (.int .i64 8) w := fun _ => by kernel_rfl
  cases h12
  · go_enter Try.func6, Try.ntmps6
    go_wp2_with fail
    refine (fit9_any _).mono ?_
    rintro e w1 ⟨rfl, hb1⟩
    go_wp2_with fail
    refine (of_any _ _).mono ?_
    rintro e w2 ⟨rfl, hb2⟩
    have B2 := chain hb1 hb2
    clear hb1 hb2
    go_wp2
    have r3 : Blk (w2.alloc (.cells #[.int .u64 0, .int .u64 5, .int .u64 0, .int .u64 0, .int .u64 0, .int .u64 0, .int .u64 0, .int .u64 0, .int .u64 0, .int .u64 0, .int .i64 0, .int .i64 0, .int .i64 N, .int .i64 0, .int .i64 0, .int .i64 0] 26)) w2.heap.size (flX N false) 26 := Blk.new w2 _ _ rfl
    have b3 : Below w.heap.size w (w2.alloc (.cells #[.int .u64 0, .int .u64 5, .int .u64 0, .int .u64 0, .int .u64 0, .int .u64 0, .int .u64 0, .int .u64 0, .int .u64 0, .int .u64 0, .int .i64 0, .int .i64 0, .int .i64 N, .int .i64 0, .int .i64 0, .int .i64 0] 26)) := B2.alloc B2.size _
    generalize w2.alloc (.cells #[.int .u64 0, .int .u64 5, .int .u64 0, .int .u64 0, .int .u64 0, .int .u64 0, .int .u64 0, .int .u64 0, .int .u64 0, .int .u64 0, .int .i64 0, .int .i64 0, .int .i64 N, .int .i64 0, .int .i64 0, .int .i64 0] 26) = w3 at *
    have R3 : Hid (Blk w3 w2.heap.size (flX N false) 26) := r3
    have B3 : Hid (Below w.heap.size w w3) := b3
    clear r3 b3 B2
    generalize w2.heap.size = g at *
    go_loop [4, 21] (fun s i => ∃ k : Nat, k ≤ 3 ∧ i = .int .i64 k ∧ s = .int .i64 (cnt true s4 s8 k)) (fun _ i => 3 - (intOf i).toNat)
    case atStart => exact ⟨0, by omega, rfl, rfl⟩
    case round =>
      obtain ⟨k, hk, rfl, rfl⟩ := hrel
      have hk4 : k = 0 ∨ k = 1 ∨ k = 2 ∨ k = 3 := by omega
      rcases hk4 with rfl | rfl | rfl | rfl
      · skip
        all_goals
          go_wp2
          go_round
          case rel => exact ⟨1, by omega, rfl, by first | rfl | exact congrArg (Value.int .i64) (cnt1 _ _)⟩
          case measure => decide
      · cases s4
        all_goals
          go_wp2
          go_round
          case rel => exact ⟨2, by omega, rfl, by first | exact congrArg (Value.int .i64) (cnt2 _ _) | exact congrArg (Value.int .i64) (cnt2f _ _)⟩
          case measure => decide
      · cases s8
        all_goals
          go_wp2
          go_round
          case rel => exact ⟨3, by omega, rfl, by first | exact congrArg (Value.int .i64) (cnt3 _ _) | exact congrArg (Value.int .i64) (cnt3f _ _)⟩
          case measure => decide
      · rw [hC.out]
        clear e2 e4 e8 hC
        have e2 := E2H.out
        go_wp2_with (refine wpList_load_row rfl 26 _ rfl g rfl 26 (flX N false) (0, 0) _ R3.out Try.underlying26 rfl IX.out ?_)
        refine (KT.out _).mono ?_
        rintro e w5 ⟨rfl, hb5⟩
        have R5 : Hid (Blk w5 g (flX N false) 26) := R3.out.later hb5
        have B5 : Hid (Below w.heap.size w w5) := B3.out.trans (hb5.mono B3.out.size)
        clear hb5
        go_wp2_with (refine wpList_wr rfl (wp_load_row 26 _ rfl g rfl 26 (flX N false) (0, 0) _ R5.out Try.underlying26 rfl IX.out ?_))
        refine (KT.out _).mono ?_
        rintro e w6 ⟨rfl, hb6⟩
        have B6 := B5.out.trans (hb6.mono B5.out.size)
        go_wp2
        go_ret
        exact ⟨rfl, B6⟩
  · go_enter Try.func6, Try.ntmps6
    go_wp2_with fail
    refine (fit9_any _).mono ?_
    rintro e w1 ⟨rfl, hb1⟩
    go_wp2_with fail
    refine (of_any _ _).mono ?_
    rintro e w2 ⟨rfl, hb2⟩
    have B2 := chain hb1 hb2
    clear hb1 hb2
    go_wp2_with fail
    refine (of_any _ _).mono ?_
    rintro e w4 ⟨rfl, hb4⟩
    have r4 : Blk w4 w2.heap.size #[.int .u64 0, .int .u64 5, .int .u64 0, .int .u64 0, .int .u64 0, .int .u64 0, .int .u64 0, .int .u64 0, .int .u64 0, .int .u64 0, .int .i64 0, .int .i64 0, .int .i64 N, .int .i64 0, .int .i64 0, .int .i64 0] 26 := (Blk.new w2 #[.int .u64 0, .int .u64 5, .int .u64 0, .int .u64 0, .int .u64 0, .int .u64 0, .int .u64 0, .int .u64 0, .int .u64 0, .int .u64 0, .int .i64 0, .int .i64 0, .int .i64 N, .int .i64 0, .int .i64 0, .int .i64 0] 26 rfl).later hb4
    have b4 : Below w.heap.size w w4 := (B2.alloc B2.size _).trans (hb4.mono (by have := B2.size; simp; omega))
    have c8 := r4.cell 8
    have c9 := r4.cell 9
    have f8 := r4.frozen 8
    have f9 := r4.frozen 9
    simp only [List.getElem?_toArray, List.getElem?_cons_zero, List.getElem?_cons_succ] at c8 c9
    have r3 : Blk ((w4.setCell ⟨w2.heap.size, 8, none⟩ (.int .u64 0)).setCell ⟨w2.heap.size, 9, none⟩ (.int .u64 4)) w2.heap.size (flX N true) 26 := (r4.set 8 (.int .u64 0)).set 9 (.int .u64 4)
    have b3 := (b4.setCell (p := ⟨w2.heap.size, 8, none⟩) B2.size (.int .u64 0)).setCell (p := ⟨w2.heap.size, 9, none⟩) B2.size (.int .u64 4)
    clear hb4 r4
    go_wp2
    generalize (w4.setCell ⟨w2.heap.size, 8, none⟩ (.int .u64 0)).setCell ⟨w2.heap.size, 9, none⟩ (.int .u64 4) = w3 at *
    have R3 : Hid (Blk w3 w2.heap.size (flX N true) 26) := r3
    have B3 : Hid (Below w.heap.size w w3) := b3
    clear r3 b3 B2 b4 c8 c9 f8 f9
    generalize w2.heap.size = g at *
    go_loop [4, 21] (fun s i => ∃ k : Nat, k ≤ 3 ∧ i = .int .i64 k ∧ s = .int .i64 (cnt true s4 s8 k)) (fun _ i => 3 - (intOf i).toNat)
    case atStart => exact ⟨0, by omega, rfl, rfl⟩
    case round =>
      obtain ⟨k, hk, rfl, rfl⟩ := hrel
      have hk4 : k = 0 ∨ k = 1 ∨ k = 2 ∨ k = 3 := by omega
      rcases hk4 with rfl | rfl | rfl | rfl
      · skip
        all_goals
          go_wp2
          go_round
          case rel => exact ⟨1, by omega, rfl, by first | rfl | exact congrArg (Value.int .i64) (cnt1 _ _)⟩
          case measure => decide
      · cases s4
        all_goals
          go_wp2
          go_round
          case rel => exact ⟨2, by omega, rfl, by first | exact congrArg (Value.int .i64) (cnt2 _ _) | exact congrArg (Value.int .i64) (cnt2f _ _)⟩
          case measure => decide
      · cases s8
        all_goals
          go_wp2
          go_round
          case rel => exact ⟨3, by omega, rfl, by first | exact congrArg (Value.int .i64) (cnt3 _ _) | exact congrArg (Value.int .i64) (cnt3f _ _)⟩
          case measure => decide
      · rw [hC.out]
        clear e2 e4 e8 hC
        have e2 := E2H.out
        go_wp2_with (refine wpList_load_row rfl 26 _ rfl g rfl 26 (flX N true) (0, 0) _ R3.out Try.underlying26 rfl IX.out ?_)
        refine (KT.out _).mono ?_
        rintro e w5 ⟨rfl, hb5⟩
        have R5 : Hid (Blk w5 g (flX N true) 26) := R3.out.later hb5
        have B5 : Hid (Below w.heap.size w w5) := B3.out.trans (hb5.mono B3.out.size)
        clear hb5
        go_wp2_with (refine wpList_wr rfl (wp_load_row 26 _ rfl g rfl 26 (flX N true) (0, 0) _ R5.out Try.underlying26 rfl IX.out ?_))
        refine (KT.out _).mono ?_
        rintro e w6 ⟨rfl, hb6⟩
        have B6 := B5.out.trans (hb6.mono B5.out.size)
        go_wp2
        go_ret
        exact ⟨rfl, B6⟩
set_option maxHeartbeats 4000000 in
theorem fl_me (f N C : Int)  (s4 s8 : Bool) (h12 : Bool) (w : World) (hf : bits .and .i64 f 511 = N) (e12 : (bits .and .i64 N 12 != 0) = h12) (hC : Hid (cnt false s4 s8 3 = C))
    (e2 : (bits .and .i64 N 2 != 0) = false) (e4 : (bits .and .i64 N 4 != 0) = s4) (e8 : (bits .and .i64 N 8 != 0) = s8) (g : decide (N < 256) = true) (gs : decide (C ≤ 1) = true) (q64 : (bits .and .i64 N 64 == 0) = false)
    (KT : Hid (∀ w, Calls Try.prog 11 #[.agg (flX N h12)] w fun e w' => e = .returned (.int .i64 4) ∧ Below w.heap.size w w')) :
    Calls Try.prog 6 #[.int .i64 f] w fun e w' => e = .returned (.bool true) ∧ Below w.heap.size w w' := by
  have IX : Hid ((Try.prog.info? 26).map (·.size) = some (flX N h12).size) := by show _ = _; rw [flX_size]; exact info_tr
  have E2H := (show Hid _ from e2)
  have i0 : ∀ w, (Instr.index 45 (.agg #[.int .i64 2, .int .i64 4, .int .i64 8]) (.int .i64 0)).run Try.prog w = .ok (.int .i64 2) w := fun _ => by kernel_rfl
  have i1 : ∀ w, (Instr.index 45 (.agg #[.int .i64 2, .int .i64 4, .int .i64 8]) (.int .i64 1)).run Try.prog w = .ok (.int .i64 4) w := fun _ => by kernel_rfl
  have i2 : ∀ w, (Instr.index 45 (.agg #[.int .i64 2, .int .i64 4, .int .i64 8]) (.int .i64 2)).run Try.prog w = .ok (.int .i64 8) w := fun _ => by kernel_rfl
  cases h12
  · go_enter Try.func6, Try.ntmps6
    go_wp2_with fail
    refine (fit9_any _).mono ?_
    rintro e w1 ⟨rfl, hb1⟩
    go_wp2_with fail
    refine (of_any _ _).mono ?_
    rintro e w2 ⟨rfl, hb2⟩
    have B2 := chain hb1 hb2
    clear hb1 hb2
    go_wp2
    have r3 : Blk (w2.alloc (.cells #[.int .u64 0, .int .u64 5, .int .u64 0, .int .u64 0, .int .u64 0, .int .u64 0, .int .u64 0, .int .u64 0, .int .u64 0, .int .u64 0, .int .i64 0, .int .i64 0, .int .i64 N, .int .i64 0, .int .i64 0, .int .i64 0] 26)) w2.heap.size (flX N false) 26 := Blk.new w2 _ _ rfl
    have b3 : Below w.heap.size w (w2.alloc (.cells #[.int .u64 0, .int .u64 5, .int .u64 0, .int .u64 0, .int .u64 0, .int .u64 0, .int .u64 0, .int .u64 0, .int .u64 0, .int .u64 0, .int .i64 0, .int .i64 0, .int .i64 N, .int .i64 0, .int .i64 0, .int .i64 0] 26)) := B2.alloc B2.size _
    generalize w2.alloc (.cells #[.int .u64 0, .int .u64 5, .int .u64 0, .int .u64 0, .int .u64 0, .int .u64 0, .int .u64 0, .int .u64 0, .int .u64 0, .int .u64 0, .int .i64 0, .int .i64 0, .int .i64 N, .int .i64 0, .int .i64 0, .int .i64 0] 26) = w3 at *
    have R3 : Hid (Blk w3 w2.heap.size (flX N false) 26) := r3
    have B3 : Hid (Below w.heap.size w w3) := b3
    clear r3 b3 B2
    generalize w2.heap.size = g at *
    go_loop [4, 21] (fun s i => ∃ k : Nat, k ≤ 3 ∧ i = .int .i64 k ∧ s = .int .i64 (cnt false s4 s8 k)) (fun _ i => 3 - (intOf i).toNat)
    case atStart => exact ⟨0, by omega, rfl, rfl⟩
    case round =>
      obtain ⟨k, hk, rfl, rfl⟩ := hrel
      have hk4 : k = 0 ∨ k = 1 ∨ k = 2 ∨ k = 3 := by omega
      rcases hk4 with rfl | rfl | rfl | rfl
      · skip
        all_goals
          go_wp2
          go_round
          case rel => exact ⟨1, by omega, rfl, by first | rfl | exact congrArg (Value.int .i64) (cnt1 _ _)⟩
          case measure => decide
      · cases s4
        all_goals
          go_wp2
          go_round
          case rel => exact ⟨2, by omega, rfl, by first | exact congrArg (Value.int .i64) (cnt2 _ _) | exact congrArg (Value.int .i64) (cnt2f _ _)⟩
          case measure => decide
      · cases s8
        all_goals
          go_wp2
          go_round
          case rel => exact ⟨3, by omega, rfl, by first | exact congrArg (Value.int .i64) (cnt3 _ _) | exact congrArg (Value.int .i64) (cnt3f _ _)⟩
          case measure => decide
      · rw [hC.out]
        clear e2 e4 e8 hC
        have e2 := E2H.out
        go_wp2_with (refine wpList_load_row rfl 26 _ rfl g rfl 26 (flX N false) (0, 0) _ R3.out Try.underlying26 rfl IX.out ?_)
        refine (KT.out _).mono ?_
        rintro e w5 ⟨rfl, hb5⟩
        have R5 : Hid (Blk w5 g (flX N false) 26) := R3.out.later hb5
        have B5 : Hid (Below w.heap.size w w5) := B3.out.trans (hb5.mono B3.out.size)
        clear hb5
        go_wp2_with (refine wpList_wr rfl (wp_load_row 26 _ rfl g rfl 26 (flX N false) (0, 0) _ R5.out Try.underlying26 rfl IX.out ?_))
        refine (KT.out _).mono ?_
        rintro e w6 ⟨rfl, hb6⟩
        have B6 := B5.out.trans (hb6.mono B5.out.size)
        go_wp2
        go_ret
        exact ⟨rfl, B6⟩
  · go_enter Try.func6, Try.ntmps6
    go_wp2_with fail
    refine (fit9_any _).mono ?_
    rintro e w1 ⟨rfl, hb1⟩
    go_wp2_with fail
    refine (of_any _ _).mono ?_
    rintro e w2 ⟨rfl, hb2⟩
    have B2 := chain hb1 hb2
    clear hb1 hb2
    go_wp2_with fail
    refine (of_any _ _).mono ?_
    rintro e w4 ⟨rfl, hb4⟩
    have r4 : Blk w4 w2.heap.size #[.int .u64 0, .int .u64 5, .int .u64 0, .int .u64 0, .int .u64 0, .int .u64 0, .int .u64 0, .int .u64 0, .int .u64 0, .int .u64 0, .int .i64 0, .int .i64 0, .int .i64 N, .int .i64 0, .int .i64 0, .int .i64 0] 26 := (Blk.new w2 #[.int .u64 0, .int .u64 5, .int .u64 0, .int .u64 0, .int .u64 0, .int .u64 0, .int .u64 0, .int .u64 0, .int .u64 0, .int .u64 0, .int .i64 0, .int .i64 0, .int .i64 N, .int .i64 0, .int .i64 0, .int .i64 0] 26 rfl).later hb4
    have b4 : Below w.heap.size w w4 := (B2.alloc B2.size _).trans (hb4.mono (by have := B2.size; simp; omega))
    have c8 := r4.cell 8
    have c9 := r4.cell 9
    have f8 := r4.frozen 8
    have f9 := r4.frozen 9
    simp only [List.getElem?_toArray, List.getElem?_cons_zero, List.getElem?_cons_succ] at c8 c9
    have r3 : Blk ((w4.setCell ⟨w2.heap.size, 8, none⟩ (.int .u64 0)).setCell ⟨w2.heap.size, 9, none⟩ (.int .u64 4)) w2.heap.size (flX N true) 26 := (r4.set 8 (.int .u64 0)).set 9 (.int .u64 4)
    have b3 := (b4.setCell (p := ⟨w2.heap.size, 8, none⟩) B2.size (.int .u64 0)).setCell (p := ⟨w2.heap.size, 9, none⟩) B2.size (.int .u64 4)
    clear hb4 r4
    go_wp2
    generalize (w4.setCell ⟨w2.heap.size, 8, none⟩ (.int .u64 0)).setCell ⟨w2.heap.size, 9, none⟩ (.int .u64 4) = w3 at *
    have R3 : Hid (Blk w3 w2.heap.size (flX N true) 26) := r3
    have B3 : Hid (Below w.heap.size w w3) := b3
    clear r3 b3 B2 b4 c8 c9 f8 f9
    generalize w2.heap.size = g at *
    go_loop [4, 21] (fun s i => ∃ k : Nat, k ≤ 3 ∧ i = .int .i64 k ∧ s = .int .i64 (cnt false s4 s8 k)) (fun _ i => 3 - (intOf i).toNat)
    case atStart => exact ⟨0, by omega, rfl, rfl⟩
    case round =>
      obtain ⟨k, hk, rfl, rfl⟩ := hrel
      have hk4 : k = 0 ∨ k = 1 ∨ k = 2 ∨ k = 3 := by omega
      rcases hk4 with rfl | rfl | rfl | rfl
      · skip
        all_goals
          go_wp2
          go_round
          case rel => exact ⟨1, by omega, rfl, by first | rfl | exact congrArg (Value.int .i64) (cnt1 _ _)⟩
          case measure => decide
      · cases s4
        all_goals
          go_wp2
          go_round
          case rel => exact ⟨2, by omega, rfl, by first | exact congrArg (Value.int .i64) (cnt2 _ _) | exact congrArg (Value.int .i64) (cnt2f _ _)⟩
          case measure => decide
      · cases s8
        all_goals
          go_wp2
          go_round
          case rel => exact ⟨3, by omega, rfl, by first | exact congrArg (Value.int .i64) (cnt3 _ _) | exact congrArg (Value.int .i64) (cnt3f _ _)⟩
          case measure => decide
      · rw [hC.out]
        clear e2 e4 e8 hC
        have e2 := E2H.out
        go_wp2_with (refine wpList_load_row rfl 26 _ rfl g rfl 26 (flX N true) (0, 0) _ R3.out Try.underlying26 rfl IX.out ?_)
        refine (KT.out _).mono ?_
        rintro e w5 ⟨rfl, hb5⟩
        have R5 : Hid (Blk w5 g (flX N true) 26) := R3.out.later hb5
        have B5 : Hid (Below w.heap.size w w5) := B3.out.trans (hb5.mono B3.out.size)
        clear hb5
        go_wp2_with (refine wpList_wr rfl (wp_load_row 26 _ rfl g rfl 26 (flX N true) (0, 0) _ R5.out Try.underlying26 rfl IX.out ?_))
        refine (KT.out _).mono ?_
        rintro e w6 ⟨rfl, hb6⟩
        have B6 := B5.out.trans (hb6.mono B5.out.size)
        go_wp2
        go_ret
        exact ⟨rfl, B6⟩
end Go.Proofs.Ytkigdfpgdkgcaaa
