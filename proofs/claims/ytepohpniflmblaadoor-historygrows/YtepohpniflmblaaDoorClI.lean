
/-
  plain's contract for 0 < m, with a tape or none.
-/
import Derived.Test.YtepohpniflmblaaDoorClH
namespace Go.Proofs.YtepohpniflmblaaDoor
open Go.RowKit
set_option maxRecDepth 100000
set_option linter.unusedVariables false
set_option linter.unusedSimpArgs false

set_option maxHeartbeats 4000000 in
theorem plain_any (m n : Nat) (old young : List Nat) (tv : Value) (w : World) (hm : 0 < m) (hmn : m ≤ n) (h64 : n ≤ 64) (ho : H32 old) (hy : H32 young) :
    Calls Tryd.prog 31 #[tv, .int .i64 (m : Nat), .int .i64 (n : Nat), .agg (bytesL old), .agg (bytesL young)] w fun e w' => e = .returned (.bool (decide (m < n) || decide (old = young))) ∧ Below w.heap.size w w' := by
  have q0 : ((m : Int) == 0) = false := by simp; omega
  have i1 : (m : Int) ≤ (n : Int) := by omega
  have i0 : (0 : Int) < (m : Int) := by omega
  have i2 : (n : Int) ≤ 64 := by omega
  have HO : Hid (H32 old) := ho
  have HY : Hid (H32 young) := hy
  have r8 := Row.new w (bytesL old) 28 rfl
  have r9 := Row.new (w.alloc (.cells (bytesL old) 28)) (bytesL young) 28 rfl
  have r8 := r8.alloc (.cells (bytesL young) 28)
  have s1 : (w.alloc (.cells (bytesL old) 28)).heap.size = w.heap.size + 1 := by simp
  rw [s1] at r9
  have b2 := below2 w (.cells (bytesL old) 28) (.cells (bytesL young) 28)
  have hE := hash_eql old young ho.1 hy.1
  obtain ⟨q, hq⟩ : ∃ q, decide (old = young) = q := ⟨_, rfl⟩
  rw [hq] at hE ⊢
  obtain ⟨p, hp⟩ : ∃ p, decide (m < n) = p := ⟨_, rfl⟩
  have hp' : decide ((m : Int) < (n : Int)) = p := by rw [← hp]; simp
  rw [hp]
  have iO := info_h32 ho
  have iY := info_h32 hy
  have hsO : (bytesL old).size = 32 := by rw [bytesL_size, ho.1]
  have hsY : (bytesL young).size = 32 := by rw [bytesL_size, hy.1]
  clear hq hp s1 ho hy
  generalize bytesL old = cO at *
  generalize bytesL young = cY at *
  go_enter Tryd.func31, Tryd.ntmps31
  go_upto_region 1 with fail
  refine wp_region_D (fun _ => true) (fun _ : World => True) (by kernel_rfl) ?_
  have r8 := r8
  have hS : True := trivial
  have B3 := b2.drew
  have r8d : Row (((w.alloc (.cells cO 28)).alloc (.cells cY 28)).drew) w.heap.size cO 28 := r8
  have r9d : Row (((w.alloc (.cells cO 28)).alloc (.cells cY 28)).drew) (w.heap.size + 1) cY 28 := r9
  clear r8 r9 b2
  generalize ((w.alloc (.cells cO 28)).alloc (.cells cY 28)).drew = w1 at *
  refine' wpAnyD_take (i := 0) (v := _) rfl (by kernel_rfl) (by kernel_rfl) (by kernel_rfl) (by kernel_rfl) (fun _ _ _ h => h) (Or.inl ⟨by rfl, ?hy1⟩) hS ?re1
  case hy1 => (intro w hSw; (try dsimp only at hSw); go_simp; (try with_reducible rfl))
  simp only [Act.put, List.setIfInBounds_toArray, List.set_cons_zero, List.set_cons_succ]
  refine' wpAnyD_take (i := 1) (v := _) rfl (by kernel_rfl) (by kernel_rfl) (by kernel_rfl) (by kernel_rfl) (fun _ _ _ h => h) (Or.inl ⟨by rfl, ?hy2⟩) hS ?re2
  case hy2 => (intro w hSw; (try dsimp only at hSw); go_simp; (try with_reducible rfl))
  simp only [Act.put, List.setIfInBounds_toArray, List.set_cons_zero, List.set_cons_succ]
  refine' wpAnyD_take (i := 2) (v := _) rfl (by kernel_rfl) (by kernel_rfl) (by kernel_rfl) (by kernel_rfl) (fun _ _ _ h => h) (Or.inl ⟨by rfl, ?hy3⟩) hS ?re3
  case hy3 => (intro w hSw; (try dsimp only at hSw); go_simp; (try with_reducible rfl))
  simp only [Act.put, List.setIfInBounds_toArray, List.set_cons_zero, List.set_cons_succ]
  refine wpAnyD_take (i := 3) rfl (by kernel_rfl) (by kernel_rfl) (by kernel_rfl) (by kernel_rfl) (fun _ _ _ h => h) (Or.inr ⟨by rfl, rfl⟩) hS ?_
  simp only [Act.put, List.setIfInBounds_toArray, List.set_cons_zero, List.set_cons_succ]
  refine wpAnyD_take (i := 4) rfl (by kernel_rfl) (by kernel_rfl) (by kernel_rfl) (by kernel_rfl) (fun _ _ _ h => h) (Or.inr ⟨by rfl, rfl⟩) hS ?_
  simp only [Act.put, List.setIfInBounds_toArray, List.set_cons_zero, List.set_cons_succ]
  refine wpAnyD_take (i := 5) rfl (by kernel_rfl) (by kernel_rfl) (by kernel_rfl) (by kernel_rfl) (fun _ _ _ h => h) (Or.inr ⟨by rfl, rfl⟩) hS ?_
  simp only [Act.put, List.setIfInBounds_toArray, List.set_cons_zero, List.set_cons_succ]
  refine wpAnyD_take (i := 6) rfl (by kernel_rfl) (by kernel_rfl) (by kernel_rfl) (by kernel_rfl) (fun _ _ _ h => h) (Or.inr ⟨by rfl, rfl⟩) hS ?_
  simp only [Act.put, List.setIfInBounds_toArray, List.set_cons_zero, List.set_cons_succ]
  refine' wpAnyD_take (i := 7) (v := _) rfl (by kernel_rfl) (by kernel_rfl) (by kernel_rfl) (by kernel_rfl) (fun _ _ _ h => h) (Or.inl ⟨by rfl, ?hy4⟩) hS ?re4
  case hy4 => (intro w hSw; (try dsimp only at hSw); go_simp; (try with_reducible rfl))
  simp only [Act.put, List.setIfInBounds_toArray, List.set_cons_zero, List.set_cons_succ]
  refine wpAnyD_done (by kernel_rfl) ?_ _
  cases p with
  | true =>
    have := of_decide_eq_true hp'
    go_wp2
    go_ret
    exact ⟨by rfl, B3⟩
  | false =>
    have := of_decide_eq_false hp'
    go_wp2_with (first | refine wpList_wG (by rfl) (wp_load_row 28 _ rfl w.heap.size rfl 28 cO (0, 0) _ r8d Tryd.underlying28 rfl iO ?_) | refine wpList_wG (by rfl) (wp_load_row 28 _ rfl (w.heap.size + 1) rfl 28 cY (0, 0) _ r9d Tryd.underlying28 rfl iY ?_))
    go_ret
    exact ⟨by rfl, B3⟩
end Go.Proofs.YtepohpniflmblaaDoor
