
/-
  plain's contract for none: m = 0, with a tape or none.
-/
import Derived.Test.YtepohpniflmblaaDoorClJ
namespace Go.Proofs.YtepohpniflmblaaDoor
open Go.RowKit
set_option maxRecDepth 100000
set_option linter.unusedVariables false
set_option linter.unusedSimpArgs false

set_option maxHeartbeats 4000000 in
theorem plain_none (n : Nat) (old young : List Nat) (base : Nat) (tv : Value) (N : List (List Nat)) (w : World) (h64 : n ≤ 64) (ho : H32 old) (hy : H32 young) (ht : Tab w) (h0 : 0 < base) (hbw : base ≤ w.heap.size) (htp : TpAt w base tv N) (hN : N.length ≤ 1000) :
    Calls Tryd.prog 31 #[tv, .int .i64 0, .int .i64 (n : Nat), .agg (bytesL old), .agg (bytesL young)] w fun e w' => e = .returned (.bool (decide (old = rootL []) && (decide (0 < n) || decide (old = young)))) ∧ TpAt w' base tv (N ++ rootN []) ∧ TStep base w w' := by
  obtain ⟨pt, rfl⟩ := htp.form
  have i1 : (0 : Int) ≤ (n : Int) := by omega
  have i2 : (n : Int) ≤ 64 := by omega
  have HTP : Hid (TpAt w base (.pointer pt) N) := htp
  have HT : Hid (Tab w) := ht
  have HBW : Hid (base ≤ w.heap.size) := hbw
  have r8 := Row.new w (bytesL old) 28 rfl
  have r9 := Row.new (w.alloc (.cells (bytesL old) 28)) (bytesL young) 28 rfl
  have r8 := r8.alloc (.cells (bytesL young) 28)
  have s1 : (w.alloc (.cells (bytesL old) 28)).heap.size = w.heap.size + 1 := by simp
  rw [s1] at r9
  have b2 := below2 w (.cells (bytesL old) 28) (.cells (bytesL young) 28)
  have h32 := root_32 _ ([] : List (List Nat)) (Nat.le_refl _) (by simp)
  obtain ⟨R, hR⟩ : ∃ R, rootL [] = R := ⟨_, rfl⟩
  have HR : Hid (rootL [] = R) := hR
  rw [hR] at h32 ⊢
  have hE := hash_eql old young ho.1 hy.1
  have hE2 := hash_neq old R ho.1 h32.1
  obtain ⟨q, hq⟩ : ∃ q, decide (old = young) = q := ⟨_, rfl⟩
  obtain ⟨z, hz⟩ : ∃ z, decide (old = R) = z := ⟨_, rfl⟩
  rw [hq] at hE ⊢
  rw [hz] at hE2 ⊢
  obtain ⟨p, hp⟩ : ∃ p, decide (0 < n) = p := ⟨_, rfl⟩
  have hp' : decide ((0 : Int) < (n : Int)) = p := by rw [← hp]; simp
  rw [hp]
  have iO := info_h32 ho
  have iY := info_h32 hy
  have lO : (Tryd.prog.info? 28).map (·.size) = some (bytesL old).toList.length := by rw [Array.length_toList]; exact iO
  have hsO : (bytesL old).size = 32 := by rw [bytesL_size, ho.1]
  have hsY : (bytesL young).size = 32 := by rw [bytesL_size, hy.1]
  clear hq hp s1 ho hy ht htp hbw hz hR
  generalize bytesL old = cO at *
  generalize bytesL young = cY at *
  go_enter Tryd.func31, Tryd.ntmps31
  go_upto_region 1 with fail
  refine wp_region_D (fun _ => true) (fun w' : World => Row w' w.heap.size cO 28) (by kernel_rfl) ?_
  have B3 := b2.drew
  have hS : (fun w' : World => Row w' w.heap.size cO 28) (((w.alloc (.cells cO 28)).alloc (.cells cY 28)).drew) := r8
  have r9d : Row (((w.alloc (.cells cO 28)).alloc (.cells cY 28)).drew) (w.heap.size + 1) cY 28 := r9
  clear r8 r9 b2
  generalize ((w.alloc (.cells cO 28)).alloc (.cells cY 28)).drew = w1 at *
  refine' wpAnyD_take (i := 0) (v := _) rfl (by kernel_rfl) (by kernel_rfl) (by kernel_rfl) (by kernel_rfl) (fun _ _ _ h => h) (Or.inl ⟨by rfl, ?hy1⟩) hS ?re1
  case hy1 => (intro w hSw; (try dsimp only at hSw); go_simp; (try with_reducible rfl))
  simp only [Act.put, List.setIfInBounds_toArray, List.set_cons_zero, List.set_cons_succ]
  refine' wpAnyD_take (i := 1) (v := _) rfl (by kernel_rfl) (by kernel_rfl) (by kernel_rfl) (by kernel_rfl) (fun _ _ _ h => h) (Or.inl ⟨by rfl, ?hy2⟩) hS ?re2
  case hy2 => (intro w hSw; (try dsimp only at hSw); go_simp; (try with_reducible rfl))
  simp only [Act.put, List.setIfInBounds_toArray, List.set_cons_zero, List.set_cons_succ]
  refine' wpAnyD_take (i := 2) (v := _) rfl (by kernel_rfl) (by kernel_rfl) (by kernel_rfl) (by kernel_rfl) (fun _ _ _ h => h) (Or.inl ⟨by rfl, ?hy3⟩) hS ?re3
  case hy3 => (intro w hSw; (try dsimp only at hSw); go_simp; (try with_reducible rfl))
  simp only [Act.put, List.setIfInBounds_toArray, List.set_cons_zero, List.set_cons_succ]
  refine wpAnyD_take (i := 3) rfl (by kernel_rfl) (by kernel_rfl) (by kernel_rfl) (by kernel_rfl) (fun _ _ _ h => h) (yieldsIf_load_mid (by rfl) 28 _ rfl w.heap.size 0 rfl cO.toList _ (fun w' hw' => row_range0 hw') Tryd.underlying28 rfl lO) hS ?_
  simp only [Act.put, List.setIfInBounds_toArray, List.set_cons_zero, List.set_cons_succ]
  refine' wpAnyD_take (i := 4) (v := _) rfl (by kernel_rfl) (by kernel_rfl) (by kernel_rfl) (by kernel_rfl) (fun _ _ _ h => h) (Or.inl ⟨by rfl, ?hy4⟩) hS ?re4
  case hy4 => (intro w hSw; (try dsimp only at hSw); go_simp; (try with_reducible rfl))
  simp only [Act.put, List.setIfInBounds_toArray, List.set_cons_zero, List.set_cons_succ]
  refine wpAnyD_only (i := 5) rfl (by kernel_rfl) (by rfl) (fun K hK => ?_)
  go_simp
  refine (root_any 0 _ [] base _ N w1 (Nat.le_refl _) (by simp) (HsAt.nil _ _ (by unfold maxLen; omega) _) (HT.out.later B3) h0 (Nat.le_trans HBW.out B3.size) (HTP.out.later B3) (by simpa using hN)).mono ?_
  rintro e w5 ⟨rfl, htp5, hs5⟩
  rw [HR.out]
  have r8e := Row.tstep hS hs5 (by decide) (by decide)
  have r9e := r9d.tstep hs5 (by decide) (by decide)
  refine hK.out _ _ (fun _ => r8e) ?_
  clear hK K hS
  have hS : (fun w' : World => Row w' w.heap.size cO 28) w5 := r8e
  try simp only [Act.put, List.setIfInBounds_toArray, List.set_cons_zero, List.set_cons_succ]
  have hfin : TStep base w w5 := (TStep.of B3).trans hs5
  refine' wpAnyD_take (i := 6) (v := _) rfl (by kernel_rfl) (by kernel_rfl) (by kernel_rfl) (by kernel_rfl) (fun _ _ _ h => h) (Or.inl ⟨by rfl, ?hy5⟩) hS ?re5
  case hy5 => (intro w hSw; (try dsimp only at hSw); go_simp; (try with_reducible rfl))
  simp only [Act.put, List.setIfInBounds_toArray, List.set_cons_zero, List.set_cons_succ]
  refine' wpAnyD_take (i := 7) (v := _) rfl (by kernel_rfl) (by kernel_rfl) (by kernel_rfl) (by kernel_rfl) (fun _ _ _ h => h) (Or.inl ⟨by rfl, ?hy6⟩) hS ?re6
  case hy6 => (intro w hSw; (try dsimp only at hSw); go_simp; (try with_reducible rfl))
  simp only [Act.put, List.setIfInBounds_toArray, List.set_cons_zero, List.set_cons_succ]
  refine wpAnyD_done (by kernel_rfl) ?_ _
  clear hS hs5 r9d B3
  cases z with
  | false =>
    go_wp2
    go_ret
    exact ⟨by simp, htp5, hfin⟩
  | true =>
    cases p with
    | true =>
      have := of_decide_eq_true hp'
      go_wp2
      go_ret
      exact ⟨by simp, htp5, hfin⟩
    | false =>
      have := of_decide_eq_false hp'
      have hn0 : n = 0 := by omega
      subst hn0
      go_wp2_with (first | refine wpList_wG (by rfl) (wp_load_row 28 _ rfl w.heap.size rfl 28 cO (0, 0) _ r8e Tryd.underlying28 rfl iO ?_) | refine wpList_wG (by rfl) (wp_load_row 28 _ rfl (w.heap.size + 1) rfl 28 cY (0, 0) _ r9e Tryd.underlying28 rfl iY ?_))
      go_ret
      exact ⟨by simp, htp5, hfin⟩
end Go.Proofs.YtepohpniflmblaaDoor
