
/-
  history's Node.
-/
import Derived.Test.YtepohpniflmblaaDoorHiB
namespace Go.Proofs.YtepohpniflmblaaDoor
open Go.RowKit
set_option maxRecDepth 100000
set_option linter.unusedVariables false
set_option linter.unusedSimpArgs false

set_option maxHeartbeats 1000000 in
theorem node_any (a b : List Nat) (ha : H32 a) (hb : H32 b) (base : Nat) (tv : Value) (N : List (List Nat)) (w : World) (ht : Tab w) (h0 : 0 < base) (hbw : base ≤ w.heap.size) (htp : TpAt w base tv N) (hN : N.length ≤ 1000) :
    Calls Tryd.prog 24 #[tv, .agg (bytesL a), .agg (bytesL b)] w fun e w' => e = .returned (.agg (bytesL (hsh (msgN a b)))) ∧ TpAt w' base tv (N ++ [msgN a b]) ∧ TStep base w w' := by
  obtain ⟨pt, rfl⟩ := htp.form
  have HT : Hid (Tab w) := ht
  have hml := msgN_len ha hb
  have h32 := hsh_32 (msgN a b)
  generalize hH : hsh (msgN a b) = H at *
  have HH : Hid (hashF KW (msgN a b) = H) := hH
  have hsz : (Tryd.prog.info? 28).map (·.size) = some (bytesL H).size := by rw [bytesL_size, h32.1]; exact info_hash
  have hsa : (bytesL a).size = 32 := by rw [bytesL_size, ha.1]
  have hsb : (bytesL b).size = 32 := by rw [bytesL_size, hb.1]
  have ra0 := Row.new w (bytesL a) 28 rfl
  have rb0 := Row.new (w.alloc (.cells (bytesL a) 28)) (bytesL b) 28 rfl
  have rz0 := Row.new ((w.alloc (.cells (bytesL a) 28)).alloc (.cells (bytesL b) 28)) (bytesL (List.replicate 32 0)) 28 rfl
  have B3 := below3 w (.cells (bytesL a) 28) (.cells (bytesL b) 28) (.cells (bytesL (List.replicate 32 0)) 28)
  have ra := (ra0.alloc (.cells (bytesL b) 28)).alloc (.cells (bytesL (List.replicate 32 0)) 28)
  have rb := rb0.alloc (.cells (bytesL (List.replicate 32 0)) 28)
  clear ht hH ra0 rb0
  generalize hca : bytesL a = ca at *
  generalize hcb : bytesL b = cb at *
  go_enter Tryd.func24, Tryd.ntmps24
  go_wp2_with fail
  rw [zeros32b]
  have s1 : (w.alloc (.cells ca 28)).heap.size = w.heap.size + 1 := by simp
  have s2 : ((w.alloc (.cells ca 28)).alloc (.cells cb 28)).heap.size = w.heap.size + 1 + 1 := by simp
  have s3 : (((w.alloc (.cells ca 28)).alloc (.cells cb 28)).alloc (.cells (bytesL (List.replicate 32 0)) 28)).heap.size = w.heap.size + 3 := by simp
  rw [s1] at rb
  rw [s2] at rz0
  refine wp_region_D (fun _ => true) (fun _ => True) (by kernel_rfl) ?_
  have hS : (fun _ : World => True) (((w.alloc (.cells ca 28)).alloc (.cells cb 28)).alloc (.cells (bytesL (List.replicate 32 0)) 28)).drew := trivial
  generalize hw3 : ((w.alloc (.cells ca 28)).alloc (.cells cb 28)).alloc (.cells (bytesL (List.replicate 32 0)) 28) = w3 at *
  have ra3 : Row w3.drew w.heap.size ca 28 := ra
  have rb3 : Row w3.drew (w.heap.size + 1) cb 28 := rb
  have rz3 : Row w3.drew (w.heap.size + 1 + 1) (bytesL (List.replicate 32 0)) 28 := rz0
  have B4 : Below w.heap.size w w3.drew := B3.drew
  have s4 : w3.drew.heap.size = w.heap.size + 3 := s3
  clear hw3 ra rb rz0 B3 s1 s2 s3
  generalize w3.drew = wd at *
  have l1 : BytesAt (wd.alloc (.cells #[.int .u8 1] 5)) (.slice (some ⟨wd.heap.size, 0, none⟩) 1 1) [1] := (Row.new wd _ _ rfl : Row (wd.alloc (.cells (bytesL [1]) 5)) wd.heap.size (bytesL [1]) 5).bytes (by intro x hx; simp at hx; omega) (by unfold maxLen; decide) 1 1 rfl
  have la : BytesAt (wd.alloc (.cells #[.int .u8 1] 5)) (.slice (some ⟨w.heap.size, 0, none⟩) 32 32) a := (show Row _ w.heap.size (bytesL a) 28 by rw [hca]; exact ra3.alloc _).bytes ha.2 (by rw [ha.1]; decide) 32 32 ha.1.symm
  have lb : BytesAt (wd.alloc (.cells #[.int .u8 1] 5)) (.slice (some ⟨w.heap.size + 1, 0, none⟩) 32 32) b := (show Row _ (w.heap.size + 1) (bytesL b) 28 by rw [hcb]; exact rb3.alloc _).bytes hb.2 (by rw [hb.1]; decide) 32 32 hb.1.symm
  have hP := parts3 (wd.alloc (.cells #[.int .u8 1] 5)) 37 l1 la lb 3
  have s5 : (wd.alloc (.cells #[.int .u8 1] 5)).heap.size = wd.heap.size + 1 := by simp
  rw [s5] at hP
  have b5 := chain B4 (below2 wd (.cells #[.int .u8 1] 5) (.cells #[.slice (some ⟨wd.heap.size, 0, none⟩) 1 1, .slice (some ⟨w.heap.size, 0, none⟩) 32 32, .slice (some ⟨w.heap.size + 1, 0, none⟩) 32 32] 37))
  rw [s4] at hP b5
  clear l1 la lb
  refine' wpAnyD_take (i := 0) (v := _) rfl (by kernel_rfl) (by kernel_rfl) (by kernel_rfl) (by kernel_rfl) (fun _ _ _ h => h) (Or.inl ⟨by rfl, ?hy1⟩) hS ?re1
  case hy1 => (intro w hSw; (try dsimp only at hSw); go_simp; (try with_reducible rfl))
  simp only [Act.put, List.setIfInBounds_toArray, List.set_cons_zero, List.set_cons_succ]
  refine' wpAnyD_take (i := 2) (v := _) rfl (by kernel_rfl) (by kernel_rfl) (by kernel_rfl) (by kernel_rfl) (fun _ _ _ h => h) (Or.inl ⟨by rfl, ?hy2⟩) hS ?re2
  case hy2 => (intro w hSw; (try dsimp only at hSw); go_simp; (try with_reducible rfl))
  simp only [Act.put, List.setIfInBounds_toArray, List.set_cons_zero, List.set_cons_succ]
  refine' wpAnyD_take (i := 3) (v := _) rfl (by kernel_rfl) (by kernel_rfl) (by kernel_rfl) (by kernel_rfl) (fun _ _ _ h => h) (Or.inl ⟨by rfl, ?hy3⟩) hS ?re3
  case hy3 => (intro w hSw; (try dsimp only at hSw); go_simp; (try with_reducible rfl))
  simp only [Act.put, List.setIfInBounds_toArray, List.set_cons_zero, List.set_cons_succ]
  refine wpAnyD_only (i := 1) rfl (by kernel_rfl) (by rfl) (fun K hK => ?_)
  go_simp
  try dsimp only
  have hSn := trivial
  refine hK.out _ _ (fun _ => hSn) ?_
  clear hK K hS
  have hS := hSn
  clear hSn
  try simp only [Act.put, List.setIfInBounds_toArray, List.set_cons_zero, List.set_cons_succ]
  refine wpAnyD_only (i := 4) rfl (by kernel_rfl) (by rfl) (fun K hK => ?_)
  go_simp
  try dsimp only
  have hSn := trivial
  refine hK.out _ _ (fun _ => hSn) ?_
  clear hK K hS
  have hS := hSn
  clear hSn
  try simp only [Act.put, List.setIfInBounds_toArray, List.set_cons_zero, List.set_cons_succ]
  refine wpAnyD_only (i := 5) rfl (by kernel_rfl) (by rfl) (fun K hK => ?_)
  go_simp
  refine (of_tp _ [[1], a, b] (msgN a b) H base _ N _ hP (by simp [msgN]) (by rw [hml]; decide) (HT.out.later b5) h0 (by have := b5.size; omega) HH.out (htp.later b5) hN).mono ?_
  rintro e w7 ⟨rfl, ht7, hs7⟩
  have r7 : Row w7 (w.heap.size + 1 + 1) (bytesL (List.replicate 32 0)) 28 := ((rz3.alloc _).alloc _).tstep hs7 (by decide) (by decide)
  have hs8 := (TStep.of b5).trans hs7
  try dsimp only
  have hSn := trivial
  refine hK.out _ _ (fun _ => hSn) ?_
  clear hK K hS
  have hS := hSn
  clear hSn
  try simp only [Act.put, List.setIfInBounds_toArray, List.set_cons_zero, List.set_cons_succ]
  refine wpAnyD_only (i := 6) rfl (by kernel_rfl) (by rfl) (fun K hK => ?_)
  refine wp_store_row 28 _ _ rfl (w.heap.size + 1 + 1) (bytesL H) rfl rfl 28 _ r7 hsz (by simp [bytesL_size, h32.1]) (bytesL_one _) ?_
  refine hK.out _ _ (fun _ => trivial) ?_
  refine wpAnyD_done (by kernel_rfl) ?_ _
  clear hP hS hs7 rz3 ra3 rb3 b5 B4 s4 s5 htp
  go_wp2
  refine bodyPost_ret (v := .agg (bytesL H)) (results_cell_row Tryd.results24 _ _ (w.heap.size + 1 + 1) 28 (bytesL H) (0, 0) _ ?hp ?hg Tryd.underlying28 rfl hsz) rfl ⟨rfl, ?_, ?_⟩
  case hp => rfl
  case hg => exact r7.setRow _
  · exact ht7.setNew r7 (by decide) (by decide) (by decide) _
  · exact hs8.setNew (by omega) _
end Go.Proofs.YtepohpniflmblaaDoor
