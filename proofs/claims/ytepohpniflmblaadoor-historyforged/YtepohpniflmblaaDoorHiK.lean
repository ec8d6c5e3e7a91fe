
/-
  history's joined and Climb, with a tape or none. For at most 64 leaves.
-/
import Derived.Test.YtepohpniflmblaaDoorHiI
namespace Go.Proofs.YtepohpniflmblaaDoor
open Go.RowKit
set_option maxRecDepth 100000
set_option linter.unusedVariables false
set_option linter.unusedSimpArgs false

/-- What is hashed of a hash and the one beside it. -/
def joinL (x : Sd) (h b : List Nat) : List Nat := if x.l then msgN b h else msgN h b
set_option maxHeartbeats 4000000 in
theorem joined_any (x : Sd) (h b : List Nat) (hh : H32 h) (hb : H32 b) (base : Nat) (tv : Value) (N : List (List Nat)) (w : World) (ht : Tab w) (h0 : 0 < base) (hbw : base ≤ w.heap.size) (htp : TpAt w base tv N) (hN : N.length ≤ 1000) :
    Calls Tryd.prog 30 #[tv, .agg x.v, .agg (bytesL h), .agg (bytesL b)] w fun e w' => e = .returned (.agg (bytesL (hsh (joinL x h b)))) ∧ TpAt w' base tv (N ++ [joinL x h b]) ∧ TStep base w w' := by
  obtain ⟨pt, rfl⟩ := htp.form
  obtain ⟨f, t, l⟩ := x
  have HT : Hid (Tab w) := ht
  have iH := info_h32 hh
  have iB := info_h32 hb
  have rx := Row.new w (Sd.v ⟨f, t, l⟩) 56 rfl
  have rh := Row.new (w.alloc (.cells (Sd.v ⟨f, t, l⟩) 56)) (bytesL h) 28 rfl
  have rb := Row.new ((w.alloc (.cells (Sd.v ⟨f, t, l⟩) 56)).alloc (.cells (bytesL h) 28)) (bytesL b) 28 rfl
  have rz := Row.new (((w.alloc (.cells (Sd.v ⟨f, t, l⟩) 56)).alloc (.cells (bytesL h) 28)).alloc (.cells (bytesL b) 28)) (bytesL (List.replicate 32 0)) 28 rfl
  have rh := (rh.alloc (.cells (bytesL b) 28)).alloc (.cells (bytesL (List.replicate 32 0)) 28)
  have rb := rb.alloc (.cells (bytesL (List.replicate 32 0)) 28)
  have b4 := chainA (below3 w (.cells (Sd.v ⟨f, t, l⟩) 56) (.cells (bytesL h) 28) (.cells (bytesL b) 28)) (.cells (bytesL (List.replicate 32 0)) 28)
  have s1 : (w.alloc (.cells (Sd.v ⟨f, t, l⟩) 56)).heap.size = w.heap.size + 1 := by simp
  have s2 : ((w.alloc (.cells (Sd.v ⟨f, t, l⟩) 56)).alloc (.cells (bytesL h) 28)).heap.size = w.heap.size + 1 + 1 := by simp
  have s3 : (((w.alloc (.cells (Sd.v ⟨f, t, l⟩) 56)).alloc (.cells (bytesL h) 28)).alloc (.cells (bytesL b) 28)).heap.size = w.heap.size + 1 + 1 + 1 := by simp
  rw [s1] at rh
  rw [s2] at rb
  rw [s3] at rz
  clear s1 s2 s3 ht rx
  have hsH : (bytesL h).size = 32 := by rw [bytesL_size, hh.1]
  have hsB : (bytesL b).size = 32 := by rw [bytesL_size, hb.1]
  generalize hrh : bytesL h = ch at *
  generalize hrb : bytesL b = cb at *
  have HRH : Hid (bytesL h = ch) := hrh
  have HRB : Hid (bytesL b = cb) := hrb
  clear hrh hrb
  unfold Sd.v at *
  simp only at *
  rw [← zeros32b] at rh rb rz b4
  go_enter Tryd.func30, Tryd.ntmps30
  cases l with
  | true =>
    go_wp2_with (first | (refine wpList_load_row rfl 28 _ rfl (w.heap.size + 1 + 1) rfl 28 cb (0, 0) _ rb Tryd.underlying28 rfl iB ?_) | (refine wpList_load_row rfl 28 _ rfl (w.heap.size + 1) rfl 28 ch (0, 0) _ rh Tryd.underlying28 rfl iH ?_) | (go_at_call 24; refine stop ?_))
    rw [zeros32b] at rz b4 ⊢
    rw [← HRH.out, ← HRB.out] at rz b4 ⊢
    refine (node_any b h hb hh base _ N _ (HT.out.later b4) h0 (by have := b4.size; omega) (htp.later b4) hN).mono ?_
    rintro e w5 ⟨rfl, htp5, hs5⟩
    have r5 := rz.tstep hs5 (by decide) (by decide)
    have hs6 := (TStep.of b4).trans hs5
    have h32 := hsh_32 (msgN b h)
    have hzz := z32_size h32
    have hone := bytesL_one (hsh (msgN b h))
    have iH5 := info_h32 h32
    clear rh rb rz b4 hs5
    generalize hH : hsh (msgN b h) = H at *
    have HHq : Hid (hsh (msgN b h) = H) := hH
    clear hH
    go_wp2_with (refine wpList_store_row rfl 28 _ _ rfl (w.heap.size + 1 + 1 + 1) (bytesL H) rfl rfl 28 _ r5 iH5 hzz hone ?_)
    refine bodyPost_ret (v := .agg (bytesL H)) (results_cell_row Tryd.results30 _ _ (w.heap.size + 1 + 1 + 1) 28 (bytesL H) (0, 0) _ ?hp ?hg Tryd.underlying28 rfl iH5) rfl ⟨by rw [← HHq.out]; rfl, ?_, ?_⟩
    case hp => rfl
    case hg => exact r5.setRow _
    · exact htp5.setNew r5 (by decide) (by decide) (by decide) _
    · exact hs6.setNew (by omega) _
  | false =>
    go_wp2_with (first | (refine wpList_load_row rfl 28 _ rfl (w.heap.size + 1 + 1) rfl 28 cb (0, 0) _ rb Tryd.underlying28 rfl iB ?_) | (refine wpList_load_row rfl 28 _ rfl (w.heap.size + 1) rfl 28 ch (0, 0) _ rh Tryd.underlying28 rfl iH ?_) | (go_at_call 24; refine stop ?_))
    rw [zeros32b] at rz b4 ⊢
    rw [← HRH.out, ← HRB.out] at rz b4 ⊢
    refine (node_any h b hh hb base _ N _ (HT.out.later b4) h0 (by have := b4.size; omega) (htp.later b4) hN).mono ?_
    rintro e w5 ⟨rfl, htp5, hs5⟩
    have r5 := rz.tstep hs5 (by decide) (by decide)
    have hs6 := (TStep.of b4).trans hs5
    have h32 := hsh_32 (msgN h b)
    have hzz := z32_size h32
    have hone := bytesL_one (hsh (msgN h b))
    have iH5 := info_h32 h32
    clear rh rb rz b4 hs5
    generalize hH : hsh (msgN h b) = H at *
    have HHq : Hid (hsh (msgN h b) = H) := hH
    clear hH
    go_wp2_with (refine wpList_store_row rfl 28 _ _ rfl (w.heap.size + 1 + 1 + 1) (bytesL H) rfl rfl 28 _ r5 iH5 hzz hone ?_)
    refine bodyPost_ret (v := .agg (bytesL H)) (results_cell_row Tryd.results30 _ _ (w.heap.size + 1 + 1 + 1) 28 (bytesL H) (0, 0) _ ?hp ?hg Tryd.underlying28 rfl iH5) rfl ⟨by rw [← HHq.out]; rfl, ?_, ?_⟩
    case hp => rfl
    case hg => exact r5.setRow _
    · exact htp5.setNew r5 (by decide) (by decide) (by decide) _
    · exact hs6.setNew (by omega) _
end Go.Proofs.YtepohpniflmblaaDoor
