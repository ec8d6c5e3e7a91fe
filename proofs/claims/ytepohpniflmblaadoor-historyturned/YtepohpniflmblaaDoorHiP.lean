
/-
  The law's own root.
-/
import Derived.Test.YtepohpniflmblaaDoorHiN
import Derived.Test.YtepohpniflmblaaDoorHiO
namespace Go.Proofs.YtepohpniflmblaaDoor
open Go.RowKit
set_option maxRecDepth 100000
set_option linter.unusedVariables false
set_option linter.unusedSimpArgs false

/-- What stands behind the two roots of the law's own. -/
def LrC (w1 wc : World) (g2 : Nat) (A B : List Nat) (u v : Value) : Prop := ∃ g6 g7, u = .pointer (some ⟨g6, 0, none⟩) ∧ v = .pointer (some ⟨g7, 0, none⟩) ∧ Row wc g6 (bytesL A) 28 ∧ Row wc g7 (bytesL B) 28 ∧ Row wc g2 (bytesL (List.replicate 32 0)) 28 ∧ Below w1.heap.size w1 wc
set_option maxHeartbeats 40000000 in
theorem lroot_any : ∀ (n : Nat) (v : Value) (L : List (List Nat)) (w : World), L.length ≤ n → L.length ≤ 64 → HsAt w v L → Tab w →
    Calls Tryd.prog 16 #[v] w fun e w' => e = .returned (.agg (bytesL (rootL L))) ∧ Below w.heap.size w w' := by
  intro n
  induction n with
  | zero =>
    intro v L w hn h64 hv ht
    obtain ⟨p, c, rfl, hc1, hc2⟩ := hv.form
    obtain rfl : L = [] := List.eq_nil_of_length_eq_zero (by omega)
    have HT : Hid (Tab w) := ht
    have r0 := Row.new w (bytesL (List.replicate 32 0)) 28 rfl
    have b1 := below1 w (.cells (bytesL (List.replicate 32 0)) 28)
    have HT1 : Hid (Tab (w.alloc (.cells (bytesL (List.replicate 32 0)) 28))) := HT.out.later b1
    have hv1 := hv.later b1
    have HV1 : Hid (HsAt (w.alloc (.cells (bytesL (List.replicate 32 0)) 28)) (.slice p (([] : List (List Nat))).length c) (([] : List (List Nat)))) := hv1
    have HB1 : Hid (Below w.heap.size w (w.alloc (.cells (bytesL (List.replicate 32 0)) 28))) := b1
    clear hv ht hv1 b1
    go_enter Tryd.func16, Tryd.ntmps16
    go_wp2_with (go_at_call 25; refine stop ?_)
    rw [zeros32b]
    refine (of_e _ [] [] _ (parts0 _) rfl (by simp) HT1.out).mono ?_
    rintro e w2 ⟨rfl, hb2⟩
    have r2 := r0.later hb2
    have hbb := chain HB1.out hb2
    have h32 := hsh_32 []
    have HHq : Hid (∃ H, hsh [] = H) := ⟨_, rfl⟩
    obtain ⟨H, hH⟩ := HHq.out
    rw [hH] at h32 ⊢
    clear HHq
    have HHq : Hid (rootL [] = H) := rootL_nil.trans hH
    clear hH r0 hb2
    have iH := info_h32 h32
    have zH := z32_size h32
    have oH := bytesL_one H
    clear h32
    go_wp2_with (refine wpList_store_row rfl 28 _ _ rfl w.heap.size (bytesL H) rfl rfl 28 _ r2 iH zH oH ?_)
    refine bodyPost_ret (v := .agg (bytesL H)) (results_cell_row Tryd.results16 _ _ w.heap.size 28 (bytesL H) (0, 0) _ ?hp ?hg Tryd.underlying28 rfl iH) rfl ⟨by rw [HHq.out], Below.row hbb _ (Nat.le_refl _)⟩
    case hp => rfl
    case hg => exact r2.setRow _
  | succ n ih =>
    intro v L w hn h64 hv ht
    obtain ⟨p, c, rfl, hc1, hc2⟩ := hv.form
    by_cases e0 : L.length = 0
    · obtain rfl := List.eq_nil_of_length_eq_zero e0
      clear e0
      have HT : Hid (Tab w) := ht
      have r0 := Row.new w (bytesL (List.replicate 32 0)) 28 rfl
      have b1 := below1 w (.cells (bytesL (List.replicate 32 0)) 28)
      have HT1 : Hid (Tab (w.alloc (.cells (bytesL (List.replicate 32 0)) 28))) := HT.out.later b1
      have hv1 := hv.later b1
      have HV1 : Hid (HsAt (w.alloc (.cells (bytesL (List.replicate 32 0)) 28)) (.slice p (([] : List (List Nat))).length c) (([] : List (List Nat)))) := hv1
      have HB1 : Hid (Below w.heap.size w (w.alloc (.cells (bytesL (List.replicate 32 0)) 28))) := b1
      clear hv ht hv1 b1
      go_enter Tryd.func16, Tryd.ntmps16
      go_wp2_with (go_at_call 25; refine stop ?_)
      rw [zeros32b]
      refine (of_e _ [] [] _ (parts0 _) rfl (by simp) HT1.out).mono ?_
      rintro e w2 ⟨rfl, hb2⟩
      have r2 := r0.later hb2
      have hbb := chain HB1.out hb2
      have h32 := hsh_32 []
      have HHq : Hid (∃ H, hsh [] = H) := ⟨_, rfl⟩
      obtain ⟨H, hH⟩ := HHq.out
      rw [hH] at h32 ⊢
      clear HHq
      have HHq : Hid (rootL [] = H) := rootL_nil.trans hH
      clear hH r0 hb2
      have iH := info_h32 h32
      have zH := z32_size h32
      have oH := bytesL_one H
      clear h32
      go_wp2_with (refine wpList_store_row rfl 28 _ _ rfl w.heap.size (bytesL H) rfl rfl 28 _ r2 iH zH oH ?_)
      refine bodyPost_ret (v := .agg (bytesL H)) (results_cell_row Tryd.results16 _ _ w.heap.size 28 (bytesL H) (0, 0) _ ?hp ?hg Tryd.underlying28 rfl iH) rfl ⟨by rw [HHq.out], Below.row hbb _ (Nat.le_refl _)⟩
      case hp => rfl
      case hg => exact r2.setRow _
    · by_cases e1 : L.length = 1
      · obtain ⟨a, rfl⟩ := List.length_eq_one_iff.1 e1
        clear e0 e1 ih hn h64
        have HT : Hid (Tab w) := ht
        have r0 := Row.new w (bytesL (List.replicate 32 0)) 28 rfl
        have b1 := below1 w (.cells (bytesL (List.replicate 32 0)) 28)
        have HT1 : Hid (Tab (w.alloc (.cells (bytesL (List.replicate 32 0)) 28))) := HT.out.later b1
        have hv1 := hv.later b1
        have HV1 : Hid (HsAt (w.alloc (.cells (bytesL (List.replicate 32 0)) 28)) (.slice p ([a]).length c) ([a])) := hv1
        have HB1 : Hid (Below w.heap.size w (w.alloc (.cells (bytesL (List.replicate 32 0)) 28))) := b1
        clear hv ht hv1 b1
        obtain ⟨g, o, e, hg, hr, h32⟩ := HV1.out.at (i := 0) (by simp)
        cases e
        simp only [List.getD_cons_zero, Nat.zero_mul, Nat.add_zero] at hr h32
        have hbb := HB1.out
        have r2 := r0
        have HHq : Hid (rootL [a] = a) := rootL_one a
        obtain ⟨H, rfl⟩ : ∃ H, H = a := ⟨_, rfl⟩
        have lh : (Tryd.prog.info? 28).map (·.size) = some (bytesL H).toList.length := by rw [Array.length_toList]; exact info_h32 h32
        have iH := info_h32 h32
        have zH := z32_size h32
        have oH := bytesL_one H
        clear h32
        clear r0
        go_enter Tryd.func16, Tryd.ntmps16
        rw [← zeros32b] at r2 hr zH hbb
        go_wp2_with (first | refine wpList_load_mid rfl 28 _ rfl g o rfl (bytesL H).toList _ hr Tryd.underlying28 rfl lh ?_ | refine wpList_store_row rfl 28 _ _ rfl w.heap.size (bytesL H) rfl rfl 28 _ r2 iH zH oH ?_)
        refine bodyPost_ret (v := .agg (bytesL H)) (results_cell_row Tryd.results16 _ _ w.heap.size 28 (bytesL H) (0, 0) _ ?hp ?hg Tryd.underlying28 rfl iH) rfl ⟨by rw [HHq.out], Below.row hbb _ (Nat.le_refl _)⟩
        case hp => rfl
        case hg => exact r2.setRow _
      · have HC0 : Hid (L.length ≤ n + 1 ∧ L.length ≤ 64 ∧ 2 ≤ L.length) := ⟨hn, h64, by omega⟩
        have l64 : (L.length : Int) ≤ 64 := by omega
        have l2 : (2 : Int) ≤ (L.length : Int) := by omega
        have l0' : ((L.length : Int) == 0) = false := by rw [beq_eq_false_iff_ne]; omega
        have l1' : ((L.length : Int) == 1) = false := by rw [beq_eq_false_iff_ne]; omega
        clear e0 e1 hn h64
        have hok := hv.ok
        have HT : Hid (Tab w) := ht
        have r0 := Row.new w (bytesL (List.replicate 32 0)) 28 rfl
        have b1 := below1 w (.cells (bytesL (List.replicate 32 0)) 28)
        have HT1 : Hid (Tab (w.alloc (.cells (bytesL (List.replicate 32 0)) 28))) := HT.out.later b1
        have hv1 := hv.later b1
        have HV1 : Hid (HsAt (w.alloc (.cells (bytesL (List.replicate 32 0)) 28)) (.slice p (L).length c) (L)) := hv1
        have HB1 : Hid (Below w.heap.size w (w.alloc (.cells (bytesL (List.replicate 32 0)) 28))) := b1
        clear hv ht hv1 b1
        go_enter Tryd.func16, Tryd.ntmps16
        go_wp2
        rw [zeros32b]
        have s1 : (w.alloc (.cells (bytesL (List.replicate 32 0)) 28)).heap.size = w.heap.size + 1 := by simp
        generalize w.alloc (.cells (bytesL (List.replicate 32 0)) 28) = w1 at *
        have HG2 : Hid (w.heap.size < w1.heap.size) := by show _ < _; omega
        clear s1
        go_loopw [3] (fun a wr => wr = w1 ∧ ∃ s P : Nat, P = 2 ^ s ∧ P < L.length ∧ a = .int .i64 P) (fun a _ => L.length - (intOf a).toNat)
        case atStart => exact ⟨rfl, 0, 1, rfl, by have := HC0.out.2.2; omega, rfl⟩
        case round =>
          obtain ⟨rfl, s, P, hPs, hPL, rfl⟩ := hrel
          have pp0 : (0 : Int) < (P : Int) := by have := Nat.one_le_two_pow (n := s); omega
          have pp1 : (P : Int) ≤ 64 := by omega
          have HP : Hid (P = 2 ^ s ∧ P < L.length) := ⟨hPs, hPL⟩
          clear hPs hPL
          by_cases c2 : P * 2 < L.length
          · have c2' : (P : Int) * 2 < (L.length : Int) := by omega
            have HC2 : Hid (P * 2 < L.length) := c2
            clear c2
            go_wp2
            go_roundw
            case rel => exact ⟨by first | rfl | trivial, s + 1, P * 2, by rw [HP.out.1, Nat.pow_succ], HC2.out, by go_num⟩
            case measure => simp [intOf]; have := HC2.out; omega
          · have c2' : ¬ (P : Int) * 2 < (L.length : Int) := by omega
            have HC : Hid (P < L.length ∧ L.length ≤ 2 * P ∧ L.length ≤ n + 1 ∧ L.length ≤ 64 ∧ 1 ≤ P) := ⟨HP.out.2, by omega, HC0.out.1, HC0.out.2.1, by omega⟩
            have kc : (P : Int) ≤ (c : Int) := by have := HC.out.1; omega
            have kcn : P ≤ c := by have := HC.out.1; omega
            have kln : P ≤ L.length := by have := HC.out.1; omega
            have pli : (P : Int) ≤ (L.length : Int) := by omega
            have Lc : (L.length : Int) ≤ (c : Int) := by omega
            have knc : ¬ c = P := by have := HC.out.1; omega
            clear c2
            have HDR : Hid (∀ wx, Below wr.heap.size wr wx → HsAt wx (.slice (p.map (·.add (P * 32))) (L.length - P) (c - P)) (L.drop P)) := fun wx hb => by
              have h := (HV1.out.later hb).drop P (by have := HC.out; omega)
              rw [if_neg (by have := HC.out; omega)] at h
              exact h
            have hoA := root_32 _ (L.take P) (Nat.le_refl _) (fun l hl => hok l (List.mem_of_mem_take hl))
            have hoB := root_32 _ (L.drop P) (Nat.le_refl _) (fun l hl => hok l (List.mem_of_mem_drop hl))
            have HAB : Hid ((Tryd.prog.info? 28).map (·.size) = some (bytesL (rootL (L.take P))).size ∧ (bytesL (List.replicate 32 0)).size = (bytesL (rootL (L.take P))).size ∧ (Tryd.prog.info? 28).map (·.size) = some (bytesL (rootL (L.drop P))).size ∧ (bytesL (List.replicate 32 0)).size = (bytesL (rootL (L.drop P))).size) := ⟨info_h32 hoA, z32_size hoA, info_h32 hoB, z32_size hoB⟩
            have HOK : Hid (H32 (rootL (L.take P)) ∧ H32 (rootL (L.drop P))) := ⟨hoA, hoB⟩
            clear hoA hoB
            go_wp2_with fail
            go_cut [4, 5, 23, 24, 25, 26, 27, 28, 29, 30] (fun t4 t5 t23 t24 t25 t26 t27 t28 t29 t30 wc => LrC wr wc w.heap.size (rootL (L.take P)) (rootL (L.drop P)) t4 t5)
            case first =>
              refine wp_region_D (fun _ => true) (fun _ => True) (by kernel_rfl) ?_
              have hS : (fun _ : World => True) wr.drew := trivial
              have hbw := (Below.refl wr.heap.size wr).drew
              have r2 : Row wr.drew w.heap.size (bytesL (List.replicate 32 0)) 28 := r0
              generalize wr.drew = wd at *
              refine' wpAnyD_take (i := 0) (v := _) rfl (by kernel_rfl) (by kernel_rfl) (by kernel_rfl) (by kernel_rfl) (fun _ _ _ h => h) (Or.inl ⟨by rfl, ?hy1⟩) hS ?re1
              case hy1 => (intro w hSw; (try dsimp only at hSw); go_simp; (try with_reducible rfl))
              simp only [Act.put, List.setIfInBounds_toArray, List.set_cons_zero, List.set_cons_succ]
              refine' wpAnyD_take (i := 1) (v := _) rfl (by kernel_rfl) (by kernel_rfl) (by kernel_rfl) (by kernel_rfl) (fun _ _ _ h => h) (Or.inl ⟨by rfl, ?hy2⟩) hS ?re2
              case hy2 => (intro w hSw; (try dsimp only at hSw); go_simp; (try with_reducible rfl))
              simp only [Act.put, List.setIfInBounds_toArray, List.set_cons_zero, List.set_cons_succ]
              refine' wpAnyD_take (i := 2) (v := _) rfl (by kernel_rfl) (by kernel_rfl) (by kernel_rfl) (by kernel_rfl) (fun _ _ _ h => h) (Or.inl ⟨by rfl, ?hy3⟩) hS ?re3
              case hy3 => (intro w hSw; (try dsimp only at hSw); go_simp; (try with_reducible rfl))
              simp only [Act.put, List.setIfInBounds_toArray, List.set_cons_zero, List.set_cons_succ]
              refine' wpAnyD_take (i := 4) (v := _) rfl (by kernel_rfl) (by kernel_rfl) (by kernel_rfl) (by kernel_rfl) (fun _ _ _ h => h) (Or.inl ⟨by rfl, ?hy4⟩) hS ?re4
              case hy4 => (intro w hSw; (try dsimp only at hSw); go_simp; (try with_reducible rfl))
              simp only [Act.put, List.setIfInBounds_toArray, List.set_cons_zero, List.set_cons_succ]
              refine' wpAnyD_take (i := 5) (v := _) rfl (by kernel_rfl) (by kernel_rfl) (by kernel_rfl) (by kernel_rfl) (fun _ _ _ h => h) (Or.inl ⟨by rfl, ?hy5⟩) hS ?re5
              case hy5 => (intro w hSw; (try dsimp only at hSw); go_simp; (try with_reducible rfl))
              simp only [Act.put, List.setIfInBounds_toArray, List.set_cons_zero, List.set_cons_succ]
              refine' wpAnyD_take (i := 6) (v := _) rfl (by kernel_rfl) (by kernel_rfl) (by kernel_rfl) (by kernel_rfl) (fun _ _ _ h => h) (Or.inl ⟨by rfl, ?hy6⟩) hS ?re6
              case hy6 => (intro w hSw; (try dsimp only at hSw); go_simp; (try with_reducible rfl))
              simp only [Act.put, List.setIfInBounds_toArray, List.set_cons_zero, List.set_cons_succ]
              refine wpAnyD_all (rs := [3, 8, 9]) (by kernel_rfl) (by simp) ?_
              refine AllD.cons (i := 3) rfl (by rfl) (fun K hK => ?_) ?_
              · skip
                go_simp
                refine (ih _ (L.take P) wd (by rw [List.length_take]; have := HC.out; omega) (by rw [List.length_take]; have := HC.out; omega) ((HV1.out.later hbw).take P (by have := HC.out; omega)) (HT1.out.later hbw)).mono ?_
                rintro e wn ⟨rfl, hbn⟩
                try replace r6 := r6.later hbn
                try replace r2 := r2.later hbn
                try replace r7 := r7.later hbn
                replace hbw := hbw.trans (hbn.mono hbw.size)
                refine hK.out _ _ (fun _ => trivial) ?_
                clear hK K hbn
                obtain ⟨wd, rfl⟩ : ∃ wx, wx = wn := ⟨_, rfl⟩
                try simp only [Act.put, List.setIfInBounds_toArray, List.set_cons_zero, List.set_cons_succ]
                refine wpAnyD_all (rs := [7, 8, 9]) (by kernel_rfl) (by simp) ?_
                refine AllD.cons (i := 7) rfl (by rfl) (fun K hK => ?_) ?_
                · skip
                  go_simp
                  refine (ih _ (L.drop P) wd (by rw [List.length_drop]; have := HC.out; omega) (by rw [List.length_drop]; have := HC.out; omega) (HDR.out _ hbw) (HT1.out.later hbw)).mono ?_
                  rintro e wn ⟨rfl, hbn⟩
                  try replace r6 := r6.later hbn
                  try replace r2 := r2.later hbn
                  try replace r7 := r7.later hbn
                  replace hbw := hbw.trans (hbn.mono hbw.size)
                  refine hK.out _ _ (fun _ => trivial) ?_
                  clear hK K hbn
                  obtain ⟨wd, rfl⟩ : ∃ wx, wx = wn := ⟨_, rfl⟩
                  try simp only [Act.put, List.setIfInBounds_toArray, List.set_cons_zero, List.set_cons_succ]
                  refine wpAnyD_all (rs := [8, 9]) (by kernel_rfl) (by simp) ?_
                  refine AllD.cons (i := 8) rfl (by rfl) (fun K hK => ?_) ?_
                  · skip
                    go_simp
                    rw [zeros32b]
                    try have hne := r7.lt
                    try replace r7 := r7.alloc (.cells (bytesL (List.replicate 32 0)) 28)
                    have hg6 := hbw.size
                    have r6 := Row.new wd (bytesL (List.replicate 32 0)) 28 rfl
                    replace r2 := r2.alloc (.cells (bytesL (List.replicate 32 0)) 28)
                    replace hbw := chainA hbw (.cells (bytesL (List.replicate 32 0)) 28)
                    refine hK.out _ _ (fun _ => trivial) ?_
                    clear hK K
                    generalize wd.alloc (.cells (bytesL (List.replicate 32 0)) 28) = wn at *
                    generalize wd.heap.size = g6 at *
                    clear wd
                    obtain ⟨wd, rfl⟩ : ∃ wx, wx = wn := ⟨_, rfl⟩
                    try simp only [Act.put, List.setIfInBounds_toArray, List.set_cons_zero, List.set_cons_succ]
                    refine wpAnyD_only (i := 9) rfl (by kernel_rfl) (by rfl) (fun K hK => ?_)
                    go_simp
                    rw [zeros32b]
                    try have hne := r6.lt
                    try replace r6 := r6.alloc (.cells (bytesL (List.replicate 32 0)) 28)
                    have hg7 := hbw.size
                    have r7 := Row.new wd (bytesL (List.replicate 32 0)) 28 rfl
                    replace r2 := r2.alloc (.cells (bytesL (List.replicate 32 0)) 28)
                    replace hbw := chainA hbw (.cells (bytesL (List.replicate 32 0)) 28)
                    refine hK.out _ _ (fun _ => trivial) ?_
                    clear hK K
                    generalize wd.alloc (.cells (bytesL (List.replicate 32 0)) 28) = wn at *
                    generalize wd.heap.size = g7 at *
                    clear wd
                    obtain ⟨wd, rfl⟩ : ∃ wx, wx = wn := ⟨_, rfl⟩
                    try simp only [Act.put, List.setIfInBounds_toArray, List.set_cons_zero, List.set_cons_succ]
                    refine wpAnyD_only (i := 10) rfl (by kernel_rfl) (by rfl) (fun K hK => ?_)
                    refine wp_store_row 28 _ _ rfl g6 (bytesL (rootL (L.take P))) rfl rfl 28 _ r6 HAB.out.1 HAB.out.2.1 (bytesL_one _) ?_
                    refine hK.out _ _ (fun _ => trivial) ?_
                    clear hK K
                    refine wpAnyD_only (i := 11) rfl (by kernel_rfl) (by rfl) (fun K hK => ?_)
                    refine wp_store_row 28 _ _ rfl g7 (bytesL (rootL (L.drop P))) rfl rfl 28 _ (r7.setRowOther _ (by omega)) HAB.out.2.2.1 HAB.out.2.2.2 (bytesL_one _) ?_
                    refine hK.out _ _ (fun _ => trivial) ?_
                    clear hK K
                    refine wpAnyD_done (by kernel_rfl) ?_ _
                    go_wp2_with fail
                    go_meet
                    case rel => exact ⟨g6, g7, rfl, rfl, (r6.setRow _).setRowOther _ (by omega), (r7.setRowOther _ (by omega)).setRow _, (r2.setRowOther _ (by have := HG2.out; omega)).setRowOther _ (by have := HG2.out; omega), Below.row (Below.row hbw _ hg6) _ hg7⟩
                  refine AllD.cons (i := 9) rfl (by rfl) (fun K hK => ?_) AllD.nil
                  go_simp
                  rw [zeros32b]
                  try have hne := r6.lt
                  try replace r6 := r6.alloc (.cells (bytesL (List.replicate 32 0)) 28)
                  have hg7 := hbw.size
                  have r7 := Row.new wd (bytesL (List.replicate 32 0)) 28 rfl
                  replace r2 := r2.alloc (.cells (bytesL (List.replicate 32 0)) 28)
                  replace hbw := chainA hbw (.cells (bytesL (List.replicate 32 0)) 28)
                  refine hK.out _ _ (fun _ => trivial) ?_
                  clear hK K
                  generalize wd.alloc (.cells (bytesL (List.replicate 32 0)) 28) = wn at *
                  generalize wd.heap.size = g7 at *
                  clear wd
                  obtain ⟨wd, rfl⟩ : ∃ wx, wx = wn := ⟨_, rfl⟩
                  try simp only [Act.put, List.setIfInBounds_toArray, List.set_cons_zero, List.set_cons_succ]
                  refine wpAnyD_only (i := 8) rfl (by kernel_rfl) (by rfl) (fun K hK => ?_)
                  go_simp
                  rw [zeros32b]
                  try have hne := r7.lt
                  try replace r7 := r7.alloc (.cells (bytesL (List.replicate 32 0)) 28)
                  have hg6 := hbw.size
                  have r6 := Row.new wd (bytesL (List.replicate 32 0)) 28 rfl
                  replace r2 := r2.alloc (.cells (bytesL (List.replicate 32 0)) 28)
                  replace hbw := chainA hbw (.cells (bytesL (List.replicate 32 0)) 28)
                  refine hK.out _ _ (fun _ => trivial) ?_
                  clear hK K
                  generalize wd.alloc (.cells (bytesL (List.replicate 32 0)) 28) = wn at *
                  generalize wd.heap.size = g6 at *
                  clear wd
                  obtain ⟨wd, rfl⟩ : ∃ wx, wx = wn := ⟨_, rfl⟩
                  try simp only [Act.put, List.setIfInBounds_toArray, List.set_cons_zero, List.set_cons_succ]
                  refine wpAnyD_only (i := 10) rfl (by kernel_rfl) (by rfl) (fun K hK => ?_)
                  refine wp_store_row 28 _ _ rfl g6 (bytesL (rootL (L.take P))) rfl rfl 28 _ r6 HAB.out.1 HAB.out.2.1 (bytesL_one _) ?_
                  refine hK.out _ _ (fun _ => trivial) ?_
                  clear hK K
                  refine wpAnyD_only (i := 11) rfl (by kernel_rfl) (by rfl) (fun K hK => ?_)
                  refine wp_store_row 28 _ _ rfl g7 (bytesL (rootL (L.drop P))) rfl rfl 28 _ (r7.setRowOther _ (by omega)) HAB.out.2.2.1 HAB.out.2.2.2 (bytesL_one _) ?_
                  refine hK.out _ _ (fun _ => trivial) ?_
                  clear hK K
                  refine wpAnyD_done (by kernel_rfl) ?_ _
                  go_wp2_with fail
                  go_meet
                  case rel => exact ⟨g6, g7, rfl, rfl, (r6.setRow _).setRowOther _ (by omega), (r7.setRowOther _ (by omega)).setRow _, (r2.setRowOther _ (by have := HG2.out; omega)).setRowOther _ (by have := HG2.out; omega), Below.row (Below.row hbw _ hg6) _ hg7⟩
                refine AllD.cons (i := 8) rfl (by rfl) (fun K hK => ?_) ?_
                · skip
                  go_simp
                  rw [zeros32b]
                  try have hne := r7.lt
                  try replace r7 := r7.alloc (.cells (bytesL (List.replicate 32 0)) 28)
                  have hg6 := hbw.size
                  have r6 := Row.new wd (bytesL (List.replicate 32 0)) 28 rfl
                  replace r2 := r2.alloc (.cells (bytesL (List.replicate 32 0)) 28)
                  replace hbw := chainA hbw (.cells (bytesL (List.replicate 32 0)) 28)
                  refine hK.out _ _ (fun _ => trivial) ?_
                  clear hK K
                  generalize wd.alloc (.cells (bytesL (List.replicate 32 0)) 28) = wn at *
                  generalize wd.heap.size = g6 at *
                  clear wd
                  obtain ⟨wd, rfl⟩ : ∃ wx, wx = wn := ⟨_, rfl⟩
                  try simp only [Act.put, List.setIfInBounds_toArray, List.set_cons_zero, List.set_cons_succ]
                  refine wpAnyD_all (rs := [7, 9]) (by kernel_rfl) (by simp) ?_
                  refine AllD.cons (i := 7) rfl (by rfl) (fun K hK => ?_) ?_
                  · skip
                    go_simp
                    refine (ih _ (L.drop P) wd (by rw [List.length_drop]; have := HC.out; omega) (by rw [List.length_drop]; have := HC.out; omega) (HDR.out _ hbw) (HT1.out.later hbw)).mono ?_
                    rintro e wn ⟨rfl, hbn⟩
                    try replace r6 := r6.later hbn
                    try replace r2 := r2.later hbn
                    try replace r7 := r7.later hbn
                    replace hbw := hbw.trans (hbn.mono hbw.size)
                    refine hK.out _ _ (fun _ => trivial) ?_
                    clear hK K hbn
                    obtain ⟨wd, rfl⟩ : ∃ wx, wx = wn := ⟨_, rfl⟩
                    try simp only [Act.put, List.setIfInBounds_toArray, List.set_cons_zero, List.set_cons_succ]
                    refine wpAnyD_only (i := 9) rfl (by kernel_rfl) (by rfl) (fun K hK => ?_)
                    go_simp
                    rw [zeros32b]
                    try have hne := r6.lt
                    try replace r6 := r6.alloc (.cells (bytesL (List.replicate 32 0)) 28)
                    have hg7 := hbw.size
                    have r7 := Row.new wd (bytesL (List.replicate 32 0)) 28 rfl
                    replace r2 := r2.alloc (.cells (bytesL (List.replicate 32 0)) 28)
                    replace hbw := chainA hbw (.cells (bytesL (List.replicate 32 0)) 28)
                    refine hK.out _ _ (fun _ => trivial) ?_
                    clear hK K
                    generalize wd.alloc (.cells (bytesL (List.replicate 32 0)) 28) = wn at *
                    generalize wd.heap.size = g7 at *
                    clear wd
                    obtain ⟨wd, rfl⟩ : ∃ wx, wx = wn := ⟨_, rfl⟩
                    try simp only [Act.put, List.setIfInBounds_toArray, List.set_cons_zero, List.set_cons_succ]
                    refine wpAnyD_only (i := 10) rfl (by kernel_rfl) (by rfl) (fun K hK => ?_)
                    refine wp_store_row 28 _ _ rfl g6 (bytesL (rootL (L.take P))) rfl rfl 28 _ r6 HAB.out.1 HAB.out.2.1 (bytesL_one _) ?_
                    refine hK.out _ _ (fun _ => trivial) ?_
                    clear hK K
                    refine wpAnyD_only (i := 11) rfl (by kernel_rfl) (by rfl) (fun K hK => ?_)
                    refine wp_store_row 28 _ _ rfl g7 (bytesL (rootL (L.drop P))) rfl rfl 28 _ (r7.setRowOther _ (by omega)) HAB.out.2.2.1 HAB.out.2.2.2 (bytesL_one _) ?_
                    refine hK.out _ _ (fun _ => trivial) ?_
                    clear hK K
                    refine wpAnyD_done (by kernel_rfl) ?_ _
                    go_wp2_with fail
                    go_meet
                    case rel => exact ⟨g6, g7, rfl, rfl, (r6.setRow _).setRowOther _ (by omega), (r7.setRowOther _ (by omega)).setRow _, (r2.setRowOther _ (by have := HG2.out; omega)).setRowOther _ (by have := HG2.out; omega), Below.row (Below.row hbw _ hg6) _ hg7⟩
                  refine AllD.cons (i := 9) rfl (by rfl) (fun K hK => ?_) AllD.nil
                  go_simp
                  rw [zeros32b]
                  try have hne := r6.lt
                  try replace r6 := r6.alloc (.cells (bytesL (List.replicate 32 0)) 28)
                  have hg7 := hbw.size
                  have r7 := Row.new wd (bytesL (List.replicate 32 0)) 28 rfl
                  replace r2 := r2.alloc (.cells (bytesL (List.replicate 32 0)) 28)
                  replace hbw := chainA hbw (.cells (bytesL (List.replicate 32 0)) 28)
                  refine hK.out _ _ (fun _ => trivial) ?_
                  clear hK K
                  generalize wd.alloc (.cells (bytesL (List.replicate 32 0)) 28) = wn at *
                  generalize wd.heap.size = g7 at *
                  clear wd
                  obtain ⟨wd, rfl⟩ : ∃ wx, wx = wn := ⟨_, rfl⟩
                  try simp only [Act.put, List.setIfInBounds_toArray, List.set_cons_zero, List.set_cons_succ]
                  refine wpAnyD_only (i := 7) rfl (by kernel_rfl) (by rfl) (fun K hK => ?_)
                  go_simp
                  refine (ih _ (L.drop P) wd (by rw [List.length_drop]; have := HC.out; omega) (by rw [List.length_drop]; have := HC.out; omega) (HDR.out _ hbw) (HT1.out.later hbw)).mono ?_
                  rintro e wn ⟨rfl, hbn⟩
                  try replace r6 := r6.later hbn
                  try replace r2 := r2.later hbn
                  try replace r7 := r7.later hbn
                  replace hbw := hbw.trans (hbn.mono hbw.size)
                  refine hK.out _ _ (fun _ => trivial) ?_
                  clear hK K hbn
                  obtain ⟨wd, rfl⟩ : ∃ wx, wx = wn := ⟨_, rfl⟩
                  try simp only [Act.put, List.setIfInBounds_toArray, List.set_cons_zero, List.set_cons_succ]
                  refine wpAnyD_only (i := 10) rfl (by kernel_rfl) (by rfl) (fun K hK => ?_)
                  refine wp_store_row 28 _ _ rfl g6 (bytesL (rootL (L.take P))) rfl rfl 28 _ r6 HAB.out.1 HAB.out.2.1 (bytesL_one _) ?_
                  refine hK.out _ _ (fun _ => trivial) ?_
                  clear hK K
                  refine wpAnyD_only (i := 11) rfl (by kernel_rfl) (by rfl) (fun K hK => ?_)
                  refine wp_store_row 28 _ _ rfl g7 (bytesL (rootL (L.drop P))) rfl rfl 28 _ (r7.setRowOther _ (by omega)) HAB.out.2.2.1 HAB.out.2.2.2 (bytesL_one _) ?_
                  refine hK.out _ _ (fun _ => trivial) ?_
                  clear hK K
                  refine wpAnyD_done (by kernel_rfl) ?_ _
                  go_wp2_with fail
                  go_meet
                  case rel => exact ⟨g6, g7, rfl, rfl, (r6.setRow _).setRowOther _ (by omega), (r7.setRowOther _ (by omega)).setRow _, (r2.setRowOther _ (by have := HG2.out; omega)).setRowOther _ (by have := HG2.out; omega), Below.row (Below.row hbw _ hg6) _ hg7⟩
                refine AllD.cons (i := 9) rfl (by rfl) (fun K hK => ?_) AllD.nil
                go_simp
                rw [zeros32b]
                try have hne := r6.lt
                try replace r6 := r6.alloc (.cells (bytesL (List.replicate 32 0)) 28)
                have hg7 := hbw.size
                have r7 := Row.new wd (bytesL (List.replicate 32 0)) 28 rfl
                replace r2 := r2.alloc (.cells (bytesL (List.replicate 32 0)) 28)
                replace hbw := chainA hbw (.cells (bytesL (List.replicate 32 0)) 28)
                refine hK.out _ _ (fun _ => trivial) ?_
                clear hK K
                generalize wd.alloc (.cells (bytesL (List.replicate 32 0)) 28) = wn at *
                generalize wd.heap.size = g7 at *
                clear wd
                obtain ⟨wd, rfl⟩ : ∃ wx, wx = wn := ⟨_, rfl⟩
                try simp only [Act.put, List.setIfInBounds_toArray, List.set_cons_zero, List.set_cons_succ]
                refine wpAnyD_all (rs := [7, 8]) (by kernel_rfl) (by simp) ?_
                refine AllD.cons (i := 7) rfl (by rfl) (fun K hK => ?_) ?_
                · skip
                  go_simp
                  refine (ih _ (L.drop P) wd (by rw [List.length_drop]; have := HC.out; omega) (by rw [List.length_drop]; have := HC.out; omega) (HDR.out _ hbw) (HT1.out.later hbw)).mono ?_
                  rintro e wn ⟨rfl, hbn⟩
                  try replace r6 := r6.later hbn
                  try replace r2 := r2.later hbn
                  try replace r7 := r7.later hbn
                  replace hbw := hbw.trans (hbn.mono hbw.size)
                  refine hK.out _ _ (fun _ => trivial) ?_
                  clear hK K hbn
                  obtain ⟨wd, rfl⟩ : ∃ wx, wx = wn := ⟨_, rfl⟩
                  try simp only [Act.put, List.setIfInBounds_toArray, List.set_cons_zero, List.set_cons_succ]
                  refine wpAnyD_only (i := 8) rfl (by kernel_rfl) (by rfl) (fun K hK => ?_)
                  go_simp
                  rw [zeros32b]
                  try have hne := r7.lt
                  try replace r7 := r7.alloc (.cells (bytesL (List.replicate 32 0)) 28)
                  have hg6 := hbw.size
                  have r6 := Row.new wd (bytesL (List.replicate 32 0)) 28 rfl
                  replace r2 := r2.alloc (.cells (bytesL (List.replicate 32 0)) 28)
                  replace hbw := chainA hbw (.cells (bytesL (List.replicate 32 0)) 28)
                  refine hK.out _ _ (fun _ => trivial) ?_
                  clear hK K
                  generalize wd.alloc (.cells (bytesL (List.replicate 32 0)) 28) = wn at *
                  generalize wd.heap.size = g6 at *
                  clear wd
                  obtain ⟨wd, rfl⟩ : ∃ wx, wx = wn := ⟨_, rfl⟩
                  try simp only [Act.put, List.setIfInBounds_toArray, List.set_cons_zero, List.set_cons_succ]
                  refine wpAnyD_only (i := 10) rfl (by kernel_rfl) (by rfl) (fun K hK => ?_)
                  refine wp_store_row 28 _ _ rfl g6 (bytesL (rootL (L.take P))) rfl rfl 28 _ r6 HAB.out.1 HAB.out.2.1 (bytesL_one _) ?_
                  refine hK.out _ _ (fun _ => trivial) ?_
                  clear hK K
                  refine wpAnyD_only (i := 11) rfl (by kernel_rfl) (by rfl) (fun K hK => ?_)
                  refine wp_store_row 28 _ _ rfl g7 (bytesL (rootL (L.drop P))) rfl rfl 28 _ (r7.setRowOther _ (by omega)) HAB.out.2.2.1 HAB.out.2.2.2 (bytesL_one _) ?_
                  refine hK.out _ _ (fun _ => trivial) ?_
                  clear hK K
                  refine wpAnyD_done (by kernel_rfl) ?_ _
                  go_wp2_with fail
                  go_meet
                  case rel => exact ⟨g6, g7, rfl, rfl, (r6.setRow _).setRowOther _ (by omega), (r7.setRowOther _ (by omega)).setRow _, (r2.setRowOther _ (by have := HG2.out; omega)).setRowOther _ (by have := HG2.out; omega), Below.row (Below.row hbw _ hg6) _ hg7⟩
                refine AllD.cons (i := 8) rfl (by rfl) (fun K hK => ?_) AllD.nil
                go_simp
                rw [zeros32b]
                try have hne := r7.lt
                try replace r7 := r7.alloc (.cells (bytesL (List.replicate 32 0)) 28)
                have hg6 := hbw.size
                have r6 := Row.new wd (bytesL (List.replicate 32 0)) 28 rfl
                replace r2 := r2.alloc (.cells (bytesL (List.replicate 32 0)) 28)
                replace hbw := chainA hbw (.cells (bytesL (List.replicate 32 0)) 28)
                refine hK.out _ _ (fun _ => trivial) ?_
                clear hK K
                generalize wd.alloc (.cells (bytesL (List.replicate 32 0)) 28) = wn at *
                generalize wd.heap.size = g6 at *
                clear wd
                obtain ⟨wd, rfl⟩ : ∃ wx, wx = wn := ⟨_, rfl⟩
                try simp only [Act.put, List.setIfInBounds_toArray, List.set_cons_zero, List.set_cons_succ]
                refine wpAnyD_only (i := 7) rfl (by kernel_rfl) (by rfl) (fun K hK => ?_)
                go_simp
                refine (ih _ (L.drop P) wd (by rw [List.length_drop]; have := HC.out; omega) (by rw [List.length_drop]; have := HC.out; omega) (HDR.out _ hbw) (HT1.out.later hbw)).mono ?_
                rintro e wn ⟨rfl, hbn⟩
                try replace r6 := r6.later hbn
                try replace r2 := r2.later hbn
                try replace r7 := r7.later hbn
                replace hbw := hbw.trans (hbn.mono hbw.size)
                refine hK.out _ _ (fun _ => trivial) ?_
                clear hK K hbn
                obtain ⟨wd, rfl⟩ : ∃ wx, wx = wn := ⟨_, rfl⟩
                try simp only [Act.put, List.setIfInBounds_toArray, List.set_cons_zero, List.set_cons_succ]
                refine wpAnyD_only (i := 10) rfl (by kernel_rfl) (by rfl) (fun K hK => ?_)
                refine wp_store_row 28 _ _ rfl g6 (bytesL (rootL (L.take P))) rfl rfl 28 _ r6 HAB.out.1 HAB.out.2.1 (bytesL_one _) ?_
                refine hK.out _ _ (fun _ => trivial) ?_
                clear hK K
                refine wpAnyD_only (i := 11) rfl (by kernel_rfl) (by rfl) (fun K hK => ?_)
                refine wp_store_row 28 _ _ rfl g7 (bytesL (rootL (L.drop P))) rfl rfl 28 _ (r7.setRowOther _ (by omega)) HAB.out.2.2.1 HAB.out.2.2.2 (bytesL_one _) ?_
                refine hK.out _ _ (fun _ => trivial) ?_
                clear hK K
                refine wpAnyD_done (by kernel_rfl) ?_ _
                go_wp2_with fail
                go_meet
                case rel => exact ⟨g6, g7, rfl, rfl, (r6.setRow _).setRowOther _ (by omega), (r7.setRowOther _ (by omega)).setRow _, (r2.setRowOther _ (by have := HG2.out; omega)).setRowOther _ (by have := HG2.out; omega), Below.row (Below.row hbw _ hg6) _ hg7⟩
              refine AllD.cons (i := 8) rfl (by rfl) (fun K hK => ?_) ?_
              · skip
                go_simp
                rw [zeros32b]
                try have hne := r7.lt
                try replace r7 := r7.alloc (.cells (bytesL (List.replicate 32 0)) 28)
                have hg6 := hbw.size
                have r6 := Row.new wd (bytesL (List.replicate 32 0)) 28 rfl
                replace r2 := r2.alloc (.cells (bytesL (List.replicate 32 0)) 28)
                replace hbw := chainA hbw (.cells (bytesL (List.replicate 32 0)) 28)
                refine hK.out _ _ (fun _ => trivial) ?_
                clear hK K
                generalize wd.alloc (.cells (bytesL (List.replicate 32 0)) 28) = wn at *
                generalize wd.heap.size = g6 at *
                clear wd
                obtain ⟨wd, rfl⟩ : ∃ wx, wx = wn := ⟨_, rfl⟩
                try simp only [Act.put, List.setIfInBounds_toArray, List.set_cons_zero, List.set_cons_succ]
                refine wpAnyD_all (rs := [3, 9]) (by kernel_rfl) (by simp) ?_
                refine AllD.cons (i := 3) rfl (by rfl) (fun K hK => ?_) ?_
                · skip
                  go_simp
                  refine (ih _ (L.take P) wd (by rw [List.length_take]; have := HC.out; omega) (by rw [List.length_take]; have := HC.out; omega) ((HV1.out.later hbw).take P (by have := HC.out; omega)) (HT1.out.later hbw)).mono ?_
                  rintro e wn ⟨rfl, hbn⟩
                  try replace r6 := r6.later hbn
                  try replace r2 := r2.later hbn
                  try replace r7 := r7.later hbn
                  replace hbw := hbw.trans (hbn.mono hbw.size)
                  refine hK.out _ _ (fun _ => trivial) ?_
                  clear hK K hbn
                  obtain ⟨wd, rfl⟩ : ∃ wx, wx = wn := ⟨_, rfl⟩
                  try simp only [Act.put, List.setIfInBounds_toArray, List.set_cons_zero, List.set_cons_succ]
                  refine wpAnyD_all (rs := [7, 9]) (by kernel_rfl) (by simp) ?_
                  refine AllD.cons (i := 7) rfl (by rfl) (fun K hK => ?_) ?_
                  · skip
                    go_simp
                    refine (ih _ (L.drop P) wd (by rw [List.length_drop]; have := HC.out; omega) (by rw [List.length_drop]; have := HC.out; omega) (HDR.out _ hbw) (HT1.out.later hbw)).mono ?_
                    rintro e wn ⟨rfl, hbn⟩
                    try replace r6 := r6.later hbn
                    try replace r2 := r2.later hbn
                    try replace r7 := r7.later hbn
                    replace hbw := hbw.trans (hbn.mono hbw.size)
                    refine hK.out _ _ (fun _ => trivial) ?_
                    clear hK K hbn
                    obtain ⟨wd, rfl⟩ : ∃ wx, wx = wn := ⟨_, rfl⟩
                    try simp only [Act.put, List.setIfInBounds_toArray, List.set_cons_zero, List.set_cons_succ]
                    refine wpAnyD_only (i := 9) rfl (by kernel_rfl) (by rfl) (fun K hK => ?_)
                    go_simp
                    rw [zeros32b]
                    try have hne := r6.lt
                    try replace r6 := r6.alloc (.cells (bytesL (List.replicate 32 0)) 28)
                    have hg7 := hbw.size
                    have r7 := Row.new wd (bytesL (List.replicate 32 0)) 28 rfl
                    replace r2 := r2.alloc (.cells (bytesL (List.replicate 32 0)) 28)
                    replace hbw := chainA hbw (.cells (bytesL (List.replicate 32 0)) 28)
                    refine hK.out _ _ (fun _ => trivial) ?_
                    clear hK K
                    generalize wd.alloc (.cells (bytesL (List.replicate 32 0)) 28) = wn at *
                    generalize wd.heap.size = g7 at *
                    clear wd
                    obtain ⟨wd, rfl⟩ : ∃ wx, wx = wn := ⟨_, rfl⟩
                    try simp only [Act.put, List.setIfInBounds_toArray, List.set_cons_zero, List.set_cons_succ]
                    refine wpAnyD_only (i := 10) rfl (by kernel_rfl) (by rfl) (fun K hK => ?_)
                    refine wp_store_row 28 _ _ rfl g6 (bytesL (rootL (L.take P))) rfl rfl 28 _ r6 HAB.out.1 HAB.out.2.1 (bytesL_one _) ?_
                    refine hK.out _ _ (fun _ => trivial) ?_
                    clear hK K
                    refine wpAnyD_only (i := 11) rfl (by kernel_rfl) (by rfl) (fun K hK => ?_)
                    refine wp_store_row 28 _ _ rfl g7 (bytesL (rootL (L.drop P))) rfl rfl 28 _ (r7.setRowOther _ (by omega)) HAB.out.2.2.1 HAB.out.2.2.2 (bytesL_one _) ?_
                    refine hK.out _ _ (fun _ => trivial) ?_
                    clear hK K
                    refine wpAnyD_done (by kernel_rfl) ?_ _
                    go_wp2_with fail
                    go_meet
                    case rel => exact ⟨g6, g7, rfl, rfl, (r6.setRow _).setRowOther _ (by omega), (r7.setRowOther _ (by omega)).setRow _, (r2.setRowOther _ (by have := HG2.out; omega)).setRowOther _ (by have := HG2.out; omega), Below.row (Below.row hbw _ hg6) _ hg7⟩
                  refine AllD.cons (i := 9) rfl (by rfl) (fun K hK => ?_) AllD.nil
                  go_simp
                  rw [zeros32b]
                  try have hne := r6.lt
                  try replace r6 := r6.alloc (.cells (bytesL (List.replicate 32 0)) 28)
                  have hg7 := hbw.size
                  have r7 := Row.new wd (bytesL (List.replicate 32 0)) 28 rfl
                  replace r2 := r2.alloc (.cells (bytesL (List.replicate 32 0)) 28)
                  replace hbw := chainA hbw (.cells (bytesL (List.replicate 32 0)) 28)
                  refine hK.out _ _ (fun _ => trivial) ?_
                  clear hK K
                  generalize wd.alloc (.cells (bytesL (List.replicate 32 0)) 28) = wn at *
                  generalize wd.heap.size = g7 at *
                  clear wd
                  obtain ⟨wd, rfl⟩ : ∃ wx, wx = wn := ⟨_, rfl⟩
                  try simp only [Act.put, List.setIfInBounds_toArray, List.set_cons_zero, List.set_cons_succ]
                  refine wpAnyD_only (i := 7) rfl (by kernel_rfl) (by rfl) (fun K hK => ?_)
                  go_simp
                  refine (ih _ (L.drop P) wd (by rw [List.length_drop]; have := HC.out; omega) (by rw [List.length_drop]; have := HC.out; omega) (HDR.out _ hbw) (HT1.out.later hbw)).mono ?_
                  rintro e wn ⟨rfl, hbn⟩
                  try replace r6 := r6.later hbn
                  try replace r2 := r2.later hbn
                  try replace r7 := r7.later hbn
                  replace hbw := hbw.trans (hbn.mono hbw.size)
                  refine hK.out _ _ (fun _ => trivial) ?_
                  clear hK K hbn
                  obtain ⟨wd, rfl⟩ : ∃ wx, wx = wn := ⟨_, rfl⟩
                  try simp only [Act.put, List.setIfInBounds_toArray, List.set_cons_zero, List.set_cons_succ]
                  refine wpAnyD_only (i := 10) rfl (by kernel_rfl) (by rfl) (fun K hK => ?_)
                  refine wp_store_row 28 _ _ rfl g6 (bytesL (rootL (L.take P))) rfl rfl 28 _ r6 HAB.out.1 HAB.out.2.1 (bytesL_one _) ?_
                  refine hK.out _ _ (fun _ => trivial) ?_
                  clear hK K
                  refine wpAnyD_only (i := 11) rfl (by kernel_rfl) (by rfl) (fun K hK => ?_)
                  refine wp_store_row 28 _ _ rfl g7 (bytesL (rootL (L.drop P))) rfl rfl 28 _ (r7.setRowOther _ (by omega)) HAB.out.2.2.1 HAB.out.2.2.2 (bytesL_one _) ?_
                  refine hK.out _ _ (fun _ => trivial) ?_
                  clear hK K
                  refine wpAnyD_done (by kernel_rfl) ?_ _
                  go_wp2_with fail
                  go_meet
                  case rel => exact ⟨g6, g7, rfl, rfl, (r6.setRow _).setRowOther _ (by omega), (r7.setRowOther _ (by omega)).setRow _, (r2.setRowOther _ (by have := HG2.out; omega)).setRowOther _ (by have := HG2.out; omega), Below.row (Below.row hbw _ hg6) _ hg7⟩
                refine AllD.cons (i := 9) rfl (by rfl) (fun K hK => ?_) AllD.nil
                go_simp
                rw [zeros32b]
                try have hne := r6.lt
                try replace r6 := r6.alloc (.cells (bytesL (List.replicate 32 0)) 28)
                have hg7 := hbw.size
                have r7 := Row.new wd (bytesL (List.replicate 32 0)) 28 rfl
                replace r2 := r2.alloc (.cells (bytesL (List.replicate 32 0)) 28)
                replace hbw := chainA hbw (.cells (bytesL (List.replicate 32 0)) 28)
                refine hK.out _ _ (fun _ => trivial) ?_
                clear hK K
                generalize wd.alloc (.cells (bytesL (List.replicate 32 0)) 28) = wn at *
                generalize wd.heap.size = g7 at *
                clear wd
                obtain ⟨wd, rfl⟩ : ∃ wx, wx = wn := ⟨_, rfl⟩
                try simp only [Act.put, List.setIfInBounds_toArray, List.set_cons_zero, List.set_cons_succ]
                refine wpAnyD_only (i := 3) rfl (by kernel_rfl) (by rfl) (fun K hK => ?_)
                go_simp
                refine (ih _ (L.take P) wd (by rw [List.length_take]; have := HC.out; omega) (by rw [List.length_take]; have := HC.out; omega) ((HV1.out.later hbw).take P (by have := HC.out; omega)) (HT1.out.later hbw)).mono ?_
                rintro e wn ⟨rfl, hbn⟩
                try replace r6 := r6.later hbn
                try replace r2 := r2.later hbn
                try replace r7 := r7.later hbn
                replace hbw := hbw.trans (hbn.mono hbw.size)
                refine hK.out _ _ (fun _ => trivial) ?_
                clear hK K hbn
                obtain ⟨wd, rfl⟩ : ∃ wx, wx = wn := ⟨_, rfl⟩
                try simp only [Act.put, List.setIfInBounds_toArray, List.set_cons_zero, List.set_cons_succ]
                refine wpAnyD_only (i := 7) rfl (by kernel_rfl) (by rfl) (fun K hK => ?_)
                go_simp
                refine (ih _ (L.drop P) wd (by rw [List.length_drop]; have := HC.out; omega) (by rw [List.length_drop]; have := HC.out; omega) (HDR.out _ hbw) (HT1.out.later hbw)).mono ?_
                rintro e wn ⟨rfl, hbn⟩
                try replace r6 := r6.later hbn
                try replace r2 := r2.later hbn
                try replace r7 := r7.later hbn
                replace hbw := hbw.trans (hbn.mono hbw.size)
                refine hK.out _ _ (fun _ => trivial) ?_
                clear hK K hbn
                obtain ⟨wd, rfl⟩ : ∃ wx, wx = wn := ⟨_, rfl⟩
                try simp only [Act.put, List.setIfInBounds_toArray, List.set_cons_zero, List.set_cons_succ]
                refine wpAnyD_only (i := 10) rfl (by kernel_rfl) (by rfl) (fun K hK => ?_)
                refine wp_store_row 28 _ _ rfl g6 (bytesL (rootL (L.take P))) rfl rfl 28 _ r6 HAB.out.1 HAB.out.2.1 (bytesL_one _) ?_
                refine hK.out _ _ (fun _ => trivial) ?_
                clear hK K
                refine wpAnyD_only (i := 11) rfl (by kernel_rfl) (by rfl) (fun K hK => ?_)
                refine wp_store_row 28 _ _ rfl g7 (bytesL (rootL (L.drop P))) rfl rfl 28 _ (r7.setRowOther _ (by omega)) HAB.out.2.2.1 HAB.out.2.2.2 (bytesL_one _) ?_
                refine hK.out _ _ (fun _ => trivial) ?_
                clear hK K
                refine wpAnyD_done (by kernel_rfl) ?_ _
                go_wp2_with fail
                go_meet
                case rel => exact ⟨g6, g7, rfl, rfl, (r6.setRow _).setRowOther _ (by omega), (r7.setRowOther _ (by omega)).setRow _, (r2.setRowOther _ (by have := HG2.out; omega)).setRowOther _ (by have := HG2.out; omega), Below.row (Below.row hbw _ hg6) _ hg7⟩
              refine AllD.cons (i := 9) rfl (by rfl) (fun K hK => ?_) AllD.nil
              go_simp
              rw [zeros32b]
              try have hne := r6.lt
              try replace r6 := r6.alloc (.cells (bytesL (List.replicate 32 0)) 28)
              have hg7 := hbw.size
              have r7 := Row.new wd (bytesL (List.replicate 32 0)) 28 rfl
              replace r2 := r2.alloc (.cells (bytesL (List.replicate 32 0)) 28)
              replace hbw := chainA hbw (.cells (bytesL (List.replicate 32 0)) 28)
              refine hK.out _ _ (fun _ => trivial) ?_
              clear hK K
              generalize wd.alloc (.cells (bytesL (List.replicate 32 0)) 28) = wn at *
              generalize wd.heap.size = g7 at *
              clear wd
              obtain ⟨wd, rfl⟩ : ∃ wx, wx = wn := ⟨_, rfl⟩
              try simp only [Act.put, List.setIfInBounds_toArray, List.set_cons_zero, List.set_cons_succ]
              refine wpAnyD_all (rs := [3, 8]) (by kernel_rfl) (by simp) ?_
              refine AllD.cons (i := 3) rfl (by rfl) (fun K hK => ?_) ?_
              · skip
                go_simp
                refine (ih _ (L.take P) wd (by rw [List.length_take]; have := HC.out; omega) (by rw [List.length_take]; have := HC.out; omega) ((HV1.out.later hbw).take P (by have := HC.out; omega)) (HT1.out.later hbw)).mono ?_
                rintro e wn ⟨rfl, hbn⟩
                try replace r6 := r6.later hbn
                try replace r2 := r2.later hbn
                try replace r7 := r7.later hbn
                replace hbw := hbw.trans (hbn.mono hbw.size)
                refine hK.out _ _ (fun _ => trivial) ?_
                clear hK K hbn
                obtain ⟨wd, rfl⟩ : ∃ wx, wx = wn := ⟨_, rfl⟩
                try simp only [Act.put, List.setIfInBounds_toArray, List.set_cons_zero, List.set_cons_succ]
                refine wpAnyD_all (rs := [7, 8]) (by kernel_rfl) (by simp) ?_
                refine AllD.cons (i := 7) rfl (by rfl) (fun K hK => ?_) ?_
                · skip
                  go_simp
                  refine (ih _ (L.drop P) wd (by rw [List.length_drop]; have := HC.out; omega) (by rw [List.length_drop]; have := HC.out; omega) (HDR.out _ hbw) (HT1.out.later hbw)).mono ?_
                  rintro e wn ⟨rfl, hbn⟩
                  try replace r6 := r6.later hbn
                  try replace r2 := r2.later hbn
                  try replace r7 := r7.later hbn
                  replace hbw := hbw.trans (hbn.mono hbw.size)
                  refine hK.out _ _ (fun _ => trivial) ?_
                  clear hK K hbn
                  obtain ⟨wd, rfl⟩ : ∃ wx, wx = wn := ⟨_, rfl⟩
                  try simp only [Act.put, List.setIfInBounds_toArray, List.set_cons_zero, List.set_cons_succ]
                  refine wpAnyD_only (i := 8) rfl (by kernel_rfl) (by rfl) (fun K hK => ?_)
                  go_simp
                  rw [zeros32b]
                  try have hne := r7.lt
                  try replace r7 := r7.alloc (.cells (bytesL (List.replicate 32 0)) 28)
                  have hg6 := hbw.size
                  have r6 := Row.new wd (bytesL (List.replicate 32 0)) 28 rfl
                  replace r2 := r2.alloc (.cells (bytesL (List.replicate 32 0)) 28)
                  replace hbw := chainA hbw (.cells (bytesL (List.replicate 32 0)) 28)
                  refine hK.out _ _ (fun _ => trivial) ?_
                  clear hK K
                  generalize wd.alloc (.cells (bytesL (List.replicate 32 0)) 28) = wn at *
                  generalize wd.heap.size = g6 at *
                  clear wd
                  obtain ⟨wd, rfl⟩ : ∃ wx, wx = wn := ⟨_, rfl⟩
                  try simp only [Act.put, List.setIfInBounds_toArray, List.set_cons_zero, List.set_cons_succ]
                  refine wpAnyD_only (i := 10) rfl (by kernel_rfl) (by rfl) (fun K hK => ?_)
                  refine wp_store_row 28 _ _ rfl g6 (bytesL (rootL (L.take P))) rfl rfl 28 _ r6 HAB.out.1 HAB.out.2.1 (bytesL_one _) ?_
                  refine hK.out _ _ (fun _ => trivial) ?_
                  clear hK K
                  refine wpAnyD_only (i := 11) rfl (by kernel_rfl) (by rfl) (fun K hK => ?_)
                  refine wp_store_row 28 _ _ rfl g7 (bytesL (rootL (L.drop P))) rfl rfl 28 _ (r7.setRowOther _ (by omega)) HAB.out.2.2.1 HAB.out.2.2.2 (bytesL_one _) ?_
                  refine hK.out _ _ (fun _ => trivial) ?_
                  clear hK K
                  refine wpAnyD_done (by kernel_rfl) ?_ _
                  go_wp2_with fail
                  go_meet
                  case rel => exact ⟨g6, g7, rfl, rfl, (r6.setRow _).setRowOther _ (by omega), (r7.setRowOther _ (by omega)).setRow _, (r2.setRowOther _ (by have := HG2.out; omega)).setRowOther _ (by have := HG2.out; omega), Below.row (Below.row hbw _ hg6) _ hg7⟩
                refine AllD.cons (i := 8) rfl (by rfl) (fun K hK => ?_) AllD.nil
                go_simp
                rw [zeros32b]
                try have hne := r7.lt
                try replace r7 := r7.alloc (.cells (bytesL (List.replicate 32 0)) 28)
                have hg6 := hbw.size
                have r6 := Row.new wd (bytesL (List.replicate 32 0)) 28 rfl
                replace r2 := r2.alloc (.cells (bytesL (List.replicate 32 0)) 28)
                replace hbw := chainA hbw (.cells (bytesL (List.replicate 32 0)) 28)
                refine hK.out _ _ (fun _ => trivial) ?_
                clear hK K
                generalize wd.alloc (.cells (bytesL (List.replicate 32 0)) 28) = wn at *
                generalize wd.heap.size = g6 at *
                clear wd
                obtain ⟨wd, rfl⟩ : ∃ wx, wx = wn := ⟨_, rfl⟩
                try simp only [Act.put, List.setIfInBounds_toArray, List.set_cons_zero, List.set_cons_succ]
                refine wpAnyD_only (i := 7) rfl (by kernel_rfl) (by rfl) (fun K hK => ?_)
                go_simp
                refine (ih _ (L.drop P) wd (by rw [List.length_drop]; have := HC.out; omega) (by rw [List.length_drop]; have := HC.out; omega) (HDR.out _ hbw) (HT1.out.later hbw)).mono ?_
                rintro e wn ⟨rfl, hbn⟩
                try replace r6 := r6.later hbn
                try replace r2 := r2.later hbn
                try replace r7 := r7.later hbn
                replace hbw := hbw.trans (hbn.mono hbw.size)
                refine hK.out _ _ (fun _ => trivial) ?_
                clear hK K hbn
                obtain ⟨wd, rfl⟩ : ∃ wx, wx = wn := ⟨_, rfl⟩
                try simp only [Act.put, List.setIfInBounds_toArray, List.set_cons_zero, List.set_cons_succ]
                refine wpAnyD_only (i := 10) rfl (by kernel_rfl) (by rfl) (fun K hK => ?_)
                refine wp_store_row 28 _ _ rfl g6 (bytesL (rootL (L.take P))) rfl rfl 28 _ r6 HAB.out.1 HAB.out.2.1 (bytesL_one _) ?_
                refine hK.out _ _ (fun _ => trivial) ?_
                clear hK K
                refine wpAnyD_only (i := 11) rfl (by kernel_rfl) (by rfl) (fun K hK => ?_)
                refine wp_store_row 28 _ _ rfl g7 (bytesL (rootL (L.drop P))) rfl rfl 28 _ (r7.setRowOther _ (by omega)) HAB.out.2.2.1 HAB.out.2.2.2 (bytesL_one _) ?_
                refine hK.out _ _ (fun _ => trivial) ?_
                clear hK K
                refine wpAnyD_done (by kernel_rfl) ?_ _
                go_wp2_with fail
                go_meet
                case rel => exact ⟨g6, g7, rfl, rfl, (r6.setRow _).setRowOther _ (by omega), (r7.setRowOther _ (by omega)).setRow _, (r2.setRowOther _ (by have := HG2.out; omega)).setRowOther _ (by have := HG2.out; omega), Below.row (Below.row hbw _ hg6) _ hg7⟩
              refine AllD.cons (i := 8) rfl (by rfl) (fun K hK => ?_) AllD.nil
              go_simp
              rw [zeros32b]
              try have hne := r7.lt
              try replace r7 := r7.alloc (.cells (bytesL (List.replicate 32 0)) 28)
              have hg6 := hbw.size
              have r6 := Row.new wd (bytesL (List.replicate 32 0)) 28 rfl
              replace r2 := r2.alloc (.cells (bytesL (List.replicate 32 0)) 28)
              replace hbw := chainA hbw (.cells (bytesL (List.replicate 32 0)) 28)
              refine hK.out _ _ (fun _ => trivial) ?_
              clear hK K
              generalize wd.alloc (.cells (bytesL (List.replicate 32 0)) 28) = wn at *
              generalize wd.heap.size = g6 at *
              clear wd
              obtain ⟨wd, rfl⟩ : ∃ wx, wx = wn := ⟨_, rfl⟩
              try simp only [Act.put, List.setIfInBounds_toArray, List.set_cons_zero, List.set_cons_succ]
              refine wpAnyD_only (i := 3) rfl (by kernel_rfl) (by rfl) (fun K hK => ?_)
              go_simp
              refine (ih _ (L.take P) wd (by rw [List.length_take]; have := HC.out; omega) (by rw [List.length_take]; have := HC.out; omega) ((HV1.out.later hbw).take P (by have := HC.out; omega)) (HT1.out.later hbw)).mono ?_
              rintro e wn ⟨rfl, hbn⟩
              try replace r6 := r6.later hbn
              try replace r2 := r2.later hbn
              try replace r7 := r7.later hbn
              replace hbw := hbw.trans (hbn.mono hbw.size)
              refine hK.out _ _ (fun _ => trivial) ?_
              clear hK K hbn
              obtain ⟨wd, rfl⟩ : ∃ wx, wx = wn := ⟨_, rfl⟩
              try simp only [Act.put, List.setIfInBounds_toArray, List.set_cons_zero, List.set_cons_succ]
              refine wpAnyD_only (i := 7) rfl (by kernel_rfl) (by rfl) (fun K hK => ?_)
              go_simp
              refine (ih _ (L.drop P) wd (by rw [List.length_drop]; have := HC.out; omega) (by rw [List.length_drop]; have := HC.out; omega) (HDR.out _ hbw) (HT1.out.later hbw)).mono ?_
              rintro e wn ⟨rfl, hbn⟩
              try replace r6 := r6.later hbn
              try replace r2 := r2.later hbn
              try replace r7 := r7.later hbn
              replace hbw := hbw.trans (hbn.mono hbw.size)
              refine hK.out _ _ (fun _ => trivial) ?_
              clear hK K hbn
              obtain ⟨wd, rfl⟩ : ∃ wx, wx = wn := ⟨_, rfl⟩
              try simp only [Act.put, List.setIfInBounds_toArray, List.set_cons_zero, List.set_cons_succ]
              refine wpAnyD_only (i := 10) rfl (by kernel_rfl) (by rfl) (fun K hK => ?_)
              refine wp_store_row 28 _ _ rfl g6 (bytesL (rootL (L.take P))) rfl rfl 28 _ r6 HAB.out.1 HAB.out.2.1 (bytesL_one _) ?_
              refine hK.out _ _ (fun _ => trivial) ?_
              clear hK K
              refine wpAnyD_only (i := 11) rfl (by kernel_rfl) (by rfl) (fun K hK => ?_)
              refine wp_store_row 28 _ _ rfl g7 (bytesL (rootL (L.drop P))) rfl rfl 28 _ (r7.setRowOther _ (by omega)) HAB.out.2.2.1 HAB.out.2.2.2 (bytesL_one _) ?_
              refine hK.out _ _ (fun _ => trivial) ?_
              clear hK K
              refine wpAnyD_done (by kernel_rfl) ?_ _
              go_wp2_with fail
              go_meet
              case rel => exact ⟨g6, g7, rfl, rfl, (r6.setRow _).setRowOther _ (by omega), (r7.setRowOther _ (by omega)).setRow _, (r2.setRowOther _ (by have := HG2.out; omega)).setRowOther _ (by have := HG2.out; omega), Below.row (Below.row hbw _ hg6) _ hg7⟩
            case rest =>
              obtain ⟨g6, g7, rfl, rfl, r6, r7, r2, hbc⟩ := hcut
              have HHq : Hid (rootL L = hsh (msgN (rootL (L.take P)) (rootL (L.drop P)))) := by
                have h := root_split (l := L) (s := s) (by rw [← HP.out.1]; exact HC.out.1) (by rw [← HP.out.1]; exact HC.out.2.1)
                rw [← HP.out.1] at h
                exact h
              clear HAB HDR
              generalize rootL (L.take P) = A at *
              generalize rootL (L.drop P) = B at *
              have h32 := hsh_32 (msgN A B)
              generalize hH : hsh (msgN A B) = H at *
              have HHH : Hid (hsh (msgN A B) = H) := hH
              clear hH
              have iH := info_h32 h32
              have zH := z32_size h32
              have oH := bytesL_one H
              clear h32
              go_wp2_with fail
              refine wp_region_D (fun _ => true) (fun _ => True) (by kernel_rfl) ?_
              have hS : (fun _ : World => True) wc.drew := trivial
              have hbw := hbc.drew
              have r6d : Row wc.drew g6 (bytesL A) 28 := r6
              have r7d : Row wc.drew g7 (bytesL B) 28 := r7
              have r2d : Row wc.drew w.heap.size (bytesL (List.replicate 32 0)) 28 := r2
              clear r6 r7 r2 hbc r0
              generalize wc.drew = wd at *
              refine' wpAnyD_take (i := 1) (v := _) rfl (by kernel_rfl) (by kernel_rfl) (by kernel_rfl) (by kernel_rfl) (fun _ _ _ h => h) (Or.inl ⟨by rfl, ?hy7⟩) hS ?re7
              case hy7 => (intro w hSw; (try dsimp only at hSw); go_simp; (try with_reducible rfl))
              simp only [Act.put, List.setIfInBounds_toArray, List.set_cons_zero, List.set_cons_succ]
              refine' wpAnyD_take (i := 2) (v := _) rfl (by kernel_rfl) (by kernel_rfl) (by kernel_rfl) (by kernel_rfl) (fun _ _ _ h => h) (Or.inl ⟨by rfl, ?hy8⟩) hS ?re8
              case hy8 => (intro w hSw; (try dsimp only at hSw); go_simp; (try with_reducible rfl))
              simp only [Act.put, List.setIfInBounds_toArray, List.set_cons_zero, List.set_cons_succ]
              refine wpAnyD_only (i := 0) rfl (by kernel_rfl) (by rfl) (fun K hK => ?_)
              go_simp
              have h1 : BytesAt (wd.alloc (.cells #[.int .u8 1] 5)) (.slice (some ⟨wd.heap.size, 0, none⟩) 1 1) [1] := (Row.new wd _ _ rfl : Row (wd.alloc (.cells (bytesL [1]) 5)) wd.heap.size (bytesL [1]) 5).bytes (by intro x hx; simp at hx; omega) (by unfold maxLen; decide) 1 1 rfl
              replace r6d := r6d.alloc (.cells #[.int .u8 1] 5)
              replace r7d := r7d.alloc (.cells #[.int .u8 1] 5)
              replace r2d := r2d.alloc (.cells #[.int .u8 1] 5)
              replace hbw := chainA hbw (.cells #[.int .u8 1] 5)
              refine hK.out _ _ (fun _ => trivial) ?_
              clear hK K
              generalize wd.alloc (.cells #[.int .u8 1] 5) = we at *
              generalize wd.heap.size = g10 at *
              try simp only [Act.put, List.setIfInBounds_toArray, List.set_cons_zero, List.set_cons_succ]
              refine wpAnyD_only (i := 3) rfl (by kernel_rfl) (by rfl) (fun K hK => ?_)
              go_simp
              have hP := parts3 we 37 h1 (r6d.bytes HOK.out.1.2 (by rw [HOK.out.1.1]; decide) 32 32 HOK.out.1.1.symm) (r7d.bytes HOK.out.2.2 (by rw [HOK.out.2.1]; decide) 32 32 HOK.out.2.1.symm) 3
              clear h1
              replace r2d := r2d.alloc (.cells #[.slice (some ⟨g10, 0, none⟩) 1 1, .slice (some ⟨g6, 0, none⟩) 32 32, .slice (some ⟨g7, 0, none⟩) 32 32] 37)
              replace hbw := chainA hbw (.cells #[.slice (some ⟨g10, 0, none⟩) 1 1, .slice (some ⟨g6, 0, none⟩) 32 32, .slice (some ⟨g7, 0, none⟩) 32 32] 37)
              refine hK.out _ _ (fun _ => trivial) ?_
              clear hK K r6d r7d
              generalize we.alloc (.cells #[.slice (some ⟨g10, 0, none⟩) 1 1, .slice (some ⟨g6, 0, none⟩) 32 32, .slice (some ⟨g7, 0, none⟩) 32 32] 37) = wf at *
              generalize we.heap.size = g13 at *
              try simp only [Act.put, List.setIfInBounds_toArray, List.set_cons_zero, List.set_cons_succ]
              refine wpAnyD_only (i := 4) rfl (by kernel_rfl) (by rfl) (fun K hK => ?_)
              go_simp
              refine (of_e _ [[1], A, B] (msgN A B) wf hP (by simp [msgN]) (by rw [msgN_len HOK.out.1 HOK.out.2]; decide) (HT1.out.later hbw)).mono ?_
              rintro e wn ⟨rfl, hbn⟩
              rw [HHH.out]
              replace r2d := r2d.later hbn
              replace hbw := hbw.trans (hbn.mono hbw.size)
              refine hK.out _ _ (fun _ => trivial) ?_
              clear hK K hP hbn
              try simp only [Act.put, List.setIfInBounds_toArray, List.set_cons_zero, List.set_cons_succ]
              refine wpAnyD_only (i := 5) rfl (by kernel_rfl) (by rfl) (fun K hK => ?_)
              refine wp_store_row 28 _ _ rfl w.heap.size (bytesL H) rfl rfl 28 _ r2d iH zH oH ?_
              refine hK.out _ _ (fun _ => trivial) ?_
              clear hK K hS
              refine wpAnyD_done (by kernel_rfl) ?_ _
              go_wp2
              refine bodyPost_ret (v := .agg (bytesL H)) (results_cell_row Tryd.results16 _ _ w.heap.size 28 (bytesL H) (0, 0) _ ?hp ?hg Tryd.underlying28 rfl iH) rfl ⟨by rw [HHq.out], Below.row (HB1.out.trans (hbw.mono HB1.out.size)) _ (Nat.le_refl _)⟩
              case hp => rfl
              case hg => exact r2d.setRow _
end Go.Proofs.YtepohpniflmblaaDoor
