
/-
  The walk of HistoryNodes.
-/
import Derived.Test.YtepohpniflmblaaDoorHiL
import Derived.Test.YtepohpniflmblaaDoorHiJ
import Derived.Deep.DeepCutAuto
import Derived.BigRegion
namespace Go.Proofs.YtepohpniflmblaaDoor
open Go.RowKit
set_option maxRecDepth 100000
set_option linter.unusedVariables false
set_option linter.unusedSimpArgs false

theorem and5 (n : Int) : ∃ k : Nat, k ≤ 5 ∧ bits .and .i64 n 5 = (k : Int) := by
  have hle : (BitVec.ofInt 64 n).toNat &&& 5 ≤ 5 := Nat.and_le_right
  refine ⟨(BitVec.ofInt 64 n).toNat &&& 5, hle, ?_⟩
  have h : (BitVec.ofInt 64 n &&& BitVec.ofInt 64 5).toNat = (BitVec.ofInt 64 n).toNat &&& 5 := by
    rw [BitVec.toNat_and]
    rfl
  show IntKind.i64.wrap ((BitVec.ofInt 64 n &&& BitVec.ofInt 64 5).toNat : Int) = _
  rw [h, IntKind.wrap_i64]
  generalize (BitVec.ofInt 64 n).toNat &&& 5 = q at *
  omega
theorem log2_in (s m : Nat) (h1 : 2 ^ s ≤ m) (h2 : m < 2 ^ (s + 1)) : Nat.log2 m = s := by
  have hm : m ≠ 0 := by have := Nat.one_le_two_pow (n := s); omega
  have a := (Nat.le_log2 hm).2 h1
  have b := (Nat.log2_lt hm).2 h2
  omega
theorem root_split {l : List (List Nat)} {s : Nat} (h1 : 2 ^ s < l.length) (h2 : l.length ≤ 2 * 2 ^ s) : rootL l = hsh (msgN (rootL (l.take (2 ^ s))) (rootL (l.drop (2 ^ s)))) := by
  have h0 := Nat.one_le_two_pow (n := s)
  rw [rootL_two (by omega)]
  have e : split l.length = 2 ^ s := by
    unfold split
    rw [log2_in s _ (by omega) (by rw [Nat.pow_succ]; omega)]
  rw [e]
/-- Calls that note nothing. -/
theorem root_e (v : Value) (L : List (List Nat)) (w : World) (h64 : L.length ≤ 64) (hv : HsAt w v L) (ht : Tab w) :
    Calls Tryd.prog 15 #[.pointer none, v] w fun e w' => e = .returned (.agg (bytesL (rootL L))) ∧ Below w.heap.size w w' :=
  (root_any _ v L w.heap.size (.pointer none) [] w (Nat.le_refl _) h64 hv ht ht.pos (Nat.le_refl _) (TpAt.nil _ _ _) (by simp; omega)).mono fun e w' ⟨h1, _, h3⟩ => ⟨h1, TStep.below (Below.refl _ _) h3⟩
theorem node_e (a b : List Nat) (w : World) (ha : H32 a) (hb : H32 b) (ht : Tab w) :
    Calls Tryd.prog 24 #[.pointer none, .agg (bytesL a), .agg (bytesL b)] w fun e w' => e = .returned (.agg (bytesL (hsh (msgN a b)))) ∧ Below w.heap.size w w' :=
  (node_any a b ha hb w.heap.size (.pointer none) [] w ht ht.pos (Nat.le_refl _) (TpAt.nil _ _ _) (by simp)).mono fun e w' ⟨h1, _, h3⟩ => ⟨h1, TStep.below (Below.refl _ _) h3⟩
theorem leaf_e (u : Value) (b : List Nat) (w : World) (hu : BytesAt w u b) (hb : b.length ≤ 10000) (ht : Tab w) :
    Calls Tryd.prog 20 #[.pointer none, u] w fun e w' => e = .returned (.agg (bytesL (hsh (msgL b)))) ∧ Below w.heap.size w w' :=
  (leaf_any u b w.heap.size (.pointer none) [] w hu hb ht ht.pos (Nat.le_refl _) (TpAt.nil _ _ _) (by simp)).mono fun e w' ⟨h1, _, h3⟩ => ⟨h1, TStep.below (Below.refl _ _) h3⟩
/-- What stands behind the two roots. -/
def NdC (w2 wc : World) (A B : List Nat) (u v : Value) : Prop := ∃ g6 g7, u = .pointer (some ⟨g6, 0, none⟩) ∧ v = .pointer (some ⟨g7, 0, none⟩) ∧ Row wc g6 (bytesL A) 28 ∧ Row wc g7 (bytesL B) 28 ∧ Below w2.heap.size w2 wc
set_option maxHeartbeats 40000000 in
theorem nodes_walk (v0 : Value) (L : List (List Nat)) (x : Int) (w : World) (hL : PartsAt w v0 L) (hcap0 : ∀ q n c, v0 = .slice q n c → n ≤ c) (lo : -9223372036854775808 ≤ x) (hi : x ≤ 9223372036854775807) (ht : Tab w) :
    Calls Tryd.prog 7 #[v0, .int .i64 x] w fun e w' => e = .returned (.bool true) ∧ Below w.heap.size w w' := by
  obtain ⟨hlm, p0, c0, rfl, hcells⟩ := id hL
  have HL : Hid (PartsAt w (.slice p0 L.length c0) L) := hL
  have HT : Hid (Tab w) := ht
  clear hcells hcap0
  unfold maxLen at hlm
  have l0 : (0 : Int) ≤ (L.length : Int) := by omega
  have l1 : (L.length : Int) ≤ 9223372036854775807 := by omega
  go_enter Tryd.func7, Tryd.ntmps7
  go_wp2_with (go_at_call 12; refine stop ?_)
  refine (fit6_any w HT.out).mono ?_
  rintro e w1 ⟨rfl, hb1⟩
  go_wp2_with (go_at_call 13; refine stop ?_)
  refine (light_any _ L w1 (HL.out.later hb1)).mono ?_
  rintro e w1' ⟨b, rfl, hli, hw1⟩
  obtain rfl := hw1.symm
  clear hw1
  cases b with
  | false =>
    go_wp2
    go_ret
    exact ⟨rfl, hb1⟩
  | true =>
    have hli := hli rfl
    by_cases h0 : L.length = 0
    · have h0' : (L.length : Int) = 0 := by omega
      go_wp2
      go_ret
      exact ⟨rfl, hb1⟩
    · have h0' : ((L.length : Int) == 0) = false := by rw [beq_eq_false_iff_ne]; omega
      have HLI : Hid (Light L ∧ L.length ≠ 0) := ⟨hli, h0⟩
      have l40 : (L.length : Int) ≤ 40 := by have := hli.1; omega
      obtain ⟨j, hj, hjx⟩ := and5 x
      have s0 : (0 : Int) ≤ (j : Int) := by omega
      have s1 : (j : Int) ≤ 6 := by omega
      obtain ⟨P, hP⟩ : ∃ P : Nat, P = 2 ^ j := ⟨_, rfl⟩
      obtain ⟨hpw, hP64⟩ := pow_small j (by omega)
      rw [← hP] at hpw hP64
      have HPP : Hid (P = 2 ^ j) := hP
      have pp0 : (0 : Int) < (P : Int) := by have := Nat.one_le_two_pow (n := j); omega
      have pp1 : (P : Int) ≤ 64 := by omega
      clear hli h0 l1 hP hj
      go_wp2_with (go_at_call 14; refine stop ?_)
      refine (leaves_any _ L w1 (HL.out.later hb1) HLI.out.1 (HT.out.later hb1)).mono ?_
      rintro e w2 ⟨u, rfl, hu, hb2⟩
      obtain ⟨pu, nu, cu, rfl, hnu⟩ := ownsRowN_form hu
      rw [leafs_len] at hnu
      subst hnu
      have hb12 := hb1.trans (hb2.mono hb1.size)
      have HHS : Hid (HsAt w2 (.slice pu L.length cu) (leafs L)) := hu.hs (leafs_ok L)
      have HB : Hid (Below w.heap.size w w2) := hb12
      have HT2 : Hid (Tab w2) := HT.out.later hb12
      obtain ⟨_, _, e, hcu1, hcu2⟩ := HHS.out.form
      rw [leafs_len] at e hcu1
      cases e
      clear hb2 hb12 hb1 hu
      by_cases c1 : P < L.length
      · by_cases c2 : L.length ≤ 2 * P
        · have c1' : ¬ (L.length : Int) ≤ (P : Int) := by omega
          have c2' : ¬ 2 * (P : Int) < (L.length : Int) := by omega
          have c1n : (P : Int) ≤ (L.length : Int) := by omega
          have HC : Hid (P < L.length ∧ L.length ≤ 2 * P) := ⟨c1, c2⟩
          have kc : (P : Int) ≤ (cu : Int) := by omega
          have kcn : P ≤ cu := by omega
          have kln : P ≤ L.length := by omega
          have Lc : (L.length : Int) ≤ (cu : Int) := by omega
          have knc : ¬ cu = P := by omega
          have HDR : Hid (∀ wx, Below w2.heap.size w2 wx → HsAt wx (.slice (pu.map (·.add (P * 32))) (L.length - P) (cu - P)) ((leafs L).drop P)) := fun wx hb => by
            have h := (HHS.out.later hb).drop P (by rw [leafs_len]; have := HC.out; omega)
            rw [if_neg (by have := HC.out; omega), leafs_len] at h
            exact h
          clear c1 c2
          have HAB : Hid ((Tryd.prog.info? 28).map (·.size) = some (bytesL (rootL ((leafs L).take P))).size ∧ (bytesL (List.replicate 32 0)).size = (bytesL (rootL ((leafs L).take P))).size ∧ (Tryd.prog.info? 28).map (·.size) = some (bytesL (rootL ((leafs L).drop P))).size ∧ (bytesL (List.replicate 32 0)).size = (bytesL (rootL ((leafs L).drop P))).size) := by
            have h1 := root_32 _ ((leafs L).take P) (Nat.le_refl _) (fun l hl => leafs_ok L l (List.mem_of_mem_take hl))
            have h2 := root_32 _ ((leafs L).drop P) (Nat.le_refl _) (fun l hl => leafs_ok L l (List.mem_of_mem_drop hl))
            exact ⟨info_h32 h1, z32_size h1, info_h32 h2, z32_size h2⟩
          go_wp2_with fail
          go_cut [6, 7, 34, 35, 36, 37, 38, 39, 40, 41] (fun t6 t7 t34 t35 t36 t37 t38 t39 t40 t41 wc => NdC w2 wc (rootL ((leafs L).take P)) (rootL ((leafs L).drop P)) t6 t7)
          case first =>
            refine wp_region_D (fun _ => true) (fun _ => True) (by kernel_rfl) ?_
            have hS : (fun _ : World => True) w2.drew := trivial
            have hbw := (Below.refl w2.heap.size w2).drew
            generalize w2.drew = wd at *
            refine' wpAnyD_take (i := 0) (v := _) rfl (by kernel_rfl) (by kernel_rfl) (by kernel_rfl) (by kernel_rfl) (fun _ _ _ h => h) (Or.inl ⟨by rfl, ?hy1⟩) hS ?re1
            case hy1 => (intro w hSw; (try dsimp only at hSw); go_simp; (try with_reducible rfl))
            simp only [Act.put, List.setIfInBounds_toArray, List.set_cons_zero, List.set_cons_succ]
            refine' wpAnyD_take (i := 1) (v := _) rfl (by kernel_rfl) (by kernel_rfl) (by kernel_rfl) (by kernel_rfl) (fun _ _ _ h => h) (Or.inl ⟨by rfl, ?hy2⟩) hS ?re2
            case hy2 => (intro w hSw; (try dsimp only at hSw); go_simp; (try with_reducible rfl))
            simp only [Act.put, List.setIfInBounds_toArray, List.set_cons_zero, List.set_cons_succ]
            refine' wpAnyD_take (i := 2) (v := _) rfl (by kernel_rfl) (by kernel_rfl) (by kernel_rfl) (by kernel_rfl) (fun _ _ _ h => h) (Or.inl ⟨by rfl, ?hy3⟩) hS ?re3
            case hy3 => (intro w hSw; (try dsimp only at hSw); go_simp; (try with_reducible rfl))
            simp only [Act.put, List.setIfInBounds_toArray, List.set_cons_zero, List.set_cons_succ]
            refine' wpAnyD_take (i := 4) (v := _) rfl (by kernel_rfl) (by kernel_rfl) (by kernel_rfl) (by kernel_rfl) (fun _ _ _ h => h) (Or.inl ⟨by rfl, ?hy4⟩) hS ?re4
            case hy4 => (intro w hSw; (try dsimp only at hSw); go_simp; (try with_reducible rfl))
            simp only [Act.put, List.setIfInBounds_toArray, List.set_cons_zero, List.set_cons_succ]
            refine' wpAnyD_take (i := 5) (v := _) rfl (by kernel_rfl) (by kernel_rfl) (by kernel_rfl) (by kernel_rfl) (fun _ _ _ h => h) (Or.inl ⟨by rfl, ?hy5⟩) hS ?re5
            case hy5 => (intro w hSw; (try dsimp only at hSw); go_simp; (try with_reducible rfl))
            simp only [Act.put, List.setIfInBounds_toArray, List.set_cons_zero, List.set_cons_succ]
            refine' wpAnyD_take (i := 6) (v := _) rfl (by kernel_rfl) (by kernel_rfl) (by kernel_rfl) (by kernel_rfl) (fun _ _ _ h => h) (Or.inl ⟨by rfl, ?hy6⟩) hS ?re6
            case hy6 => (intro w hSw; (try dsimp only at hSw); go_simp; (try with_reducible rfl))
            simp only [Act.put, List.setIfInBounds_toArray, List.set_cons_zero, List.set_cons_succ]
            skip
            refine wpAnyD_all (rs := [3, 8, 9]) (by kernel_rfl) (by simp) ?_
            refine AllD.cons (i := 3) rfl (by rfl) (fun K hK => ?_) ?_
            · skip
              go_simp
              refine (root_e _ _ wd (by rw [List.length_take, leafs_len]; have := HLI.out.1.1; omega) ((HHS.out.later hbw).take P (by rw [leafs_len]; have := HC.out; omega)) (HT2.out.later hbw)).mono ?_
              rintro e wn ⟨rfl, hbn⟩
              try replace r6 := r6.later hbn
              try replace r7 := r7.later hbn
              replace hbw := hbw.trans (hbn.mono hbw.size)
              refine hK.out _ _ (fun _ => trivial) ?_
              clear hK K hbn
              obtain ⟨wd, rfl⟩ : ∃ wx, wx = wn := ⟨_, rfl⟩
              try simp only [Act.put, List.setIfInBounds_toArray, List.set_cons_zero, List.set_cons_succ]
              refine wpAnyD_all (rs := [7, 8, 9]) (by kernel_rfl) (by simp) ?_
              refine AllD.cons (i := 7) rfl (by rfl) (fun K hK => ?_) ?_
              · skip
                go_simp
                refine (root_e _ _ wd (by rw [List.length_drop, leafs_len]; have := HLI.out.1.1; omega) (HDR.out _ hbw) (HT2.out.later hbw)).mono ?_
                rintro e wn ⟨rfl, hbn⟩
                try replace r6 := r6.later hbn
                try replace r7 := r7.later hbn
                replace hbw := hbw.trans (hbn.mono hbw.size)
                refine hK.out _ _ (fun _ => trivial) ?_
                clear hK K hbn
                obtain ⟨wd, rfl⟩ : ∃ wx, wx = wn := ⟨_, rfl⟩
                try simp only [Act.put, List.setIfInBounds_toArray, List.set_cons_zero, List.set_cons_succ]
                refine wpAnyD_all (rs := [8, 9]) (by kernel_rfl) (by simp) ?_
                refine AllD.cons (i := 8) rfl (by rfl) (fun K hK => ?_) ?_
                · skip
                  go_simp
                  rw [zeros32b]
                  try have hne := r7.lt
                  try replace r7 := r7.alloc (.cells (bytesL (List.replicate 32 0)) 28)
                  have hg6 := hbw.size
                  have r6 := Row.new wd (bytesL (List.replicate 32 0)) 28 rfl
                  replace hbw := chainA hbw (.cells (bytesL (List.replicate 32 0)) 28)
                  refine hK.out _ _ (fun _ => trivial) ?_
                  clear hK K
                  generalize wd.alloc (.cells (bytesL (List.replicate 32 0)) 28) = wn at *
                  generalize wd.heap.size = g6 at *
                  clear wd
                  obtain ⟨wd, rfl⟩ : ∃ wx, wx = wn := ⟨_, rfl⟩
                  try simp only [Act.put, List.setIfInBounds_toArray, List.set_cons_zero, List.set_cons_succ]
                  refine wpAnyD_only (i := 9) rfl (by kernel_rfl) (by rfl) (fun K hK => ?_)
                  go_simp
                  rw [zeros32b]
                  try have hne := r6.lt
                  try replace r6 := r6.alloc (.cells (bytesL (List.replicate 32 0)) 28)
                  have hg7 := hbw.size
                  have r7 := Row.new wd (bytesL (List.replicate 32 0)) 28 rfl
                  replace hbw := chainA hbw (.cells (bytesL (List.replicate 32 0)) 28)
                  refine hK.out _ _ (fun _ => trivial) ?_
                  clear hK K
                  generalize wd.alloc (.cells (bytesL (List.replicate 32 0)) 28) = wn at *
                  generalize wd.heap.size = g7 at *
                  clear wd
                  obtain ⟨wd, rfl⟩ : ∃ wx, wx = wn := ⟨_, rfl⟩
                  try simp only [Act.put, List.setIfInBounds_toArray, List.set_cons_zero, List.set_cons_succ]
                  refine wpAnyD_only (i := 10) rfl (by kernel_rfl) (by rfl) (fun K hK => ?_)
                  refine wp_store_row 28 _ _ rfl g6 (bytesL (rootL ((leafs L).take P))) rfl rfl 28 _ r6 HAB.out.1 HAB.out.2.1 (bytesL_one _) ?_
                  refine hK.out _ _ (fun _ => trivial) ?_
                  clear hK K
                  refine wpAnyD_only (i := 11) rfl (by kernel_rfl) (by rfl) (fun K hK => ?_)
                  refine wp_store_row 28 _ _ rfl g7 (bytesL (rootL ((leafs L).drop P))) rfl rfl 28 _ (r7.setRowOther _ (by omega)) HAB.out.2.2.1 HAB.out.2.2.2 (bytesL_one _) ?_
                  refine hK.out _ _ (fun _ => trivial) ?_
                  clear hK K
                  refine wpAnyD_done (by kernel_rfl) ?_ _
                  go_wp2_with fail
                  go_meet
                  case rel => exact ⟨g6, g7, rfl, rfl, (r6.setRow _).setRowOther _ (by omega), (r7.setRowOther _ (by omega)).setRow _, Below.row (Below.row hbw _ hg6) _ hg7⟩
                refine AllD.cons (i := 9) rfl (by rfl) (fun K hK => ?_) AllD.nil
                go_simp
                rw [zeros32b]
                try have hne := r6.lt
                try replace r6 := r6.alloc (.cells (bytesL (List.replicate 32 0)) 28)
                have hg7 := hbw.size
                have r7 := Row.new wd (bytesL (List.replicate 32 0)) 28 rfl
                replace hbw := chainA hbw (.cells (bytesL (List.replicate 32 0)) 28)
                refine hK.out _ _ (fun _ => trivial) ?_
                clear hK K
                generalize wd.alloc (.cells (bytesL (List.replicate 32 0)) 28) = wn at *
                generalize wd.heap.size = g7 at *
                clear wd
                obtain ⟨wd, rfl⟩ : ∃ wx, wx = wn := ⟨_, rfl⟩
                try simp only [Act.put, List.setIfInBounds_toArray, List.set_cons_zero, List.set_cons_succ]
                refine wpAnyD_only (i := 8) rfl (by kernel_rfl) (by rfl) (fun K hK => ?_)
                go_simp
                rw [zeros32b]
                try have hne := r7.lt
                try replace r7 := r7.alloc (.cells (bytesL (List.replicate 32 0)) 28)
                have hg6 := hbw.size
                have r6 := Row.new wd (bytesL (List.replicate 32 0)) 28 rfl
                replace hbw := chainA hbw (.cells (bytesL (List.replicate 32 0)) 28)
                refine hK.out _ _ (fun _ => trivial) ?_
                clear hK K
                generalize wd.alloc (.cells (bytesL (List.replicate 32 0)) 28) = wn at *
                generalize wd.heap.size = g6 at *
                clear wd
                obtain ⟨wd, rfl⟩ : ∃ wx, wx = wn := ⟨_, rfl⟩
                try simp only [Act.put, List.setIfInBounds_toArray, List.set_cons_zero, List.set_cons_succ]
                refine wpAnyD_only (i := 10) rfl (by kernel_rfl) (by rfl) (fun K hK => ?_)
                refine wp_store_row 28 _ _ rfl g6 (bytesL (rootL ((leafs L).take P))) rfl rfl 28 _ r6 HAB.out.1 HAB.out.2.1 (bytesL_one _) ?_
                refine hK.out _ _ (fun _ => trivial) ?_
                clear hK K
                refine wpAnyD_only (i := 11) rfl (by kernel_rfl) (by rfl) (fun K hK => ?_)
                refine wp_store_row 28 _ _ rfl g7 (bytesL (rootL ((leafs L).drop P))) rfl rfl 28 _ (r7.setRowOther _ (by omega)) HAB.out.2.2.1 HAB.out.2.2.2 (bytesL_one _) ?_
                refine hK.out _ _ (fun _ => trivial) ?_
                clear hK K
                refine wpAnyD_done (by kernel_rfl) ?_ _
                go_wp2_with fail
                go_meet
                case rel => exact ⟨g6, g7, rfl, rfl, (r6.setRow _).setRowOther _ (by omega), (r7.setRowOther _ (by omega)).setRow _, Below.row (Below.row hbw _ hg6) _ hg7⟩
              refine AllD.cons (i := 8) rfl (by rfl) (fun K hK => ?_) ?_
              · skip
                go_simp
                rw [zeros32b]
                try have hne := r7.lt
                try replace r7 := r7.alloc (.cells (bytesL (List.replicate 32 0)) 28)
                have hg6 := hbw.size
                have r6 := Row.new wd (bytesL (List.replicate 32 0)) 28 rfl
                replace hbw := chainA hbw (.cells (bytesL (List.replicate 32 0)) 28)
                refine hK.out _ _ (fun _ => trivial) ?_
                clear hK K
                generalize wd.alloc (.cells (bytesL (List.replicate 32 0)) 28) = wn at *
                generalize wd.heap.size = g6 at *
                clear wd
                obtain ⟨wd, rfl⟩ : ∃ wx, wx = wn := ⟨_, rfl⟩
                try simp only [Act.put, List.setIfInBounds_toArray, List.set_cons_zero, List.set_cons_succ]
                refine wpAnyD_all (rs := [7, 9]) (by kernel_rfl) (by simp) ?_
                refine AllD.cons (i := 7) rfl (by rfl) (fun K hK => ?_) ?_
                · skip
                  go_simp
                  refine (root_e _ _ wd (by rw [List.length_drop, leafs_len]; have := HLI.out.1.1; omega) (HDR.out _ hbw) (HT2.out.later hbw)).mono ?_
                  rintro e wn ⟨rfl, hbn⟩
                  try replace r6 := r6.later hbn
                  try replace r7 := r7.later hbn
                  replace hbw := hbw.trans (hbn.mono hbw.size)
                  refine hK.out _ _ (fun _ => trivial) ?_
                  clear hK K hbn
                  obtain ⟨wd, rfl⟩ : ∃ wx, wx = wn := ⟨_, rfl⟩
                  try simp only [Act.put, List.setIfInBounds_toArray, List.set_cons_zero, List.set_cons_succ]
                  refine wpAnyD_only (i := 9) rfl (by kernel_rfl) (by rfl) (fun K hK => ?_)
                  go_simp
                  rw [zeros32b]
                  try have hne := r6.lt
                  try replace r6 := r6.alloc (.cells (bytesL (List.replicate 32 0)) 28)
                  have hg7 := hbw.size
                  have r7 := Row.new wd (bytesL (List.replicate 32 0)) 28 rfl
                  replace hbw := chainA hbw (.cells (bytesL (List.replicate 32 0)) 28)
                  refine hK.out _ _ (fun _ => trivial) ?_
                  clear hK K
                  generalize wd.alloc (.cells (bytesL (List.replicate 32 0)) 28) = wn at *
                  generalize wd.heap.size = g7 at *
                  clear wd
                  obtain ⟨wd, rfl⟩ : ∃ wx, wx = wn := ⟨_, rfl⟩
                  try simp only [Act.put, List.setIfInBounds_toArray, List.set_cons_zero, List.set_cons_succ]
                  refine wpAnyD_only (i := 10) rfl (by kernel_rfl) (by rfl) (fun K hK => ?_)
                  refine wp_store_row 28 _ _ rfl g6 (bytesL (rootL ((leafs L).take P))) rfl rfl 28 _ r6 HAB.out.1 HAB.out.2.1 (bytesL_one _) ?_
                  refine hK.out _ _ (fun _ => trivial) ?_
                  clear hK K
                  refine wpAnyD_only (i := 11) rfl (by kernel_rfl) (by rfl) (fun K hK => ?_)
                  refine wp_store_row 28 _ _ rfl g7 (bytesL (rootL ((leafs L).drop P))) rfl rfl 28 _ (r7.setRowOther _ (by omega)) HAB.out.2.2.1 HAB.out.2.2.2 (bytesL_one _) ?_
                  refine hK.out _ _ (fun _ => trivial) ?_
                  clear hK K
                  refine wpAnyD_done (by kernel_rfl) ?_ _
                  go_wp2_with fail
                  go_meet
                  case rel => exact ⟨g6, g7, rfl, rfl, (r6.setRow _).setRowOther _ (by omega), (r7.setRowOther _ (by omega)).setRow _, Below.row (Below.row hbw _ hg6) _ hg7⟩
                refine AllD.cons (i := 9) rfl (by rfl) (fun K hK => ?_) AllD.nil
                go_simp
                rw [zeros32b]
                try have hne := r6.lt
                try replace r6 := r6.alloc (.cells (bytesL (List.replicate 32 0)) 28)
                have hg7 := hbw.size
                have r7 := Row.new wd (bytesL (List.replicate 32 0)) 28 rfl
                replace hbw := chainA hbw (.cells (bytesL (List.replicate 32 0)) 28)
                refine hK.out _ _ (fun _ => trivial) ?_
                clear hK K
                generalize wd.alloc (.cells (bytesL (List.replicate 32 0)) 28) = wn at *
                generalize wd.heap.size = g7 at *
                clear wd
                obtain ⟨wd, rfl⟩ : ∃ wx, wx = wn := ⟨_, rfl⟩
                try simp only [Act.put, List.setIfInBounds_toArray, List.set_cons_zero, List.set_cons_succ]
                refine wpAnyD_only (i := 7) rfl (by kernel_rfl) (by rfl) (fun K hK => ?_)
                go_simp
                refine (root_e _ _ wd (by rw [List.length_drop, leafs_len]; have := HLI.out.1.1; omega) (HDR.out _ hbw) (HT2.out.later hbw)).mono ?_
                rintro e wn ⟨rfl, hbn⟩
                try replace r6 := r6.later hbn
                try replace r7 := r7.later hbn
                replace hbw := hbw.trans (hbn.mono hbw.size)
                refine hK.out _ _ (fun _ => trivial) ?_
                clear hK K hbn
                obtain ⟨wd, rfl⟩ : ∃ wx, wx = wn := ⟨_, rfl⟩
                try simp only [Act.put, List.setIfInBounds_toArray, List.set_cons_zero, List.set_cons_succ]
                refine wpAnyD_only (i := 10) rfl (by kernel_rfl) (by rfl) (fun K hK => ?_)
                refine wp_store_row 28 _ _ rfl g6 (bytesL (rootL ((leafs L).take P))) rfl rfl 28 _ r6 HAB.out.1 HAB.out.2.1 (bytesL_one _) ?_
                refine hK.out _ _ (fun _ => trivial) ?_
                clear hK K
                refine wpAnyD_only (i := 11) rfl (by kernel_rfl) (by rfl) (fun K hK => ?_)
                refine wp_store_row 28 _ _ rfl g7 (bytesL (rootL ((leafs L).drop P))) rfl rfl 28 _ (r7.setRowOther _ (by omega)) HAB.out.2.2.1 HAB.out.2.2.2 (bytesL_one _) ?_
                refine hK.out _ _ (fun _ => trivial) ?_
                clear hK K
                refine wpAnyD_done (by kernel_rfl) ?_ _
                go_wp2_with fail
                go_meet
                case rel => exact ⟨g6, g7, rfl, rfl, (r6.setRow _).setRowOther _ (by omega), (r7.setRowOther _ (by omega)).setRow _, Below.row (Below.row hbw _ hg6) _ hg7⟩
              refine AllD.cons (i := 9) rfl (by rfl) (fun K hK => ?_) AllD.nil
              go_simp
              rw [zeros32b]
              try have hne := r6.lt
              try replace r6 := r6.alloc (.cells (bytesL (List.replicate 32 0)) 28)
              have hg7 := hbw.size
              have r7 := Row.new wd (bytesL (List.replicate 32 0)) 28 rfl
              replace hbw := chainA hbw (.cells (bytesL (List.replicate 32 0)) 28)
              refine hK.out _ _ (fun _ => trivial) ?_
              clear hK K
              generalize wd.alloc (.cells (bytesL (List.replicate 32 0)) 28) = wn at *
              generalize wd.heap.size = g7 at *
              clear wd
              obtain ⟨wd, rfl⟩ : ∃ wx, wx = wn := ⟨_, rfl⟩
              try simp only [Act.put, List.setIfInBounds_toArray, List.set_cons_zero, List.set_cons_succ]
              refine wpAnyD_all (rs := [7, 8]) (by kernel_rfl) (by simp) ?_
              refine AllD.cons (i := 7) rfl (by rfl) (fun K hK => ?_) ?_
              · skip
                go_simp
                refine (root_e _ _ wd (by rw [List.length_drop, leafs_len]; have := HLI.out.1.1; omega) (HDR.out _ hbw) (HT2.out.later hbw)).mono ?_
                rintro e wn ⟨rfl, hbn⟩
                try replace r6 := r6.later hbn
                try replace r7 := r7.later hbn
                replace hbw := hbw.trans (hbn.mono hbw.size)
                refine hK.out _ _ (fun _ => trivial) ?_
                clear hK K hbn
                obtain ⟨wd, rfl⟩ : ∃ wx, wx = wn := ⟨_, rfl⟩
                try simp only [Act.put, List.setIfInBounds_toArray, List.set_cons_zero, List.set_cons_succ]
                refine wpAnyD_only (i := 8) rfl (by kernel_rfl) (by rfl) (fun K hK => ?_)
                go_simp
                rw [zeros32b]
                try have hne := r7.lt
                try replace r7 := r7.alloc (.cells (bytesL (List.replicate 32 0)) 28)
                have hg6 := hbw.size
                have r6 := Row.new wd (bytesL (List.replicate 32 0)) 28 rfl
                replace hbw := chainA hbw (.cells (bytesL (List.replicate 32 0)) 28)
                refine hK.out _ _ (fun _ => trivial) ?_
                clear hK K
                generalize wd.alloc (.cells (bytesL (List.replicate 32 0)) 28) = wn at *
                generalize wd.heap.size = g6 at *
                clear wd
                obtain ⟨wd, rfl⟩ : ∃ wx, wx = wn := ⟨_, rfl⟩
                try simp only [Act.put, List.setIfInBounds_toArray, List.set_cons_zero, List.set_cons_succ]
                refine wpAnyD_only (i := 10) rfl (by kernel_rfl) (by rfl) (fun K hK => ?_)
                refine wp_store_row 28 _ _ rfl g6 (bytesL (rootL ((leafs L).take P))) rfl rfl 28 _ r6 HAB.out.1 HAB.out.2.1 (bytesL_one _) ?_
                refine hK.out _ _ (fun _ => trivial) ?_
                clear hK K
                refine wpAnyD_only (i := 11) rfl (by kernel_rfl) (by rfl) (fun K hK => ?_)
                refine wp_store_row 28 _ _ rfl g7 (bytesL (rootL ((leafs L).drop P))) rfl rfl 28 _ (r7.setRowOther _ (by omega)) HAB.out.2.2.1 HAB.out.2.2.2 (bytesL_one _) ?_
                refine hK.out _ _ (fun _ => trivial) ?_
                clear hK K
                refine wpAnyD_done (by kernel_rfl) ?_ _
                go_wp2_with fail
                go_meet
                case rel => exact ⟨g6, g7, rfl, rfl, (r6.setRow _).setRowOther _ (by omega), (r7.setRowOther _ (by omega)).setRow _, Below.row (Below.row hbw _ hg6) _ hg7⟩
              refine AllD.cons (i := 8) rfl (by rfl) (fun K hK => ?_) AllD.nil
              go_simp
              rw [zeros32b]
              try have hne := r7.lt
              try replace r7 := r7.alloc (.cells (bytesL (List.replicate 32 0)) 28)
              have hg6 := hbw.size
              have r6 := Row.new wd (bytesL (List.replicate 32 0)) 28 rfl
              replace hbw := chainA hbw (.cells (bytesL (List.replicate 32 0)) 28)
              refine hK.out _ _ (fun _ => trivial) ?_
              clear hK K
              generalize wd.alloc (.cells (bytesL (List.replicate 32 0)) 28) = wn at *
              generalize wd.heap.size = g6 at *
              clear wd
              obtain ⟨wd, rfl⟩ : ∃ wx, wx = wn := ⟨_, rfl⟩
              try simp only [Act.put, List.setIfInBounds_toArray, List.set_cons_zero, List.set_cons_succ]
              refine wpAnyD_only (i := 7) rfl (by kernel_rfl) (by rfl) (fun K hK => ?_)
              go_simp
              refine (root_e _ _ wd (by rw [List.length_drop, leafs_len]; have := HLI.out.1.1; omega) (HDR.out _ hbw) (HT2.out.later hbw)).mono ?_
              rintro e wn ⟨rfl, hbn⟩
              try replace r6 := r6.later hbn
              try replace r7 := r7.later hbn
              replace hbw := hbw.trans (hbn.mono hbw.size)
              refine hK.out _ _ (fun _ => trivial) ?_
              clear hK K hbn
              obtain ⟨wd, rfl⟩ : ∃ wx, wx = wn := ⟨_, rfl⟩
              try simp only [Act.put, List.setIfInBounds_toArray, List.set_cons_zero, List.set_cons_succ]
              refine wpAnyD_only (i := 10) rfl (by kernel_rfl) (by rfl) (fun K hK => ?_)
              refine wp_store_row 28 _ _ rfl g6 (bytesL (rootL ((leafs L).take P))) rfl rfl 28 _ r6 HAB.out.1 HAB.out.2.1 (bytesL_one _) ?_
              refine hK.out _ _ (fun _ => trivial) ?_
              clear hK K
              refine wpAnyD_only (i := 11) rfl (by kernel_rfl) (by rfl) (fun K hK => ?_)
              refine wp_store_row 28 _ _ rfl g7 (bytesL (rootL ((leafs L).drop P))) rfl rfl 28 _ (r7.setRowOther _ (by omega)) HAB.out.2.2.1 HAB.out.2.2.2 (bytesL_one _) ?_
              refine hK.out _ _ (fun _ => trivial) ?_
              clear hK K
              refine wpAnyD_done (by kernel_rfl) ?_ _
              go_wp2_with fail
              go_meet
              case rel => exact ⟨g6, g7, rfl, rfl, (r6.setRow _).setRowOther _ (by omega), (r7.setRowOther _ (by omega)).setRow _, Below.row (Below.row hbw _ hg6) _ hg7⟩
            refine AllD.cons (i := 8) rfl (by rfl) (fun K hK => ?_) ?_
            · skip
              go_simp
              rw [zeros32b]
              try have hne := r7.lt
              try replace r7 := r7.alloc (.cells (bytesL (List.replicate 32 0)) 28)
              have hg6 := hbw.size
              have r6 := Row.new wd (bytesL (List.replicate 32 0)) 28 rfl
              replace hbw := chainA hbw (.cells (bytesL (List.replicate 32 0)) 28)
              refine hK.out _ _ (fun _ => trivial) ?_
              clear hK K
              generalize wd.alloc (.cells (bytesL (List.replicate 32 0)) 28) = wn at *
              generalize wd.heap.size = g6 at *
              clear wd
              obtain ⟨wd, rfl⟩ : ∃ wx, wx = wn := ⟨_, rfl⟩
              try simp only [Act.put, List.setIfInBounds_toArray, List.set_cons_zero, List.set_cons_succ]
              refine wpAnyD_all (rs := [3, 9]) (by kernel_rfl) (by simp) ?_
              refine AllD.cons (i := 3) rfl (by rfl) (fun K hK => ?_) ?_
              · skip
                go_simp
                refine (root_e _ _ wd (by rw [List.length_take, leafs_len]; have := HLI.out.1.1; omega) ((HHS.out.later hbw).take P (by rw [leafs_len]; have := HC.out; omega)) (HT2.out.later hbw)).mono ?_
                rintro e wn ⟨rfl, hbn⟩
                try replace r6 := r6.later hbn
                try replace r7 := r7.later hbn
                replace hbw := hbw.trans (hbn.mono hbw.size)
                refine hK.out _ _ (fun _ => trivial) ?_
                clear hK K hbn
                obtain ⟨wd, rfl⟩ : ∃ wx, wx = wn := ⟨_, rfl⟩
                try simp only [Act.put, List.setIfInBounds_toArray, List.set_cons_zero, List.set_cons_succ]
                refine wpAnyD_all (rs := [7, 9]) (by kernel_rfl) (by simp) ?_
                refine AllD.cons (i := 7) rfl (by rfl) (fun K hK => ?_) ?_
                · skip
                  go_simp
                  refine (root_e _ _ wd (by rw [List.length_drop, leafs_len]; have := HLI.out.1.1; omega) (HDR.out _ hbw) (HT2.out.later hbw)).mono ?_
                  rintro e wn ⟨rfl, hbn⟩
                  try replace r6 := r6.later hbn
                  try replace r7 := r7.later hbn
                  replace hbw := hbw.trans (hbn.mono hbw.size)
                  refine hK.out _ _ (fun _ => trivial) ?_
                  clear hK K hbn
                  obtain ⟨wd, rfl⟩ : ∃ wx, wx = wn := ⟨_, rfl⟩
                  try simp only [Act.put, List.setIfInBounds_toArray, List.set_cons_zero, List.set_cons_succ]
                  refine wpAnyD_only (i := 9) rfl (by kernel_rfl) (by rfl) (fun K hK => ?_)
                  go_simp
                  rw [zeros32b]
                  try have hne := r6.lt
                  try replace r6 := r6.alloc (.cells (bytesL (List.replicate 32 0)) 28)
                  have hg7 := hbw.size
                  have r7 := Row.new wd (bytesL (List.replicate 32 0)) 28 rfl
                  replace hbw := chainA hbw (.cells (bytesL (List.replicate 32 0)) 28)
                  refine hK.out _ _ (fun _ => trivial) ?_
                  clear hK K
                  generalize wd.alloc (.cells (bytesL (List.replicate 32 0)) 28) = wn at *
                  generalize wd.heap.size = g7 at *
                  clear wd
                  obtain ⟨wd, rfl⟩ : ∃ wx, wx = wn := ⟨_, rfl⟩
                  try simp only [Act.put, List.setIfInBounds_toArray, List.set_cons_zero, List.set_cons_succ]
                  refine wpAnyD_only (i := 10) rfl (by kernel_rfl) (by rfl) (fun K hK => ?_)
                  refine wp_store_row 28 _ _ rfl g6 (bytesL (rootL ((leafs L).take P))) rfl rfl 28 _ r6 HAB.out.1 HAB.out.2.1 (bytesL_one _) ?_
                  refine hK.out _ _ (fun _ => trivial) ?_
                  clear hK K
                  refine wpAnyD_only (i := 11) rfl (by kernel_rfl) (by rfl) (fun K hK => ?_)
                  refine wp_store_row 28 _ _ rfl g7 (bytesL (rootL ((leafs L).drop P))) rfl rfl 28 _ (r7.setRowOther _ (by omega)) HAB.out.2.2.1 HAB.out.2.2.2 (bytesL_one _) ?_
                  refine hK.out _ _ (fun _ => trivial) ?_
                  clear hK K
                  refine wpAnyD_done (by kernel_rfl) ?_ _
                  go_wp2_with fail
                  go_meet
                  case rel => exact ⟨g6, g7, rfl, rfl, (r6.setRow _).setRowOther _ (by omega), (r7.setRowOther _ (by omega)).setRow _, Below.row (Below.row hbw _ hg6) _ hg7⟩
                refine AllD.cons (i := 9) rfl (by rfl) (fun K hK => ?_) AllD.nil
                go_simp
                rw [zeros32b]
                try have hne := r6.lt
                try replace r6 := r6.alloc (.cells (bytesL (List.replicate 32 0)) 28)
                have hg7 := hbw.size
                have r7 := Row.new wd (bytesL (List.replicate 32 0)) 28 rfl
                replace hbw := chainA hbw (.cells (bytesL (List.replicate 32 0)) 28)
                refine hK.out _ _ (fun _ => trivial) ?_
                clear hK K
                generalize wd.alloc (.cells (bytesL (List.replicate 32 0)) 28) = wn at *
                generalize wd.heap.size = g7 at *
                clear wd
                obtain ⟨wd, rfl⟩ : ∃ wx, wx = wn := ⟨_, rfl⟩
                try simp only [Act.put, List.setIfInBounds_toArray, List.set_cons_zero, List.set_cons_succ]
                refine wpAnyD_only (i := 7) rfl (by kernel_rfl) (by rfl) (fun K hK => ?_)
                go_simp
                refine (root_e _ _ wd (by rw [List.length_drop, leafs_len]; have := HLI.out.1.1; omega) (HDR.out _ hbw) (HT2.out.later hbw)).mono ?_
                rintro e wn ⟨rfl, hbn⟩
                try replace r6 := r6.later hbn
                try replace r7 := r7.later hbn
                replace hbw := hbw.trans (hbn.mono hbw.size)
                refine hK.out _ _ (fun _ => trivial) ?_
                clear hK K hbn
                obtain ⟨wd, rfl⟩ : ∃ wx, wx = wn := ⟨_, rfl⟩
                try simp only [Act.put, List.setIfInBounds_toArray, List.set_cons_zero, List.set_cons_succ]
                refine wpAnyD_only (i := 10) rfl (by kernel_rfl) (by rfl) (fun K hK => ?_)
                refine wp_store_row 28 _ _ rfl g6 (bytesL (rootL ((leafs L).take P))) rfl rfl 28 _ r6 HAB.out.1 HAB.out.2.1 (bytesL_one _) ?_
                refine hK.out _ _ (fun _ => trivial) ?_
                clear hK K
                refine wpAnyD_only (i := 11) rfl (by kernel_rfl) (by rfl) (fun K hK => ?_)
                refine wp_store_row 28 _ _ rfl g7 (bytesL (rootL ((leafs L).drop P))) rfl rfl 28 _ (r7.setRowOther _ (by omega)) HAB.out.2.2.1 HAB.out.2.2.2 (bytesL_one _) ?_
                refine hK.out _ _ (fun _ => trivial) ?_
                clear hK K
                refine wpAnyD_done (by kernel_rfl) ?_ _
                go_wp2_with fail
                go_meet
                case rel => exact ⟨g6, g7, rfl, rfl, (r6.setRow _).setRowOther _ (by omega), (r7.setRowOther _ (by omega)).setRow _, Below.row (Below.row hbw _ hg6) _ hg7⟩
              refine AllD.cons (i := 9) rfl (by rfl) (fun K hK => ?_) AllD.nil
              go_simp
              rw [zeros32b]
              try have hne := r6.lt
              try replace r6 := r6.alloc (.cells (bytesL (List.replicate 32 0)) 28)
              have hg7 := hbw.size
              have r7 := Row.new wd (bytesL (List.replicate 32 0)) 28 rfl
              replace hbw := chainA hbw (.cells (bytesL (List.replicate 32 0)) 28)
              refine hK.out _ _ (fun _ => trivial) ?_
              clear hK K
              generalize wd.alloc (.cells (bytesL (List.replicate 32 0)) 28) = wn at *
              generalize wd.heap.size = g7 at *
              clear wd
              obtain ⟨wd, rfl⟩ : ∃ wx, wx = wn := ⟨_, rfl⟩
              try simp only [Act.put, List.setIfInBounds_toArray, List.set_cons_zero, List.set_cons_succ]
              refine wpAnyD_only (i := 3) rfl (by kernel_rfl) (by rfl) (fun K hK => ?_)
              go_simp
              refine (root_e _ _ wd (by rw [List.length_take, leafs_len]; have := HLI.out.1.1; omega) ((HHS.out.later hbw).take P (by rw [leafs_len]; have := HC.out; omega)) (HT2.out.later hbw)).mono ?_
              rintro e wn ⟨rfl, hbn⟩
              try replace r6 := r6.later hbn
              try replace r7 := r7.later hbn
              replace hbw := hbw.trans (hbn.mono hbw.size)
              refine hK.out _ _ (fun _ => trivial) ?_
              clear hK K hbn
              obtain ⟨wd, rfl⟩ : ∃ wx, wx = wn := ⟨_, rfl⟩
              try simp only [Act.put, List.setIfInBounds_toArray, List.set_cons_zero, List.set_cons_succ]
              refine wpAnyD_only (i := 7) rfl (by kernel_rfl) (by rfl) (fun K hK => ?_)
              go_simp
              refine (root_e _ _ wd (by rw [List.length_drop, leafs_len]; have := HLI.out.1.1; omega) (HDR.out _ hbw) (HT2.out.later hbw)).mono ?_
              rintro e wn ⟨rfl, hbn⟩
              try replace r6 := r6.later hbn
              try replace r7 := r7.later hbn
              replace hbw := hbw.trans (hbn.mono hbw.size)
              refine hK.out _ _ (fun _ => trivial) ?_
              clear hK K hbn
              obtain ⟨wd, rfl⟩ : ∃ wx, wx = wn := ⟨_, rfl⟩
              try simp only [Act.put, List.setIfInBounds_toArray, List.set_cons_zero, List.set_cons_succ]
              refine wpAnyD_only (i := 10) rfl (by kernel_rfl) (by rfl) (fun K hK => ?_)
              refine wp_store_row 28 _ _ rfl g6 (bytesL (rootL ((leafs L).take P))) rfl rfl 28 _ r6 HAB.out.1 HAB.out.2.1 (bytesL_one _) ?_
              refine hK.out _ _ (fun _ => trivial) ?_
              clear hK K
              refine wpAnyD_only (i := 11) rfl (by kernel_rfl) (by rfl) (fun K hK => ?_)
              refine wp_store_row 28 _ _ rfl g7 (bytesL (rootL ((leafs L).drop P))) rfl rfl 28 _ (r7.setRowOther _ (by omega)) HAB.out.2.2.1 HAB.out.2.2.2 (bytesL_one _) ?_
              refine hK.out _ _ (fun _ => trivial) ?_
              clear hK K
              refine wpAnyD_done (by kernel_rfl) ?_ _
              go_wp2_with fail
              go_meet
              case rel => exact ⟨g6, g7, rfl, rfl, (r6.setRow _).setRowOther _ (by omega), (r7.setRowOther _ (by omega)).setRow _, Below.row (Below.row hbw _ hg6) _ hg7⟩
            refine AllD.cons (i := 9) rfl (by rfl) (fun K hK => ?_) AllD.nil
            go_simp
            rw [zeros32b]
            try have hne := r6.lt
            try replace r6 := r6.alloc (.cells (bytesL (List.replicate 32 0)) 28)
            have hg7 := hbw.size
            have r7 := Row.new wd (bytesL (List.replicate 32 0)) 28 rfl
            replace hbw := chainA hbw (.cells (bytesL (List.replicate 32 0)) 28)
            refine hK.out _ _ (fun _ => trivial) ?_
            clear hK K
            generalize wd.alloc (.cells (bytesL (List.replicate 32 0)) 28) = wn at *
            generalize wd.heap.size = g7 at *
            clear wd
            obtain ⟨wd, rfl⟩ : ∃ wx, wx = wn := ⟨_, rfl⟩
            try simp only [Act.put, List.setIfInBounds_toArray, List.set_cons_zero, List.set_cons_succ]
            refine wpAnyD_all (rs := [3, 8]) (by kernel_rfl) (by simp) ?_
            refine AllD.cons (i := 3) rfl (by rfl) (fun K hK => ?_) ?_
            · skip
              go_simp
              refine (root_e _ _ wd (by rw [List.length_take, leafs_len]; have := HLI.out.1.1; omega) ((HHS.out.later hbw).take P (by rw [leafs_len]; have := HC.out; omega)) (HT2.out.later hbw)).mono ?_
              rintro e wn ⟨rfl, hbn⟩
              try replace r6 := r6.later hbn
              try replace r7 := r7.later hbn
              replace hbw := hbw.trans (hbn.mono hbw.size)
              refine hK.out _ _ (fun _ => trivial) ?_
              clear hK K hbn
              obtain ⟨wd, rfl⟩ : ∃ wx, wx = wn := ⟨_, rfl⟩
              try simp only [Act.put, List.setIfInBounds_toArray, List.set_cons_zero, List.set_cons_succ]
              refine wpAnyD_all (rs := [7, 8]) (by kernel_rfl) (by simp) ?_
              refine AllD.cons (i := 7) rfl (by rfl) (fun K hK => ?_) ?_
              · skip
                go_simp
                refine (root_e _ _ wd (by rw [List.length_drop, leafs_len]; have := HLI.out.1.1; omega) (HDR.out _ hbw) (HT2.out.later hbw)).mono ?_
                rintro e wn ⟨rfl, hbn⟩
                try replace r6 := r6.later hbn
                try replace r7 := r7.later hbn
                replace hbw := hbw.trans (hbn.mono hbw.size)
                refine hK.out _ _ (fun _ => trivial) ?_
                clear hK K hbn
                obtain ⟨wd, rfl⟩ : ∃ wx, wx = wn := ⟨_, rfl⟩
                try simp only [Act.put, List.setIfInBounds_toArray, List.set_cons_zero, List.set_cons_succ]
                refine wpAnyD_only (i := 8) rfl (by kernel_rfl) (by rfl) (fun K hK => ?_)
                go_simp
                rw [zeros32b]
                try have hne := r7.lt
                try replace r7 := r7.alloc (.cells (bytesL (List.replicate 32 0)) 28)
                have hg6 := hbw.size
                have r6 := Row.new wd (bytesL (List.replicate 32 0)) 28 rfl
                replace hbw := chainA hbw (.cells (bytesL (List.replicate 32 0)) 28)
                refine hK.out _ _ (fun _ => trivial) ?_
                clear hK K
                generalize wd.alloc (.cells (bytesL (List.replicate 32 0)) 28) = wn at *
                generalize wd.heap.size = g6 at *
                clear wd
                obtain ⟨wd, rfl⟩ : ∃ wx, wx = wn := ⟨_, rfl⟩
                try simp only [Act.put, List.setIfInBounds_toArray, List.set_cons_zero, List.set_cons_succ]
                refine wpAnyD_only (i := 10) rfl (by kernel_rfl) (by rfl) (fun K hK => ?_)
                refine wp_store_row 28 _ _ rfl g6 (bytesL (rootL ((leafs L).take P))) rfl rfl 28 _ r6 HAB.out.1 HAB.out.2.1 (bytesL_one _) ?_
                refine hK.out _ _ (fun _ => trivial) ?_
                clear hK K
                refine wpAnyD_only (i := 11) rfl (by kernel_rfl) (by rfl) (fun K hK => ?_)
                refine wp_store_row 28 _ _ rfl g7 (bytesL (rootL ((leafs L).drop P))) rfl rfl 28 _ (r7.setRowOther _ (by omega)) HAB.out.2.2.1 HAB.out.2.2.2 (bytesL_one _) ?_
                refine hK.out _ _ (fun _ => trivial) ?_
                clear hK K
                refine wpAnyD_done (by kernel_rfl) ?_ _
                go_wp2_with fail
                go_meet
                case rel => exact ⟨g6, g7, rfl, rfl, (r6.setRow _).setRowOther _ (by omega), (r7.setRowOther _ (by omega)).setRow _, Below.row (Below.row hbw _ hg6) _ hg7⟩
              refine AllD.cons (i := 8) rfl (by rfl) (fun K hK => ?_) AllD.nil
              go_simp
              rw [zeros32b]
              try have hne := r7.lt
              try replace r7 := r7.alloc (.cells (bytesL (List.replicate 32 0)) 28)
              have hg6 := hbw.size
              have r6 := Row.new wd (bytesL (List.replicate 32 0)) 28 rfl
              replace hbw := chainA hbw (.cells (bytesL (List.replicate 32 0)) 28)
              refine hK.out _ _ (fun _ => trivial) ?_
              clear hK K
              generalize wd.alloc (.cells (bytesL (List.replicate 32 0)) 28) = wn at *
              generalize wd.heap.size = g6 at *
              clear wd
              obtain ⟨wd, rfl⟩ : ∃ wx, wx = wn := ⟨_, rfl⟩
              try simp only [Act.put, List.setIfInBounds_toArray, List.set_cons_zero, List.set_cons_succ]
              refine wpAnyD_only (i := 7) rfl (by kernel_rfl) (by rfl) (fun K hK => ?_)
              go_simp
              refine (root_e _ _ wd (by rw [List.length_drop, leafs_len]; have := HLI.out.1.1; omega) (HDR.out _ hbw) (HT2.out.later hbw)).mono ?_
              rintro e wn ⟨rfl, hbn⟩
              try replace r6 := r6.later hbn
              try replace r7 := r7.later hbn
              replace hbw := hbw.trans (hbn.mono hbw.size)
              refine hK.out _ _ (fun _ => trivial) ?_
              clear hK K hbn
              obtain ⟨wd, rfl⟩ : ∃ wx, wx = wn := ⟨_, rfl⟩
              try simp only [Act.put, List.setIfInBounds_toArray, List.set_cons_zero, List.set_cons_succ]
              refine wpAnyD_only (i := 10) rfl (by kernel_rfl) (by rfl) (fun K hK => ?_)
              refine wp_store_row 28 _ _ rfl g6 (bytesL (rootL ((leafs L).take P))) rfl rfl 28 _ r6 HAB.out.1 HAB.out.2.1 (bytesL_one _) ?_
              refine hK.out _ _ (fun _ => trivial) ?_
              clear hK K
              refine wpAnyD_only (i := 11) rfl (by kernel_rfl) (by rfl) (fun K hK => ?_)
              refine wp_store_row 28 _ _ rfl g7 (bytesL (rootL ((leafs L).drop P))) rfl rfl 28 _ (r7.setRowOther _ (by omega)) HAB.out.2.2.1 HAB.out.2.2.2 (bytesL_one _) ?_
              refine hK.out _ _ (fun _ => trivial) ?_
              clear hK K
              refine wpAnyD_done (by kernel_rfl) ?_ _
              go_wp2_with fail
              go_meet
              case rel => exact ⟨g6, g7, rfl, rfl, (r6.setRow _).setRowOther _ (by omega), (r7.setRowOther _ (by omega)).setRow _, Below.row (Below.row hbw _ hg6) _ hg7⟩
            refine AllD.cons (i := 8) rfl (by rfl) (fun K hK => ?_) AllD.nil
            go_simp
            rw [zeros32b]
            try have hne := r7.lt
            try replace r7 := r7.alloc (.cells (bytesL (List.replicate 32 0)) 28)
            have hg6 := hbw.size
            have r6 := Row.new wd (bytesL (List.replicate 32 0)) 28 rfl
            replace hbw := chainA hbw (.cells (bytesL (List.replicate 32 0)) 28)
            refine hK.out _ _ (fun _ => trivial) ?_
            clear hK K
            generalize wd.alloc (.cells (bytesL (List.replicate 32 0)) 28) = wn at *
            generalize wd.heap.size = g6 at *
            clear wd
            obtain ⟨wd, rfl⟩ : ∃ wx, wx = wn := ⟨_, rfl⟩
            try simp only [Act.put, List.setIfInBounds_toArray, List.set_cons_zero, List.set_cons_succ]
            refine wpAnyD_only (i := 3) rfl (by kernel_rfl) (by rfl) (fun K hK => ?_)
            go_simp
            refine (root_e _ _ wd (by rw [List.length_take, leafs_len]; have := HLI.out.1.1; omega) ((HHS.out.later hbw).take P (by rw [leafs_len]; have := HC.out; omega)) (HT2.out.later hbw)).mono ?_
            rintro e wn ⟨rfl, hbn⟩
            try replace r6 := r6.later hbn
            try replace r7 := r7.later hbn
            replace hbw := hbw.trans (hbn.mono hbw.size)
            refine hK.out _ _ (fun _ => trivial) ?_
            clear hK K hbn
            obtain ⟨wd, rfl⟩ : ∃ wx, wx = wn := ⟨_, rfl⟩
            try simp only [Act.put, List.setIfInBounds_toArray, List.set_cons_zero, List.set_cons_succ]
            refine wpAnyD_only (i := 7) rfl (by kernel_rfl) (by rfl) (fun K hK => ?_)
            go_simp
            refine (root_e _ _ wd (by rw [List.length_drop, leafs_len]; have := HLI.out.1.1; omega) (HDR.out _ hbw) (HT2.out.later hbw)).mono ?_
            rintro e wn ⟨rfl, hbn⟩
            try replace r6 := r6.later hbn
            try replace r7 := r7.later hbn
            replace hbw := hbw.trans (hbn.mono hbw.size)
            refine hK.out _ _ (fun _ => trivial) ?_
            clear hK K hbn
            obtain ⟨wd, rfl⟩ : ∃ wx, wx = wn := ⟨_, rfl⟩
            try simp only [Act.put, List.setIfInBounds_toArray, List.set_cons_zero, List.set_cons_succ]
            refine wpAnyD_only (i := 10) rfl (by kernel_rfl) (by rfl) (fun K hK => ?_)
            refine wp_store_row 28 _ _ rfl g6 (bytesL (rootL ((leafs L).take P))) rfl rfl 28 _ r6 HAB.out.1 HAB.out.2.1 (bytesL_one _) ?_
            refine hK.out _ _ (fun _ => trivial) ?_
            clear hK K
            refine wpAnyD_only (i := 11) rfl (by kernel_rfl) (by rfl) (fun K hK => ?_)
            refine wp_store_row 28 _ _ rfl g7 (bytesL (rootL ((leafs L).drop P))) rfl rfl 28 _ (r7.setRowOther _ (by omega)) HAB.out.2.2.1 HAB.out.2.2.2 (bytesL_one _) ?_
            refine hK.out _ _ (fun _ => trivial) ?_
            clear hK K
            refine wpAnyD_done (by kernel_rfl) ?_ _
            go_wp2_with fail
            go_meet
            case rel => exact ⟨g6, g7, rfl, rfl, (r6.setRow _).setRowOther _ (by omega), (r7.setRowOther _ (by omega)).setRow _, Below.row (Below.row hbw _ hg6) _ hg7⟩
          case rest =>
            obtain ⟨g6, g7, rfl, rfl, r6, r7, hbc⟩ := hcut
            have hoA := root_32 _ ((leafs L).take P) (Nat.le_refl _) (fun l hl => leafs_ok L l (List.mem_of_mem_take hl))
            have hoB := root_32 _ ((leafs L).drop P) (Nat.le_refl _) (fun l hl => leafs_ok L l (List.mem_of_mem_drop hl))
            have HRT : Hid (rootL (leafs L) = hsh (msgN (rootL ((leafs L).take P)) (rootL ((leafs L).drop P)))) := by
              have h := root_split (l := leafs L) (s := j) (by rw [leafs_len, ← HPP.out]; exact HC.out.1) (by rw [leafs_len, ← HPP.out]; exact HC.out.2)
              rw [← HPP.out] at h
              exact h
            clear HAB HDR
            generalize rootL ((leafs L).take P) = A at *
            generalize rootL ((leafs L).drop P) = B at *
            have HOK : Hid (H32 A ∧ H32 B) := ⟨hoA, hoB⟩
            have lA : (Tryd.prog.info? 28).map (·.size) = some (bytesL A).toList.length := by rw [Array.length_toList]; exact info_h32 hoA
            have lB : (Tryd.prog.info? 28).map (·.size) = some (bytesL B).toList.length := by rw [Array.length_toList]; exact info_h32 hoB
            have hh1 := hsh_32 (msgN A B)
            have hh2 := hsh_32 (msgL (L.getD 0 []))
            generalize hH1 : hsh (msgN A B) = H1 at *
            have HHE : Hid (hsh (msgN A B) = H1) := hH1
            generalize hH2 : hsh (msgL (L.getD 0 [])) = H2 at *
            have HHL : Hid (hsh (msgL (L.getD 0 [])) = H2) := hH2
            have same1 := hash_same H1 hh1.1
            have same2 := hash_same H2 hh2.1
            have HBC : Hid (Below w.heap.size w wc) := HB.out.trans (hbc.mono HB.out.size)
            obtain ⟨_, _, _, e, hc⟩ := HL.out.later HBC.out
            cases e
            obtain ⟨b0, o0, u0, rfl, hb0, hc0, hu0⟩ := hc 0 (by have := HLI.out.2; omega)
            rw [Nat.add_zero] at hc0
            have HL0 : Hid ((L.getD 0 []).length ≤ 10000) := by
              have := HLI.out.1.2 (L.getD 0 []) (by have := HLI.out.2; simp [List.getD, show 0 < L.length by omega])
              show _ ≤ _
              omega
            have lpos : 0 < L.length := by have := HLI.out.2; omega
            have HTC : Hid (Tab wc) := HT.out.later HBC.out
            have HHC : Hid (HsAt wc (.slice pu L.length cu) (leafs L)) := HHS.out.later hbc
            clear hH1 hH2 hc hoA hoB hh1 hh2 hbc
            generalize hB0 : L.getD 0 [] = B0 at *
            clear hB0
            obtain ⟨_, hm0, q0, d0, rfl, _⟩ := id hu0
            clear hm0
            go_wp2_with fail
            refine wp_region_D (fun _ => true) (fun w' : World => (Row w' g6 (bytesL A) 28 ∧ Row w' g7 (bytesL B) 28) ∧ w'.cell? ⟨b0, o0, none⟩ = some (.slice q0 B0.length d0)) (by kernel_rfl) ?_
            have hS : (fun w' : World => (Row w' g6 (bytesL A) 28 ∧ Row w' g7 (bytesL B) 28) ∧ w'.cell? ⟨b0, o0, none⟩ = some (.slice q0 B0.length d0)) wc.drew := ⟨⟨r6, r7⟩, hc0⟩
            have hbd := (Below.refl wc.heap.size wc).drew
            have HBQ : Hid (Below w.heap.size w wc.drew) := HBC.out.drew
            have HTQ : Hid (Tab wc.drew) := HTC.out.later hbd
            have HHQ : Hid (HsAt wc.drew (.slice pu L.length cu) (leafs L)) := HHC.out.later hbd
            have HU0 : Hid (BytesAt wc.drew (.slice q0 B0.length d0) B0) := hu0.later hbd
            have hb0' : b0 < wc.drew.heap.size := hb0
            clear r6 r7 hc0 hu0 hbd hb0
            obtain ⟨wq, hwq⟩ : ∃ wq, wq = wc.drew := ⟨_, rfl⟩
            rw [← hwq] at hS HBQ HTQ HHQ HU0 hb0' ⊢
            clear hwq
            have HSL : Hid (∀ w' : World, Below wq.heap.size wq w' → (Row w' g6 (bytesL A) 28 ∧ Row w' g7 (bytesL B) 28) ∧ w'.cell? ⟨b0, o0, none⟩ = some (.slice q0 B0.length d0)) := fun w' hb => ⟨⟨hS.1.1.later hb, hS.1.2.later hb⟩, (hb.cell (p := ⟨b0, o0, none⟩) hb0').trans hS.2⟩
            have hbw := Below.refl wq.heap.size wq
            clear hb0'
            refine' wpAnyD_take (i := 0) (v := _) rfl (by kernel_rfl) (by kernel_rfl) (by kernel_rfl) (by kernel_rfl) (fun _ _ _ h => h) (Or.inl ⟨by rfl, ?hy7⟩) hS ?re7
            case hy7 => (intro w hSw; (try dsimp only at hSw); go_simp; (try with_reducible rfl))
            simp only [Act.put, List.setIfInBounds_toArray, List.set_cons_zero, List.set_cons_succ]
            refine wpAnyD_take (i := 2) rfl (by kernel_rfl) (by kernel_rfl) (by kernel_rfl) (by kernel_rfl) (fun _ _ _ h => h) (yieldsIf_load_mid (by rfl) 28 _ rfl g6 0 rfl (bytesL A).toList _ (fun w' hw' => row_range0 hw'.1.1) Tryd.underlying28 rfl lA) hS ?_
            simp only [Act.put, List.setIfInBounds_toArray, List.set_cons_zero, List.set_cons_succ]
            refine wpAnyD_take (i := 3) rfl (by kernel_rfl) (by kernel_rfl) (by kernel_rfl) (by kernel_rfl) (fun _ _ _ h => h) (yieldsIf_load_mid (by rfl) 28 _ rfl g7 0 rfl (bytesL B).toList _ (fun w' hw' => row_range0 hw'.1.2) Tryd.underlying28 rfl lB) hS ?_
            simp only [Act.put, List.setIfInBounds_toArray, List.set_cons_zero, List.set_cons_succ]
            refine wpAnyD_only (i := 1) rfl (by kernel_rfl) (by rfl) (fun K hK => ?_)
            go_simp
            refine (root_e _ (leafs L) wq (by rw [leafs_len]; have := HLI.out.1.1; omega) HHQ.out HTQ.out).mono ?_
            rintro e wn ⟨rfl, hbn⟩
            rw [HRT.out]
            try replace h1 := h1.later hbn
            try replace h0 := h0.later hbn
            try replace hP := hP.later hbn
            replace hbw := hbw.trans (hbn.mono hbw.size)
            have hSn := HSL.out _ hbw
            refine hK.out _ _ (fun _ => hSn) ?_
            clear hK K hbn hS
            have hS := hSn
            clear hSn
            obtain ⟨wd, rfl⟩ : ∃ wx, wx = wn := ⟨_, rfl⟩
            try simp only [Act.put, List.setIfInBounds_toArray, List.set_cons_zero, List.set_cons_succ]
            refine wpAnyD_only (i := 4) rfl (by kernel_rfl) (by rfl) (fun K hK => ?_)
            go_simp
            refine (node_e A B wd HOK.out.1 HOK.out.2 (HTQ.out.later hbw)).mono ?_
            rintro e wn ⟨rfl, hbn⟩
            rw [HHE.out]
            try replace h1 := h1.later hbn
            try replace h0 := h0.later hbn
            try replace hP := hP.later hbn
            replace hbw := hbw.trans (hbn.mono hbw.size)
            have hSn := HSL.out _ hbw
            refine hK.out _ _ (fun _ => hSn) ?_
            clear hK K hbn hS
            have hS := hSn
            clear hSn
            obtain ⟨wd, rfl⟩ : ∃ wx, wx = wn := ⟨_, rfl⟩
            try simp only [Act.put, List.setIfInBounds_toArray, List.set_cons_zero, List.set_cons_succ]
            refine' wpAnyD_take (i := 5) (v := _) rfl (by kernel_rfl) (by kernel_rfl) (by kernel_rfl) (by kernel_rfl) (fun _ _ _ h => h) (Or.inl ⟨by rfl, ?hy8⟩) hS ?re8
            case hy8 => (intro w hSw; (try dsimp only at hSw); go_simp; (try with_reducible rfl))
            simp only [Act.put, List.setIfInBounds_toArray, List.set_cons_zero, List.set_cons_succ]
            refine' wpAnyD_take (i := 6) (v := _) rfl (by kernel_rfl) (by kernel_rfl) (by kernel_rfl) (by kernel_rfl) (fun _ _ _ h => h) (Or.inl ⟨by rfl, ?hy9⟩) hS ?re9
            case hy9 => (intro w hSw; (try dsimp only at hSw); go_simp; (try with_reducible rfl))
            simp only [Act.put, List.setIfInBounds_toArray, List.set_cons_zero, List.set_cons_succ]
            refine wpAnyD_take (i := 7) rfl (by kernel_rfl) (by kernel_rfl) (by kernel_rfl) (by kernel_rfl) (fun _ _ _ h => h) (yieldsIf_load_mid (by rfl) 28 _ rfl g6 0 rfl (bytesL A).toList _ (fun w' hw' => row_range0 hw'.1.1) Tryd.underlying28 rfl lA) hS ?_
            simp only [Act.put, List.setIfInBounds_toArray, List.set_cons_zero, List.set_cons_succ]
            refine wpAnyD_take (i := 8) rfl (by kernel_rfl) (by kernel_rfl) (by kernel_rfl) (by kernel_rfl) (fun _ _ _ h => h) (yieldsIf_load_mid (by rfl) 28 _ rfl g7 0 rfl (bytesL B).toList _ (fun w' hw' => row_range0 hw'.1.2) Tryd.underlying28 rfl lB) hS ?_
            simp only [Act.put, List.setIfInBounds_toArray, List.set_cons_zero, List.set_cons_succ]
            refine' wpAnyD_take (i := 11) (v := _) rfl (by kernel_rfl) (by kernel_rfl) (by kernel_rfl) (by kernel_rfl) (fun _ _ _ h => h) (Or.inl ⟨by rfl, ?hy10⟩) hS ?re10
            case hy10 => (intro w hSw; (try dsimp only at hSw); go_simp; (try with_reducible rfl))
            simp only [Act.put, List.setIfInBounds_toArray, List.set_cons_zero, List.set_cons_succ]
            refine' wpAnyD_take (i := 12) (v := _) rfl (by kernel_rfl) (by kernel_rfl) (by kernel_rfl) (by kernel_rfl) (fun _ _ _ h => h) (Or.inl ⟨by rfl, ?hy11⟩) hS ?re11
            case hy11 => (intro w hSw; (try dsimp only at hSw); go_simp; (try with_reducible rfl))
            simp only [Act.put, List.setIfInBounds_toArray, List.set_cons_zero, List.set_cons_succ]
            refine wpAnyD_all (rs := [9, 10]) (by kernel_rfl) (by simp) ?_
            refine AllD.cons (i := 9) rfl (by rfl) (fun K hK => ?_) ?_
            · skip
              go_simp
              refine (node_e A B wd HOK.out.1 HOK.out.2 (HTQ.out.later hbw)).mono ?_
              rintro e wn ⟨rfl, hbn⟩
              rw [HHE.out]
              try replace h1 := h1.later hbn
              try replace h0 := h0.later hbn
              try replace hP := hP.later hbn
              replace hbw := hbw.trans (hbn.mono hbw.size)
              have hSn := HSL.out _ hbw
              refine hK.out _ _ (fun _ => hSn) ?_
              clear hK K hbn hS
              have hS := hSn
              clear hSn
              obtain ⟨wd, rfl⟩ : ∃ wx, wx = wn := ⟨_, rfl⟩
              try simp only [Act.put, List.setIfInBounds_toArray, List.set_cons_zero, List.set_cons_succ]
              refine wpAnyD_only (i := 10) rfl (by kernel_rfl) (by rfl) (fun K hK => ?_)
              go_simp
              have h1 : BytesAt (wd.alloc (.cells #[.int .u8 1] 5)) (.slice (some ⟨wd.heap.size, 0, none⟩) 1 1) [1] := (Row.new wd _ _ rfl : Row (wd.alloc (.cells (bytesL [1]) 5)) wd.heap.size (bytesL [1]) 5).bytes (by intro x hx; simp at hx; omega) (by unfold maxLen; decide) 1 1 rfl
              replace hbw := chainA hbw (.cells #[.int .u8 1] 5)
              have hSn := HSL.out _ hbw
              refine hK.out _ _ (fun _ => hSn) ?_
              clear hK K hS
              have hS := hSn
              clear hSn
              generalize wd.alloc (.cells #[.int .u8 1] 5) = wn at *
              generalize wd.heap.size = g10 at *
              clear wd
              obtain ⟨wd, rfl⟩ : ∃ wx, wx = wn := ⟨_, rfl⟩
              try simp only [Act.put, List.setIfInBounds_toArray, List.set_cons_zero, List.set_cons_succ]
              refine wpAnyD_only (i := 13) rfl (by kernel_rfl) (by rfl) (fun K hK => ?_)
              go_simp
              have hP := parts3 wd 37 h1 (hS.1.1.bytes HOK.out.1.2 (by rw [HOK.out.1.1]; decide) 32 32 HOK.out.1.1.symm) (hS.1.2.bytes HOK.out.2.2 (by rw [HOK.out.2.1]; decide) 32 32 HOK.out.2.1.symm) 3
              clear h1
              replace hbw := chainA hbw (.cells #[.slice (some ⟨g10, 0, none⟩) 1 1, .slice (some ⟨g6, 0, none⟩) 32 32, .slice (some ⟨g7, 0, none⟩) 32 32] 37)
              have hSn := HSL.out _ hbw
              refine hK.out _ _ (fun _ => hSn) ?_
              clear hK K hS
              have hS := hSn
              clear hSn
              generalize wd.alloc (.cells #[.slice (some ⟨g10, 0, none⟩) 1 1, .slice (some ⟨g6, 0, none⟩) 32 32, .slice (some ⟨g7, 0, none⟩) 32 32] 37) = wn at *
              generalize wd.heap.size = g13 at *
              clear wd
              obtain ⟨wd, rfl⟩ : ∃ wx, wx = wn := ⟨_, rfl⟩
              try simp only [Act.put, List.setIfInBounds_toArray, List.set_cons_zero, List.set_cons_succ]
              refine wpAnyD_only (i := 14) rfl (by kernel_rfl) (by rfl) (fun K hK => ?_)
              go_simp
              refine (of_e _ [[1], A, B] (msgN A B) wd hP (by simp [msgN]) (by rw [msgN_len HOK.out.1 HOK.out.2]; decide) (HTQ.out.later hbw)).mono ?_
              rintro e wn ⟨rfl, hbn⟩
              rw [HHE.out]
              try replace h1 := h1.later hbn
              try replace h0 := h0.later hbn
              try replace hP := hP.later hbn
              replace hbw := hbw.trans (hbn.mono hbw.size)
              have hSn := HSL.out _ hbw
              refine hK.out _ _ (fun _ => hSn) ?_
              clear hK K hbn hS
              have hS := hSn
              clear hSn
              obtain ⟨wd, rfl⟩ : ∃ wx, wx = wn := ⟨_, rfl⟩
              try simp only [Act.put, List.setIfInBounds_toArray, List.set_cons_zero, List.set_cons_succ]
              clear hP
              refine' wpAnyD_take (i := 15) (v := _) rfl (by kernel_rfl) (by kernel_rfl) (by kernel_rfl) (by kernel_rfl) (fun _ _ _ h => h) (Or.inl ⟨by rfl, ?hy12⟩) hS ?re12
              case hy12 => (intro w hSw; (try dsimp only at hSw); go_simp; (try with_reducible rfl))
              simp only [Act.put, List.setIfInBounds_toArray, List.set_cons_zero, List.set_cons_succ]
              refine' wpAnyD_take (i := 16) (v := _) rfl (by kernel_rfl) (by kernel_rfl) (by kernel_rfl) (by kernel_rfl) (fun _ _ _ h => h) (Or.inl ⟨by rfl, ?hy13⟩) hS ?re13
              case hy13 => (intro w hSw; (try dsimp only at hSw); go_simp; (try with_reducible rfl))
              simp only [Act.put, List.setIfInBounds_toArray, List.set_cons_zero, List.set_cons_succ]
              refine' wpAnyD_take (i := 17) (v := _) rfl (by kernel_rfl) (by kernel_rfl) (by kernel_rfl) (by kernel_rfl) (fun _ _ _ h => h) (Or.inl ⟨by rfl, ?hy14⟩) hS ?re14
              case hy14 => (intro w hSw; (try dsimp only at hSw); go_simp; (try with_reducible rfl))
              simp only [Act.put, List.setIfInBounds_toArray, List.set_cons_zero, List.set_cons_succ]
              refine' wpAnyD_take (i := 18) (v := _) rfl (by kernel_rfl) (by kernel_rfl) (by kernel_rfl) (by kernel_rfl) (fun _ _ _ h => h) (Or.inl ⟨by rfl, ?hy15⟩) hS ?re15
              case hy15 => (intro w hSw; (try dsimp only at hSw); go_simp; (try with_reducible rfl))
              simp only [Act.put, List.setIfInBounds_toArray, List.set_cons_zero, List.set_cons_succ]
              refine' wpAnyD_take (i := 19) (v := _) rfl (by kernel_rfl) (by kernel_rfl) (by kernel_rfl) (by kernel_rfl) (fun _ _ _ h => h) (Or.inl ⟨by rfl, ?hy16⟩) hS ?re16
              case hy16 => (intro w hSw; (try dsimp only at hSw); go_simp; (try with_reducible rfl))
              simp only [Act.put, List.setIfInBounds_toArray, List.set_cons_zero, List.set_cons_succ]
              refine' wpAnyD_take (i := 20) (v := _) rfl (by kernel_rfl) (by kernel_rfl) (by kernel_rfl) (by kernel_rfl) (fun _ _ _ h => h) (Or.inl ⟨by rfl, ?hy17⟩) hS ?re17
              case hy17 => (intro w hSw; (try dsimp only at hSw); go_simp; (try with_reducible rfl))
              simp only [Act.put, List.setIfInBounds_toArray, List.set_cons_zero, List.set_cons_succ]
              refine' wpAnyD_take (i := 23) (v := _) rfl (by kernel_rfl) (by kernel_rfl) (by kernel_rfl) (by kernel_rfl) (fun _ _ _ h => h) (Or.inl ⟨by rfl, ?hy18⟩) hS ?re18
              case hy18 => (intro w hSw; (try dsimp only at hSw); go_simp; (try with_reducible rfl))
              simp only [Act.put, List.setIfInBounds_toArray, List.set_cons_zero, List.set_cons_succ]
              refine' wpAnyD_take (i := 24) (v := _) rfl (by kernel_rfl) (by kernel_rfl) (by kernel_rfl) (by kernel_rfl) (fun _ _ _ h => h) (Or.inl ⟨by rfl, ?hy19⟩) hS ?re19
              case hy19 => (intro w hSw; (try dsimp only at hSw); go_simp; (try with_reducible rfl))
              simp only [Act.put, List.setIfInBounds_toArray, List.set_cons_zero, List.set_cons_succ]
              refine' wpAnyD_take (i := 25) (v := _) rfl (by kernel_rfl) (by kernel_rfl) (by kernel_rfl) (by kernel_rfl) (fun _ _ _ h => h) (Or.inl ⟨by rfl, ?hy20⟩) hS ?re20
              case hy20 => (intro w hSw; (try dsimp only at hSw); go_simp; (try with_reducible rfl))
              simp only [Act.put, List.setIfInBounds_toArray, List.set_cons_zero, List.set_cons_succ]
              refine wpAnyD_all (rs := [21, 22]) (by kernel_rfl) (by simp) ?_
              refine AllD.cons (i := 21) rfl (by rfl) (fun K hK => ?_) ?_
              · skip
                go_simp
                refine (leaf_e _ (B0) wd (HU0.out.later hbw) HL0.out (HTQ.out.later hbw)).mono ?_
                rintro e wn ⟨rfl, hbn⟩
                rw [HHL.out]
                try replace h1 := h1.later hbn
                try replace h0 := h0.later hbn
                try replace hP := hP.later hbn
                replace hbw := hbw.trans (hbn.mono hbw.size)
                have hSn := HSL.out _ hbw
                refine hK.out _ _ (fun _ => hSn) ?_
                clear hK K hbn hS
                have hS := hSn
                clear hSn
                obtain ⟨wd, rfl⟩ : ∃ wx, wx = wn := ⟨_, rfl⟩
                try simp only [Act.put, List.setIfInBounds_toArray, List.set_cons_zero, List.set_cons_succ]
                refine wpAnyD_only (i := 22) rfl (by kernel_rfl) (by rfl) (fun K hK => ?_)
                go_simp
                have h0 : BytesAt (wd.alloc (.cells #[.int .u8 0] 5)) (.slice (some ⟨wd.heap.size, 0, none⟩) 1 1) [0] := (Row.new wd _ _ rfl : Row (wd.alloc (.cells (bytesL [0]) 5)) wd.heap.size (bytesL [0]) 5).bytes (by intro x hx; simp at hx; omega) (by unfold maxLen; decide) 1 1 rfl
                replace hbw := chainA hbw (.cells #[.int .u8 0] 5)
                have hSn := HSL.out _ hbw
                refine hK.out _ _ (fun _ => hSn) ?_
                clear hK K hS
                have hS := hSn
                clear hSn
                generalize wd.alloc (.cells #[.int .u8 0] 5) = wn at *
                generalize wd.heap.size = g22 at *
                clear wd
                obtain ⟨wd, rfl⟩ : ∃ wx, wx = wn := ⟨_, rfl⟩
                try simp only [Act.put, List.setIfInBounds_toArray, List.set_cons_zero, List.set_cons_succ]
                refine wpAnyD_only (i := 26) rfl (by kernel_rfl) (by rfl) (fun K hK => ?_)
                go_simp
                have hP := parts2 wd 37 h0 (HU0.out.later hbw) 2
                clear h0
                replace hbw := chainA hbw (.cells #[.slice (some ⟨g22, 0, none⟩) 1 1, .slice q0 B0.length d0] 37)
                have hSn := HSL.out _ hbw
                refine hK.out _ _ (fun _ => hSn) ?_
                clear hK K hS
                have hS := hSn
                clear hSn
                generalize wd.alloc (.cells #[.slice (some ⟨g22, 0, none⟩) 1 1, .slice q0 B0.length d0] 37) = wn at *
                generalize wd.heap.size = g26 at *
                clear wd
                obtain ⟨wd, rfl⟩ : ∃ wx, wx = wn := ⟨_, rfl⟩
                try simp only [Act.put, List.setIfInBounds_toArray, List.set_cons_zero, List.set_cons_succ]
                refine wpAnyD_only (i := 27) rfl (by kernel_rfl) (by rfl) (fun K hK => ?_)
                go_simp
                refine (of_e _ [[0], B0] (msgL (B0)) wd hP (by simp [msgL]) (by have := HL0.out; simp [msgL]; omega) (HTQ.out.later hbw)).mono ?_
                rintro e wn ⟨rfl, hbn⟩
                rw [HHL.out]
                try replace h1 := h1.later hbn
                try replace h0 := h0.later hbn
                try replace hP := hP.later hbn
                replace hbw := hbw.trans (hbn.mono hbw.size)
                have hSn := HSL.out _ hbw
                refine hK.out _ _ (fun _ => hSn) ?_
                clear hK K hbn hS
                have hS := hSn
                clear hSn
                obtain ⟨wd, rfl⟩ : ∃ wx, wx = wn := ⟨_, rfl⟩
                try simp only [Act.put, List.setIfInBounds_toArray, List.set_cons_zero, List.set_cons_succ]
                refine' wpAnyD_take (i := 28) (v := _) rfl (by kernel_rfl) (by kernel_rfl) (by kernel_rfl) (by kernel_rfl) (fun _ _ _ h => h) (Or.inl ⟨by rfl, ?hy21⟩) hS ?re21
                case hy21 => (intro w hSw; (try dsimp only at hSw); go_simp; (try with_reducible rfl))
                simp only [Act.put, List.setIfInBounds_toArray, List.set_cons_zero, List.set_cons_succ]
                refine' wpAnyD_take (i := 29) (v := _) rfl (by kernel_rfl) (by kernel_rfl) (by kernel_rfl) (by kernel_rfl) (fun _ _ _ h => h) (Or.inl ⟨by rfl, ?hy22⟩) hS ?re22
                case hy22 => (intro w hSw; (try dsimp only at hSw); go_simp; (try with_reducible rfl))
                simp only [Act.put, List.setIfInBounds_toArray, List.set_cons_zero, List.set_cons_succ]
                refine' wpAnyD_take (i := 30) (v := _) rfl (by kernel_rfl) (by kernel_rfl) (by kernel_rfl) (by kernel_rfl) (fun _ _ _ h => h) (Or.inl ⟨by rfl, ?hy23⟩) hS ?re23
                case hy23 => (intro w hSw; (try dsimp only at hSw); go_simp; (try with_reducible rfl))
                simp only [Act.put, List.setIfInBounds_toArray, List.set_cons_zero, List.set_cons_succ]
                refine wpAnyD_done (by kernel_rfl) ?_ _
                clear hS
                go_wp2
                go_ret
                exact ⟨rfl, HBQ.out.trans (hbw.mono HBQ.out.size)⟩
              refine AllD.cons (i := 22) rfl (by rfl) (fun K hK => ?_) AllD.nil
              go_simp
              have h0 : BytesAt (wd.alloc (.cells #[.int .u8 0] 5)) (.slice (some ⟨wd.heap.size, 0, none⟩) 1 1) [0] := (Row.new wd _ _ rfl : Row (wd.alloc (.cells (bytesL [0]) 5)) wd.heap.size (bytesL [0]) 5).bytes (by intro x hx; simp at hx; omega) (by unfold maxLen; decide) 1 1 rfl
              replace hbw := chainA hbw (.cells #[.int .u8 0] 5)
              have hSn := HSL.out _ hbw
              refine hK.out _ _ (fun _ => hSn) ?_
              clear hK K hS
              have hS := hSn
              clear hSn
              generalize wd.alloc (.cells #[.int .u8 0] 5) = wn at *
              generalize wd.heap.size = g22 at *
              clear wd
              obtain ⟨wd, rfl⟩ : ∃ wx, wx = wn := ⟨_, rfl⟩
              try simp only [Act.put, List.setIfInBounds_toArray, List.set_cons_zero, List.set_cons_succ]
              refine wpAnyD_all (rs := [21, 26]) (by kernel_rfl) (by simp) ?_
              refine AllD.cons (i := 21) rfl (by rfl) (fun K hK => ?_) ?_
              · skip
                go_simp
                refine (leaf_e _ (B0) wd (HU0.out.later hbw) HL0.out (HTQ.out.later hbw)).mono ?_
                rintro e wn ⟨rfl, hbn⟩
                rw [HHL.out]
                try replace h1 := h1.later hbn
                try replace h0 := h0.later hbn
                try replace hP := hP.later hbn
                replace hbw := hbw.trans (hbn.mono hbw.size)
                have hSn := HSL.out _ hbw
                refine hK.out _ _ (fun _ => hSn) ?_
                clear hK K hbn hS
                have hS := hSn
                clear hSn
                obtain ⟨wd, rfl⟩ : ∃ wx, wx = wn := ⟨_, rfl⟩
                try simp only [Act.put, List.setIfInBounds_toArray, List.set_cons_zero, List.set_cons_succ]
                refine wpAnyD_only (i := 26) rfl (by kernel_rfl) (by rfl) (fun K hK => ?_)
                go_simp
                have hP := parts2 wd 37 h0 (HU0.out.later hbw) 2
                clear h0
                replace hbw := chainA hbw (.cells #[.slice (some ⟨g22, 0, none⟩) 1 1, .slice q0 B0.length d0] 37)
                have hSn := HSL.out _ hbw
                refine hK.out _ _ (fun _ => hSn) ?_
                clear hK K hS
                have hS := hSn
                clear hSn
                generalize wd.alloc (.cells #[.slice (some ⟨g22, 0, none⟩) 1 1, .slice q0 B0.length d0] 37) = wn at *
                generalize wd.heap.size = g26 at *
                clear wd
                obtain ⟨wd, rfl⟩ : ∃ wx, wx = wn := ⟨_, rfl⟩
                try simp only [Act.put, List.setIfInBounds_toArray, List.set_cons_zero, List.set_cons_succ]
                refine wpAnyD_only (i := 27) rfl (by kernel_rfl) (by rfl) (fun K hK => ?_)
                go_simp
                refine (of_e _ [[0], B0] (msgL (B0)) wd hP (by simp [msgL]) (by have := HL0.out; simp [msgL]; omega) (HTQ.out.later hbw)).mono ?_
                rintro e wn ⟨rfl, hbn⟩
                rw [HHL.out]
                try replace h1 := h1.later hbn
                try replace h0 := h0.later hbn
                try replace hP := hP.later hbn
                replace hbw := hbw.trans (hbn.mono hbw.size)
                have hSn := HSL.out _ hbw
                refine hK.out _ _ (fun _ => hSn) ?_
                clear hK K hbn hS
                have hS := hSn
                clear hSn
                obtain ⟨wd, rfl⟩ : ∃ wx, wx = wn := ⟨_, rfl⟩
                try simp only [Act.put, List.setIfInBounds_toArray, List.set_cons_zero, List.set_cons_succ]
                refine' wpAnyD_take (i := 28) (v := _) rfl (by kernel_rfl) (by kernel_rfl) (by kernel_rfl) (by kernel_rfl) (fun _ _ _ h => h) (Or.inl ⟨by rfl, ?hy24⟩) hS ?re24
                case hy24 => (intro w hSw; (try dsimp only at hSw); go_simp; (try with_reducible rfl))
                simp only [Act.put, List.setIfInBounds_toArray, List.set_cons_zero, List.set_cons_succ]
                refine' wpAnyD_take (i := 29) (v := _) rfl (by kernel_rfl) (by kernel_rfl) (by kernel_rfl) (by kernel_rfl) (fun _ _ _ h => h) (Or.inl ⟨by rfl, ?hy25⟩) hS ?re25
                case hy25 => (intro w hSw; (try dsimp only at hSw); go_simp; (try with_reducible rfl))
                simp only [Act.put, List.setIfInBounds_toArray, List.set_cons_zero, List.set_cons_succ]
                refine' wpAnyD_take (i := 30) (v := _) rfl (by kernel_rfl) (by kernel_rfl) (by kernel_rfl) (by kernel_rfl) (fun _ _ _ h => h) (Or.inl ⟨by rfl, ?hy26⟩) hS ?re26
                case hy26 => (intro w hSw; (try dsimp only at hSw); go_simp; (try with_reducible rfl))
                simp only [Act.put, List.setIfInBounds_toArray, List.set_cons_zero, List.set_cons_succ]
                refine wpAnyD_done (by kernel_rfl) ?_ _
                clear hS
                go_wp2
                go_ret
                exact ⟨rfl, HBQ.out.trans (hbw.mono HBQ.out.size)⟩
              refine AllD.cons (i := 26) rfl (by rfl) (fun K hK => ?_) AllD.nil
              go_simp
              have hP := parts2 wd 37 h0 (HU0.out.later hbw) 2
              clear h0
              replace hbw := chainA hbw (.cells #[.slice (some ⟨g22, 0, none⟩) 1 1, .slice q0 B0.length d0] 37)
              have hSn := HSL.out _ hbw
              refine hK.out _ _ (fun _ => hSn) ?_
              clear hK K hS
              have hS := hSn
              clear hSn
              generalize wd.alloc (.cells #[.slice (some ⟨g22, 0, none⟩) 1 1, .slice q0 B0.length d0] 37) = wn at *
              generalize wd.heap.size = g26 at *
              clear wd
              obtain ⟨wd, rfl⟩ : ∃ wx, wx = wn := ⟨_, rfl⟩
              try simp only [Act.put, List.setIfInBounds_toArray, List.set_cons_zero, List.set_cons_succ]
              refine wpAnyD_only (i := 21) rfl (by kernel_rfl) (by rfl) (fun K hK => ?_)
              go_simp
              refine (leaf_e _ (B0) wd (HU0.out.later hbw) HL0.out (HTQ.out.later hbw)).mono ?_
              rintro e wn ⟨rfl, hbn⟩
              rw [HHL.out]
              try replace h1 := h1.later hbn
              try replace h0 := h0.later hbn
              try replace hP := hP.later hbn
              replace hbw := hbw.trans (hbn.mono hbw.size)
              have hSn := HSL.out _ hbw
              refine hK.out _ _ (fun _ => hSn) ?_
              clear hK K hbn hS
              have hS := hSn
              clear hSn
              obtain ⟨wd, rfl⟩ : ∃ wx, wx = wn := ⟨_, rfl⟩
              try simp only [Act.put, List.setIfInBounds_toArray, List.set_cons_zero, List.set_cons_succ]
              refine wpAnyD_only (i := 27) rfl (by kernel_rfl) (by rfl) (fun K hK => ?_)
              go_simp
              refine (of_e _ [[0], B0] (msgL (B0)) wd hP (by simp [msgL]) (by have := HL0.out; simp [msgL]; omega) (HTQ.out.later hbw)).mono ?_
              rintro e wn ⟨rfl, hbn⟩
              rw [HHL.out]
              try replace h1 := h1.later hbn
              try replace h0 := h0.later hbn
              try replace hP := hP.later hbn
              replace hbw := hbw.trans (hbn.mono hbw.size)
              have hSn := HSL.out _ hbw
              refine hK.out _ _ (fun _ => hSn) ?_
              clear hK K hbn hS
              have hS := hSn
              clear hSn
              obtain ⟨wd, rfl⟩ : ∃ wx, wx = wn := ⟨_, rfl⟩
              try simp only [Act.put, List.setIfInBounds_toArray, List.set_cons_zero, List.set_cons_succ]
              refine' wpAnyD_take (i := 28) (v := _) rfl (by kernel_rfl) (by kernel_rfl) (by kernel_rfl) (by kernel_rfl) (fun _ _ _ h => h) (Or.inl ⟨by rfl, ?hy27⟩) hS ?re27
              case hy27 => (intro w hSw; (try dsimp only at hSw); go_simp; (try with_reducible rfl))
              simp only [Act.put, List.setIfInBounds_toArray, List.set_cons_zero, List.set_cons_succ]
              refine' wpAnyD_take (i := 29) (v := _) rfl (by kernel_rfl) (by kernel_rfl) (by kernel_rfl) (by kernel_rfl) (fun _ _ _ h => h) (Or.inl ⟨by rfl, ?hy28⟩) hS ?re28
              case hy28 => (intro w hSw; (try dsimp only at hSw); go_simp; (try with_reducible rfl))
              simp only [Act.put, List.setIfInBounds_toArray, List.set_cons_zero, List.set_cons_succ]
              refine' wpAnyD_take (i := 30) (v := _) rfl (by kernel_rfl) (by kernel_rfl) (by kernel_rfl) (by kernel_rfl) (fun _ _ _ h => h) (Or.inl ⟨by rfl, ?hy29⟩) hS ?re29
              case hy29 => (intro w hSw; (try dsimp only at hSw); go_simp; (try with_reducible rfl))
              simp only [Act.put, List.setIfInBounds_toArray, List.set_cons_zero, List.set_cons_succ]
              refine wpAnyD_done (by kernel_rfl) ?_ _
              clear hS
              go_wp2
              go_ret
              exact ⟨rfl, HBQ.out.trans (hbw.mono HBQ.out.size)⟩
            refine AllD.cons (i := 10) rfl (by rfl) (fun K hK => ?_) AllD.nil
            go_simp
            have h1 : BytesAt (wd.alloc (.cells #[.int .u8 1] 5)) (.slice (some ⟨wd.heap.size, 0, none⟩) 1 1) [1] := (Row.new wd _ _ rfl : Row (wd.alloc (.cells (bytesL [1]) 5)) wd.heap.size (bytesL [1]) 5).bytes (by intro x hx; simp at hx; omega) (by unfold maxLen; decide) 1 1 rfl
            replace hbw := chainA hbw (.cells #[.int .u8 1] 5)
            have hSn := HSL.out _ hbw
            refine hK.out _ _ (fun _ => hSn) ?_
            clear hK K hS
            have hS := hSn
            clear hSn
            generalize wd.alloc (.cells #[.int .u8 1] 5) = wn at *
            generalize wd.heap.size = g10 at *
            clear wd
            obtain ⟨wd, rfl⟩ : ∃ wx, wx = wn := ⟨_, rfl⟩
            try simp only [Act.put, List.setIfInBounds_toArray, List.set_cons_zero, List.set_cons_succ]
            refine wpAnyD_all (rs := [9, 13]) (by kernel_rfl) (by simp) ?_
            refine AllD.cons (i := 9) rfl (by rfl) (fun K hK => ?_) ?_
            · skip
              go_simp
              refine (node_e A B wd HOK.out.1 HOK.out.2 (HTQ.out.later hbw)).mono ?_
              rintro e wn ⟨rfl, hbn⟩
              rw [HHE.out]
              try replace h1 := h1.later hbn
              try replace h0 := h0.later hbn
              try replace hP := hP.later hbn
              replace hbw := hbw.trans (hbn.mono hbw.size)
              have hSn := HSL.out _ hbw
              refine hK.out _ _ (fun _ => hSn) ?_
              clear hK K hbn hS
              have hS := hSn
              clear hSn
              obtain ⟨wd, rfl⟩ : ∃ wx, wx = wn := ⟨_, rfl⟩
              try simp only [Act.put, List.setIfInBounds_toArray, List.set_cons_zero, List.set_cons_succ]
              refine wpAnyD_only (i := 13) rfl (by kernel_rfl) (by rfl) (fun K hK => ?_)
              go_simp
              have hP := parts3 wd 37 h1 (hS.1.1.bytes HOK.out.1.2 (by rw [HOK.out.1.1]; decide) 32 32 HOK.out.1.1.symm) (hS.1.2.bytes HOK.out.2.2 (by rw [HOK.out.2.1]; decide) 32 32 HOK.out.2.1.symm) 3
              clear h1
              replace hbw := chainA hbw (.cells #[.slice (some ⟨g10, 0, none⟩) 1 1, .slice (some ⟨g6, 0, none⟩) 32 32, .slice (some ⟨g7, 0, none⟩) 32 32] 37)
              have hSn := HSL.out _ hbw
              refine hK.out _ _ (fun _ => hSn) ?_
              clear hK K hS
              have hS := hSn
              clear hSn
              generalize wd.alloc (.cells #[.slice (some ⟨g10, 0, none⟩) 1 1, .slice (some ⟨g6, 0, none⟩) 32 32, .slice (some ⟨g7, 0, none⟩) 32 32] 37) = wn at *
              generalize wd.heap.size = g13 at *
              clear wd
              obtain ⟨wd, rfl⟩ : ∃ wx, wx = wn := ⟨_, rfl⟩
              try simp only [Act.put, List.setIfInBounds_toArray, List.set_cons_zero, List.set_cons_succ]
              refine wpAnyD_only (i := 14) rfl (by kernel_rfl) (by rfl) (fun K hK => ?_)
              go_simp
              refine (of_e _ [[1], A, B] (msgN A B) wd hP (by simp [msgN]) (by rw [msgN_len HOK.out.1 HOK.out.2]; decide) (HTQ.out.later hbw)).mono ?_
              rintro e wn ⟨rfl, hbn⟩
              rw [HHE.out]
              try replace h1 := h1.later hbn
              try replace h0 := h0.later hbn
              try replace hP := hP.later hbn
              replace hbw := hbw.trans (hbn.mono hbw.size)
              have hSn := HSL.out _ hbw
              refine hK.out _ _ (fun _ => hSn) ?_
              clear hK K hbn hS
              have hS := hSn
              clear hSn
              obtain ⟨wd, rfl⟩ : ∃ wx, wx = wn := ⟨_, rfl⟩
              try simp only [Act.put, List.setIfInBounds_toArray, List.set_cons_zero, List.set_cons_succ]
              clear hP
              refine' wpAnyD_take (i := 15) (v := _) rfl (by kernel_rfl) (by kernel_rfl) (by kernel_rfl) (by kernel_rfl) (fun _ _ _ h => h) (Or.inl ⟨by rfl, ?hy30⟩) hS ?re30
              case hy30 => (intro w hSw; (try dsimp only at hSw); go_simp; (try with_reducible rfl))
              simp only [Act.put, List.setIfInBounds_toArray, List.set_cons_zero, List.set_cons_succ]
              refine' wpAnyD_take (i := 16) (v := _) rfl (by kernel_rfl) (by kernel_rfl) (by kernel_rfl) (by kernel_rfl) (fun _ _ _ h => h) (Or.inl ⟨by rfl, ?hy31⟩) hS ?re31
              case hy31 => (intro w hSw; (try dsimp only at hSw); go_simp; (try with_reducible rfl))
              simp only [Act.put, List.setIfInBounds_toArray, List.set_cons_zero, List.set_cons_succ]
              refine' wpAnyD_take (i := 17) (v := _) rfl (by kernel_rfl) (by kernel_rfl) (by kernel_rfl) (by kernel_rfl) (fun _ _ _ h => h) (Or.inl ⟨by rfl, ?hy32⟩) hS ?re32
              case hy32 => (intro w hSw; (try dsimp only at hSw); go_simp; (try with_reducible rfl))
              simp only [Act.put, List.setIfInBounds_toArray, List.set_cons_zero, List.set_cons_succ]
              refine' wpAnyD_take (i := 18) (v := _) rfl (by kernel_rfl) (by kernel_rfl) (by kernel_rfl) (by kernel_rfl) (fun _ _ _ h => h) (Or.inl ⟨by rfl, ?hy33⟩) hS ?re33
              case hy33 => (intro w hSw; (try dsimp only at hSw); go_simp; (try with_reducible rfl))
              simp only [Act.put, List.setIfInBounds_toArray, List.set_cons_zero, List.set_cons_succ]
              refine' wpAnyD_take (i := 19) (v := _) rfl (by kernel_rfl) (by kernel_rfl) (by kernel_rfl) (by kernel_rfl) (fun _ _ _ h => h) (Or.inl ⟨by rfl, ?hy34⟩) hS ?re34
              case hy34 => (intro w hSw; (try dsimp only at hSw); go_simp; (try with_reducible rfl))
              simp only [Act.put, List.setIfInBounds_toArray, List.set_cons_zero, List.set_cons_succ]
              refine' wpAnyD_take (i := 20) (v := _) rfl (by kernel_rfl) (by kernel_rfl) (by kernel_rfl) (by kernel_rfl) (fun _ _ _ h => h) (Or.inl ⟨by rfl, ?hy35⟩) hS ?re35
              case hy35 => (intro w hSw; (try dsimp only at hSw); go_simp; (try with_reducible rfl))
              simp only [Act.put, List.setIfInBounds_toArray, List.set_cons_zero, List.set_cons_succ]
              refine' wpAnyD_take (i := 23) (v := _) rfl (by kernel_rfl) (by kernel_rfl) (by kernel_rfl) (by kernel_rfl) (fun _ _ _ h => h) (Or.inl ⟨by rfl, ?hy36⟩) hS ?re36
              case hy36 => (intro w hSw; (try dsimp only at hSw); go_simp; (try with_reducible rfl))
              simp only [Act.put, List.setIfInBounds_toArray, List.set_cons_zero, List.set_cons_succ]
              refine' wpAnyD_take (i := 24) (v := _) rfl (by kernel_rfl) (by kernel_rfl) (by kernel_rfl) (by kernel_rfl) (fun _ _ _ h => h) (Or.inl ⟨by rfl, ?hy37⟩) hS ?re37
              case hy37 => (intro w hSw; (try dsimp only at hSw); go_simp; (try with_reducible rfl))
              simp only [Act.put, List.setIfInBounds_toArray, List.set_cons_zero, List.set_cons_succ]
              refine' wpAnyD_take (i := 25) (v := _) rfl (by kernel_rfl) (by kernel_rfl) (by kernel_rfl) (by kernel_rfl) (fun _ _ _ h => h) (Or.inl ⟨by rfl, ?hy38⟩) hS ?re38
              case hy38 => (intro w hSw; (try dsimp only at hSw); go_simp; (try with_reducible rfl))
              simp only [Act.put, List.setIfInBounds_toArray, List.set_cons_zero, List.set_cons_succ]
              refine wpAnyD_all (rs := [21, 22]) (by kernel_rfl) (by simp) ?_
              refine AllD.cons (i := 21) rfl (by rfl) (fun K hK => ?_) ?_
              · skip
                go_simp
                refine (leaf_e _ (B0) wd (HU0.out.later hbw) HL0.out (HTQ.out.later hbw)).mono ?_
                rintro e wn ⟨rfl, hbn⟩
                rw [HHL.out]
                try replace h1 := h1.later hbn
                try replace h0 := h0.later hbn
                try replace hP := hP.later hbn
                replace hbw := hbw.trans (hbn.mono hbw.size)
                have hSn := HSL.out _ hbw
                refine hK.out _ _ (fun _ => hSn) ?_
                clear hK K hbn hS
                have hS := hSn
                clear hSn
                obtain ⟨wd, rfl⟩ : ∃ wx, wx = wn := ⟨_, rfl⟩
                try simp only [Act.put, List.setIfInBounds_toArray, List.set_cons_zero, List.set_cons_succ]
                refine wpAnyD_only (i := 22) rfl (by kernel_rfl) (by rfl) (fun K hK => ?_)
                go_simp
                have h0 : BytesAt (wd.alloc (.cells #[.int .u8 0] 5)) (.slice (some ⟨wd.heap.size, 0, none⟩) 1 1) [0] := (Row.new wd _ _ rfl : Row (wd.alloc (.cells (bytesL [0]) 5)) wd.heap.size (bytesL [0]) 5).bytes (by intro x hx; simp at hx; omega) (by unfold maxLen; decide) 1 1 rfl
                replace hbw := chainA hbw (.cells #[.int .u8 0] 5)
                have hSn := HSL.out _ hbw
                refine hK.out _ _ (fun _ => hSn) ?_
                clear hK K hS
                have hS := hSn
                clear hSn
                generalize wd.alloc (.cells #[.int .u8 0] 5) = wn at *
                generalize wd.heap.size = g22 at *
                clear wd
                obtain ⟨wd, rfl⟩ : ∃ wx, wx = wn := ⟨_, rfl⟩
                try simp only [Act.put, List.setIfInBounds_toArray, List.set_cons_zero, List.set_cons_succ]
                refine wpAnyD_only (i := 26) rfl (by kernel_rfl) (by rfl) (fun K hK => ?_)
                go_simp
                have hP := parts2 wd 37 h0 (HU0.out.later hbw) 2
                clear h0
                replace hbw := chainA hbw (.cells #[.slice (some ⟨g22, 0, none⟩) 1 1, .slice q0 B0.length d0] 37)
                have hSn := HSL.out _ hbw
                refine hK.out _ _ (fun _ => hSn) ?_
                clear hK K hS
                have hS := hSn
                clear hSn
                generalize wd.alloc (.cells #[.slice (some ⟨g22, 0, none⟩) 1 1, .slice q0 B0.length d0] 37) = wn at *
                generalize wd.heap.size = g26 at *
                clear wd
                obtain ⟨wd, rfl⟩ : ∃ wx, wx = wn := ⟨_, rfl⟩
                try simp only [Act.put, List.setIfInBounds_toArray, List.set_cons_zero, List.set_cons_succ]
                refine wpAnyD_only (i := 27) rfl (by kernel_rfl) (by rfl) (fun K hK => ?_)
                go_simp
                refine (of_e _ [[0], B0] (msgL (B0)) wd hP (by simp [msgL]) (by have := HL0.out; simp [msgL]; omega) (HTQ.out.later hbw)).mono ?_
                rintro e wn ⟨rfl, hbn⟩
                rw [HHL.out]
                try replace h1 := h1.later hbn
                try replace h0 := h0.later hbn
                try replace hP := hP.later hbn
                replace hbw := hbw.trans (hbn.mono hbw.size)
                have hSn := HSL.out _ hbw
                refine hK.out _ _ (fun _ => hSn) ?_
                clear hK K hbn hS
                have hS := hSn
                clear hSn
                obtain ⟨wd, rfl⟩ : ∃ wx, wx = wn := ⟨_, rfl⟩
                try simp only [Act.put, List.setIfInBounds_toArray, List.set_cons_zero, List.set_cons_succ]
                refine' wpAnyD_take (i := 28) (v := _) rfl (by kernel_rfl) (by kernel_rfl) (by kernel_rfl) (by kernel_rfl) (fun _ _ _ h => h) (Or.inl ⟨by rfl, ?hy39⟩) hS ?re39
                case hy39 => (intro w hSw; (try dsimp only at hSw); go_simp; (try with_reducible rfl))
                simp only [Act.put, List.setIfInBounds_toArray, List.set_cons_zero, List.set_cons_succ]
                refine' wpAnyD_take (i := 29) (v := _) rfl (by kernel_rfl) (by kernel_rfl) (by kernel_rfl) (by kernel_rfl) (fun _ _ _ h => h) (Or.inl ⟨by rfl, ?hy40⟩) hS ?re40
                case hy40 => (intro w hSw; (try dsimp only at hSw); go_simp; (try with_reducible rfl))
                simp only [Act.put, List.setIfInBounds_toArray, List.set_cons_zero, List.set_cons_succ]
                refine' wpAnyD_take (i := 30) (v := _) rfl (by kernel_rfl) (by kernel_rfl) (by kernel_rfl) (by kernel_rfl) (fun _ _ _ h => h) (Or.inl ⟨by rfl, ?hy41⟩) hS ?re41
                case hy41 => (intro w hSw; (try dsimp only at hSw); go_simp; (try with_reducible rfl))
                simp only [Act.put, List.setIfInBounds_toArray, List.set_cons_zero, List.set_cons_succ]
                refine wpAnyD_done (by kernel_rfl) ?_ _
                clear hS
                go_wp2
                go_ret
                exact ⟨rfl, HBQ.out.trans (hbw.mono HBQ.out.size)⟩
              refine AllD.cons (i := 22) rfl (by rfl) (fun K hK => ?_) AllD.nil
              go_simp
              have h0 : BytesAt (wd.alloc (.cells #[.int .u8 0] 5)) (.slice (some ⟨wd.heap.size, 0, none⟩) 1 1) [0] := (Row.new wd _ _ rfl : Row (wd.alloc (.cells (bytesL [0]) 5)) wd.heap.size (bytesL [0]) 5).bytes (by intro x hx; simp at hx; omega) (by unfold maxLen; decide) 1 1 rfl
              replace hbw := chainA hbw (.cells #[.int .u8 0] 5)
              have hSn := HSL.out _ hbw
              refine hK.out _ _ (fun _ => hSn) ?_
              clear hK K hS
              have hS := hSn
              clear hSn
              generalize wd.alloc (.cells #[.int .u8 0] 5) = wn at *
              generalize wd.heap.size = g22 at *
              clear wd
              obtain ⟨wd, rfl⟩ : ∃ wx, wx = wn := ⟨_, rfl⟩
              try simp only [Act.put, List.setIfInBounds_toArray, List.set_cons_zero, List.set_cons_succ]
              refine wpAnyD_all (rs := [21, 26]) (by kernel_rfl) (by simp) ?_
              refine AllD.cons (i := 21) rfl (by rfl) (fun K hK => ?_) ?_
              · skip
                go_simp
                refine (leaf_e _ (B0) wd (HU0.out.later hbw) HL0.out (HTQ.out.later hbw)).mono ?_
                rintro e wn ⟨rfl, hbn⟩
                rw [HHL.out]
                try replace h1 := h1.later hbn
                try replace h0 := h0.later hbn
                try replace hP := hP.later hbn
                replace hbw := hbw.trans (hbn.mono hbw.size)
                have hSn := HSL.out _ hbw
                refine hK.out _ _ (fun _ => hSn) ?_
                clear hK K hbn hS
                have hS := hSn
                clear hSn
                obtain ⟨wd, rfl⟩ : ∃ wx, wx = wn := ⟨_, rfl⟩
                try simp only [Act.put, List.setIfInBounds_toArray, List.set_cons_zero, List.set_cons_succ]
                refine wpAnyD_only (i := 26) rfl (by kernel_rfl) (by rfl) (fun K hK => ?_)
                go_simp
                have hP := parts2 wd 37 h0 (HU0.out.later hbw) 2
                clear h0
                replace hbw := chainA hbw (.cells #[.slice (some ⟨g22, 0, none⟩) 1 1, .slice q0 B0.length d0] 37)
                have hSn := HSL.out _ hbw
                refine hK.out _ _ (fun _ => hSn) ?_
                clear hK K hS
                have hS := hSn
                clear hSn
                generalize wd.alloc (.cells #[.slice (some ⟨g22, 0, none⟩) 1 1, .slice q0 B0.length d0] 37) = wn at *
                generalize wd.heap.size = g26 at *
                clear wd
                obtain ⟨wd, rfl⟩ : ∃ wx, wx = wn := ⟨_, rfl⟩
                try simp only [Act.put, List.setIfInBounds_toArray, List.set_cons_zero, List.set_cons_succ]
                refine wpAnyD_only (i := 27) rfl (by kernel_rfl) (by rfl) (fun K hK => ?_)
                go_simp
                refine (of_e _ [[0], B0] (msgL (B0)) wd hP (by simp [msgL]) (by have := HL0.out; simp [msgL]; omega) (HTQ.out.later hbw)).mono ?_
                rintro e wn ⟨rfl, hbn⟩
                rw [HHL.out]
                try replace h1 := h1.later hbn
                try replace h0 := h0.later hbn
                try replace hP := hP.later hbn
                replace hbw := hbw.trans (hbn.mono hbw.size)
                have hSn := HSL.out _ hbw
                refine hK.out _ _ (fun _ => hSn) ?_
                clear hK K hbn hS
                have hS := hSn
                clear hSn
                obtain ⟨wd, rfl⟩ : ∃ wx, wx = wn := ⟨_, rfl⟩
                try simp only [Act.put, List.setIfInBounds_toArray, List.set_cons_zero, List.set_cons_succ]
                refine' wpAnyD_take (i := 28) (v := _) rfl (by kernel_rfl) (by kernel_rfl) (by kernel_rfl) (by kernel_rfl) (fun _ _ _ h => h) (Or.inl ⟨by rfl, ?hy42⟩) hS ?re42
                case hy42 => (intro w hSw; (try dsimp only at hSw); go_simp; (try with_reducible rfl))
                simp only [Act.put, List.setIfInBounds_toArray, List.set_cons_zero, List.set_cons_succ]
                refine' wpAnyD_take (i := 29) (v := _) rfl (by kernel_rfl) (by kernel_rfl) (by kernel_rfl) (by kernel_rfl) (fun _ _ _ h => h) (Or.inl ⟨by rfl, ?hy43⟩) hS ?re43
                case hy43 => (intro w hSw; (try dsimp only at hSw); go_simp; (try with_reducible rfl))
                simp only [Act.put, List.setIfInBounds_toArray, List.set_cons_zero, List.set_cons_succ]
                refine' wpAnyD_take (i := 30) (v := _) rfl (by kernel_rfl) (by kernel_rfl) (by kernel_rfl) (by kernel_rfl) (fun _ _ _ h => h) (Or.inl ⟨by rfl, ?hy44⟩) hS ?re44
                case hy44 => (intro w hSw; (try dsimp only at hSw); go_simp; (try with_reducible rfl))
                simp only [Act.put, List.setIfInBounds_toArray, List.set_cons_zero, List.set_cons_succ]
                refine wpAnyD_done (by kernel_rfl) ?_ _
                clear hS
                go_wp2
                go_ret
                exact ⟨rfl, HBQ.out.trans (hbw.mono HBQ.out.size)⟩
              refine AllD.cons (i := 26) rfl (by rfl) (fun K hK => ?_) AllD.nil
              go_simp
              have hP := parts2 wd 37 h0 (HU0.out.later hbw) 2
              clear h0
              replace hbw := chainA hbw (.cells #[.slice (some ⟨g22, 0, none⟩) 1 1, .slice q0 B0.length d0] 37)
              have hSn := HSL.out _ hbw
              refine hK.out _ _ (fun _ => hSn) ?_
              clear hK K hS
              have hS := hSn
              clear hSn
              generalize wd.alloc (.cells #[.slice (some ⟨g22, 0, none⟩) 1 1, .slice q0 B0.length d0] 37) = wn at *
              generalize wd.heap.size = g26 at *
              clear wd
              obtain ⟨wd, rfl⟩ : ∃ wx, wx = wn := ⟨_, rfl⟩
              try simp only [Act.put, List.setIfInBounds_toArray, List.set_cons_zero, List.set_cons_succ]
              refine wpAnyD_only (i := 21) rfl (by kernel_rfl) (by rfl) (fun K hK => ?_)
              go_simp
              refine (leaf_e _ (B0) wd (HU0.out.later hbw) HL0.out (HTQ.out.later hbw)).mono ?_
              rintro e wn ⟨rfl, hbn⟩
              rw [HHL.out]
              try replace h1 := h1.later hbn
              try replace h0 := h0.later hbn
              try replace hP := hP.later hbn
              replace hbw := hbw.trans (hbn.mono hbw.size)
              have hSn := HSL.out _ hbw
              refine hK.out _ _ (fun _ => hSn) ?_
              clear hK K hbn hS
              have hS := hSn
              clear hSn
              obtain ⟨wd, rfl⟩ : ∃ wx, wx = wn := ⟨_, rfl⟩
              try simp only [Act.put, List.setIfInBounds_toArray, List.set_cons_zero, List.set_cons_succ]
              refine wpAnyD_only (i := 27) rfl (by kernel_rfl) (by rfl) (fun K hK => ?_)
              go_simp
              refine (of_e _ [[0], B0] (msgL (B0)) wd hP (by simp [msgL]) (by have := HL0.out; simp [msgL]; omega) (HTQ.out.later hbw)).mono ?_
              rintro e wn ⟨rfl, hbn⟩
              rw [HHL.out]
              try replace h1 := h1.later hbn
              try replace h0 := h0.later hbn
              try replace hP := hP.later hbn
              replace hbw := hbw.trans (hbn.mono hbw.size)
              have hSn := HSL.out _ hbw
              refine hK.out _ _ (fun _ => hSn) ?_
              clear hK K hbn hS
              have hS := hSn
              clear hSn
              obtain ⟨wd, rfl⟩ : ∃ wx, wx = wn := ⟨_, rfl⟩
              try simp only [Act.put, List.setIfInBounds_toArray, List.set_cons_zero, List.set_cons_succ]
              refine' wpAnyD_take (i := 28) (v := _) rfl (by kernel_rfl) (by kernel_rfl) (by kernel_rfl) (by kernel_rfl) (fun _ _ _ h => h) (Or.inl ⟨by rfl, ?hy45⟩) hS ?re45
              case hy45 => (intro w hSw; (try dsimp only at hSw); go_simp; (try with_reducible rfl))
              simp only [Act.put, List.setIfInBounds_toArray, List.set_cons_zero, List.set_cons_succ]
              refine' wpAnyD_take (i := 29) (v := _) rfl (by kernel_rfl) (by kernel_rfl) (by kernel_rfl) (by kernel_rfl) (fun _ _ _ h => h) (Or.inl ⟨by rfl, ?hy46⟩) hS ?re46
              case hy46 => (intro w hSw; (try dsimp only at hSw); go_simp; (try with_reducible rfl))
              simp only [Act.put, List.setIfInBounds_toArray, List.set_cons_zero, List.set_cons_succ]
              refine' wpAnyD_take (i := 30) (v := _) rfl (by kernel_rfl) (by kernel_rfl) (by kernel_rfl) (by kernel_rfl) (fun _ _ _ h => h) (Or.inl ⟨by rfl, ?hy47⟩) hS ?re47
              case hy47 => (intro w hSw; (try dsimp only at hSw); go_simp; (try with_reducible rfl))
              simp only [Act.put, List.setIfInBounds_toArray, List.set_cons_zero, List.set_cons_succ]
              refine wpAnyD_done (by kernel_rfl) ?_ _
              clear hS
              go_wp2
              go_ret
              exact ⟨rfl, HBQ.out.trans (hbw.mono HBQ.out.size)⟩
            refine AllD.cons (i := 13) rfl (by rfl) (fun K hK => ?_) AllD.nil
            go_simp
            have hP := parts3 wd 37 h1 (hS.1.1.bytes HOK.out.1.2 (by rw [HOK.out.1.1]; decide) 32 32 HOK.out.1.1.symm) (hS.1.2.bytes HOK.out.2.2 (by rw [HOK.out.2.1]; decide) 32 32 HOK.out.2.1.symm) 3
            clear h1
            replace hbw := chainA hbw (.cells #[.slice (some ⟨g10, 0, none⟩) 1 1, .slice (some ⟨g6, 0, none⟩) 32 32, .slice (some ⟨g7, 0, none⟩) 32 32] 37)
            have hSn := HSL.out _ hbw
            refine hK.out _ _ (fun _ => hSn) ?_
            clear hK K hS
            have hS := hSn
            clear hSn
            generalize wd.alloc (.cells #[.slice (some ⟨g10, 0, none⟩) 1 1, .slice (some ⟨g6, 0, none⟩) 32 32, .slice (some ⟨g7, 0, none⟩) 32 32] 37) = wn at *
            generalize wd.heap.size = g13 at *
            clear wd
            obtain ⟨wd, rfl⟩ : ∃ wx, wx = wn := ⟨_, rfl⟩
            try simp only [Act.put, List.setIfInBounds_toArray, List.set_cons_zero, List.set_cons_succ]
            refine wpAnyD_only (i := 9) rfl (by kernel_rfl) (by rfl) (fun K hK => ?_)
            go_simp
            refine (node_e A B wd HOK.out.1 HOK.out.2 (HTQ.out.later hbw)).mono ?_
            rintro e wn ⟨rfl, hbn⟩
            rw [HHE.out]
            try replace h1 := h1.later hbn
            try replace h0 := h0.later hbn
            try replace hP := hP.later hbn
            replace hbw := hbw.trans (hbn.mono hbw.size)
            have hSn := HSL.out _ hbw
            refine hK.out _ _ (fun _ => hSn) ?_
            clear hK K hbn hS
            have hS := hSn
            clear hSn
            obtain ⟨wd, rfl⟩ : ∃ wx, wx = wn := ⟨_, rfl⟩
            try simp only [Act.put, List.setIfInBounds_toArray, List.set_cons_zero, List.set_cons_succ]
            refine wpAnyD_only (i := 14) rfl (by kernel_rfl) (by rfl) (fun K hK => ?_)
            go_simp
            refine (of_e _ [[1], A, B] (msgN A B) wd hP (by simp [msgN]) (by rw [msgN_len HOK.out.1 HOK.out.2]; decide) (HTQ.out.later hbw)).mono ?_
            rintro e wn ⟨rfl, hbn⟩
            rw [HHE.out]
            try replace h1 := h1.later hbn
            try replace h0 := h0.later hbn
            try replace hP := hP.later hbn
            replace hbw := hbw.trans (hbn.mono hbw.size)
            have hSn := HSL.out _ hbw
            refine hK.out _ _ (fun _ => hSn) ?_
            clear hK K hbn hS
            have hS := hSn
            clear hSn
            obtain ⟨wd, rfl⟩ : ∃ wx, wx = wn := ⟨_, rfl⟩
            try simp only [Act.put, List.setIfInBounds_toArray, List.set_cons_zero, List.set_cons_succ]
            clear hP
            refine' wpAnyD_take (i := 15) (v := _) rfl (by kernel_rfl) (by kernel_rfl) (by kernel_rfl) (by kernel_rfl) (fun _ _ _ h => h) (Or.inl ⟨by rfl, ?hy48⟩) hS ?re48
            case hy48 => (intro w hSw; (try dsimp only at hSw); go_simp; (try with_reducible rfl))
            simp only [Act.put, List.setIfInBounds_toArray, List.set_cons_zero, List.set_cons_succ]
            refine' wpAnyD_take (i := 16) (v := _) rfl (by kernel_rfl) (by kernel_rfl) (by kernel_rfl) (by kernel_rfl) (fun _ _ _ h => h) (Or.inl ⟨by rfl, ?hy49⟩) hS ?re49
            case hy49 => (intro w hSw; (try dsimp only at hSw); go_simp; (try with_reducible rfl))
            simp only [Act.put, List.setIfInBounds_toArray, List.set_cons_zero, List.set_cons_succ]
            refine' wpAnyD_take (i := 17) (v := _) rfl (by kernel_rfl) (by kernel_rfl) (by kernel_rfl) (by kernel_rfl) (fun _ _ _ h => h) (Or.inl ⟨by rfl, ?hy50⟩) hS ?re50
            case hy50 => (intro w hSw; (try dsimp only at hSw); go_simp; (try with_reducible rfl))
            simp only [Act.put, List.setIfInBounds_toArray, List.set_cons_zero, List.set_cons_succ]
            refine' wpAnyD_take (i := 18) (v := _) rfl (by kernel_rfl) (by kernel_rfl) (by kernel_rfl) (by kernel_rfl) (fun _ _ _ h => h) (Or.inl ⟨by rfl, ?hy51⟩) hS ?re51
            case hy51 => (intro w hSw; (try dsimp only at hSw); go_simp; (try with_reducible rfl))
            simp only [Act.put, List.setIfInBounds_toArray, List.set_cons_zero, List.set_cons_succ]
            refine' wpAnyD_take (i := 19) (v := _) rfl (by kernel_rfl) (by kernel_rfl) (by kernel_rfl) (by kernel_rfl) (fun _ _ _ h => h) (Or.inl ⟨by rfl, ?hy52⟩) hS ?re52
            case hy52 => (intro w hSw; (try dsimp only at hSw); go_simp; (try with_reducible rfl))
            simp only [Act.put, List.setIfInBounds_toArray, List.set_cons_zero, List.set_cons_succ]
            refine' wpAnyD_take (i := 20) (v := _) rfl (by kernel_rfl) (by kernel_rfl) (by kernel_rfl) (by kernel_rfl) (fun _ _ _ h => h) (Or.inl ⟨by rfl, ?hy53⟩) hS ?re53
            case hy53 => (intro w hSw; (try dsimp only at hSw); go_simp; (try with_reducible rfl))
            simp only [Act.put, List.setIfInBounds_toArray, List.set_cons_zero, List.set_cons_succ]
            refine' wpAnyD_take (i := 23) (v := _) rfl (by kernel_rfl) (by kernel_rfl) (by kernel_rfl) (by kernel_rfl) (fun _ _ _ h => h) (Or.inl ⟨by rfl, ?hy54⟩) hS ?re54
            case hy54 => (intro w hSw; (try dsimp only at hSw); go_simp; (try with_reducible rfl))
            simp only [Act.put, List.setIfInBounds_toArray, List.set_cons_zero, List.set_cons_succ]
            refine' wpAnyD_take (i := 24) (v := _) rfl (by kernel_rfl) (by kernel_rfl) (by kernel_rfl) (by kernel_rfl) (fun _ _ _ h => h) (Or.inl ⟨by rfl, ?hy55⟩) hS ?re55
            case hy55 => (intro w hSw; (try dsimp only at hSw); go_simp; (try with_reducible rfl))
            simp only [Act.put, List.setIfInBounds_toArray, List.set_cons_zero, List.set_cons_succ]
            refine' wpAnyD_take (i := 25) (v := _) rfl (by kernel_rfl) (by kernel_rfl) (by kernel_rfl) (by kernel_rfl) (fun _ _ _ h => h) (Or.inl ⟨by rfl, ?hy56⟩) hS ?re56
            case hy56 => (intro w hSw; (try dsimp only at hSw); go_simp; (try with_reducible rfl))
            simp only [Act.put, List.setIfInBounds_toArray, List.set_cons_zero, List.set_cons_succ]
            refine wpAnyD_all (rs := [21, 22]) (by kernel_rfl) (by simp) ?_
            refine AllD.cons (i := 21) rfl (by rfl) (fun K hK => ?_) ?_
            · skip
              go_simp
              refine (leaf_e _ (B0) wd (HU0.out.later hbw) HL0.out (HTQ.out.later hbw)).mono ?_
              rintro e wn ⟨rfl, hbn⟩
              rw [HHL.out]
              try replace h1 := h1.later hbn
              try replace h0 := h0.later hbn
              try replace hP := hP.later hbn
              replace hbw := hbw.trans (hbn.mono hbw.size)
              have hSn := HSL.out _ hbw
              refine hK.out _ _ (fun _ => hSn) ?_
              clear hK K hbn hS
              have hS := hSn
              clear hSn
              obtain ⟨wd, rfl⟩ : ∃ wx, wx = wn := ⟨_, rfl⟩
              try simp only [Act.put, List.setIfInBounds_toArray, List.set_cons_zero, List.set_cons_succ]
              refine wpAnyD_only (i := 22) rfl (by kernel_rfl) (by rfl) (fun K hK => ?_)
              go_simp
              have h0 : BytesAt (wd.alloc (.cells #[.int .u8 0] 5)) (.slice (some ⟨wd.heap.size, 0, none⟩) 1 1) [0] := (Row.new wd _ _ rfl : Row (wd.alloc (.cells (bytesL [0]) 5)) wd.heap.size (bytesL [0]) 5).bytes (by intro x hx; simp at hx; omega) (by unfold maxLen; decide) 1 1 rfl
              replace hbw := chainA hbw (.cells #[.int .u8 0] 5)
              have hSn := HSL.out _ hbw
              refine hK.out _ _ (fun _ => hSn) ?_
              clear hK K hS
              have hS := hSn
              clear hSn
              generalize wd.alloc (.cells #[.int .u8 0] 5) = wn at *
              generalize wd.heap.size = g22 at *
              clear wd
              obtain ⟨wd, rfl⟩ : ∃ wx, wx = wn := ⟨_, rfl⟩
              try simp only [Act.put, List.setIfInBounds_toArray, List.set_cons_zero, List.set_cons_succ]
              refine wpAnyD_only (i := 26) rfl (by kernel_rfl) (by rfl) (fun K hK => ?_)
              go_simp
              have hP := parts2 wd 37 h0 (HU0.out.later hbw) 2
              clear h0
              replace hbw := chainA hbw (.cells #[.slice (some ⟨g22, 0, none⟩) 1 1, .slice q0 B0.length d0] 37)
              have hSn := HSL.out _ hbw
              refine hK.out _ _ (fun _ => hSn) ?_
              clear hK K hS
              have hS := hSn
              clear hSn
              generalize wd.alloc (.cells #[.slice (some ⟨g22, 0, none⟩) 1 1, .slice q0 B0.length d0] 37) = wn at *
              generalize wd.heap.size = g26 at *
              clear wd
              obtain ⟨wd, rfl⟩ : ∃ wx, wx = wn := ⟨_, rfl⟩
              try simp only [Act.put, List.setIfInBounds_toArray, List.set_cons_zero, List.set_cons_succ]
              refine wpAnyD_only (i := 27) rfl (by kernel_rfl) (by rfl) (fun K hK => ?_)
              go_simp
              refine (of_e _ [[0], B0] (msgL (B0)) wd hP (by simp [msgL]) (by have := HL0.out; simp [msgL]; omega) (HTQ.out.later hbw)).mono ?_
              rintro e wn ⟨rfl, hbn⟩
              rw [HHL.out]
              try replace h1 := h1.later hbn
              try replace h0 := h0.later hbn
              try replace hP := hP.later hbn
              replace hbw := hbw.trans (hbn.mono hbw.size)
              have hSn := HSL.out _ hbw
              refine hK.out _ _ (fun _ => hSn) ?_
              clear hK K hbn hS
              have hS := hSn
              clear hSn
              obtain ⟨wd, rfl⟩ : ∃ wx, wx = wn := ⟨_, rfl⟩
              try simp only [Act.put, List.setIfInBounds_toArray, List.set_cons_zero, List.set_cons_succ]
              refine' wpAnyD_take (i := 28) (v := _) rfl (by kernel_rfl) (by kernel_rfl) (by kernel_rfl) (by kernel_rfl) (fun _ _ _ h => h) (Or.inl ⟨by rfl, ?hy57⟩) hS ?re57
              case hy57 => (intro w hSw; (try dsimp only at hSw); go_simp; (try with_reducible rfl))
              simp only [Act.put, List.setIfInBounds_toArray, List.set_cons_zero, List.set_cons_succ]
              refine' wpAnyD_take (i := 29) (v := _) rfl (by kernel_rfl) (by kernel_rfl) (by kernel_rfl) (by kernel_rfl) (fun _ _ _ h => h) (Or.inl ⟨by rfl, ?hy58⟩) hS ?re58
              case hy58 => (intro w hSw; (try dsimp only at hSw); go_simp; (try with_reducible rfl))
              simp only [Act.put, List.setIfInBounds_toArray, List.set_cons_zero, List.set_cons_succ]
              refine' wpAnyD_take (i := 30) (v := _) rfl (by kernel_rfl) (by kernel_rfl) (by kernel_rfl) (by kernel_rfl) (fun _ _ _ h => h) (Or.inl ⟨by rfl, ?hy59⟩) hS ?re59
              case hy59 => (intro w hSw; (try dsimp only at hSw); go_simp; (try with_reducible rfl))
              simp only [Act.put, List.setIfInBounds_toArray, List.set_cons_zero, List.set_cons_succ]
              refine wpAnyD_done (by kernel_rfl) ?_ _
              clear hS
              go_wp2
              go_ret
              exact ⟨rfl, HBQ.out.trans (hbw.mono HBQ.out.size)⟩
            refine AllD.cons (i := 22) rfl (by rfl) (fun K hK => ?_) AllD.nil
            go_simp
            have h0 : BytesAt (wd.alloc (.cells #[.int .u8 0] 5)) (.slice (some ⟨wd.heap.size, 0, none⟩) 1 1) [0] := (Row.new wd _ _ rfl : Row (wd.alloc (.cells (bytesL [0]) 5)) wd.heap.size (bytesL [0]) 5).bytes (by intro x hx; simp at hx; omega) (by unfold maxLen; decide) 1 1 rfl
            replace hbw := chainA hbw (.cells #[.int .u8 0] 5)
            have hSn := HSL.out _ hbw
            refine hK.out _ _ (fun _ => hSn) ?_
            clear hK K hS
            have hS := hSn
            clear hSn
            generalize wd.alloc (.cells #[.int .u8 0] 5) = wn at *
            generalize wd.heap.size = g22 at *
            clear wd
            obtain ⟨wd, rfl⟩ : ∃ wx, wx = wn := ⟨_, rfl⟩
            try simp only [Act.put, List.setIfInBounds_toArray, List.set_cons_zero, List.set_cons_succ]
            refine wpAnyD_all (rs := [21, 26]) (by kernel_rfl) (by simp) ?_
            refine AllD.cons (i := 21) rfl (by rfl) (fun K hK => ?_) ?_
            · skip
              go_simp
              refine (leaf_e _ (B0) wd (HU0.out.later hbw) HL0.out (HTQ.out.later hbw)).mono ?_
              rintro e wn ⟨rfl, hbn⟩
              rw [HHL.out]
              try replace h1 := h1.later hbn
              try replace h0 := h0.later hbn
              try replace hP := hP.later hbn
              replace hbw := hbw.trans (hbn.mono hbw.size)
              have hSn := HSL.out _ hbw
              refine hK.out _ _ (fun _ => hSn) ?_
              clear hK K hbn hS
              have hS := hSn
              clear hSn
              obtain ⟨wd, rfl⟩ : ∃ wx, wx = wn := ⟨_, rfl⟩
              try simp only [Act.put, List.setIfInBounds_toArray, List.set_cons_zero, List.set_cons_succ]
              refine wpAnyD_only (i := 26) rfl (by kernel_rfl) (by rfl) (fun K hK => ?_)
              go_simp
              have hP := parts2 wd 37 h0 (HU0.out.later hbw) 2
              clear h0
              replace hbw := chainA hbw (.cells #[.slice (some ⟨g22, 0, none⟩) 1 1, .slice q0 B0.length d0] 37)
              have hSn := HSL.out _ hbw
              refine hK.out _ _ (fun _ => hSn) ?_
              clear hK K hS
              have hS := hSn
              clear hSn
              generalize wd.alloc (.cells #[.slice (some ⟨g22, 0, none⟩) 1 1, .slice q0 B0.length d0] 37) = wn at *
              generalize wd.heap.size = g26 at *
              clear wd
              obtain ⟨wd, rfl⟩ : ∃ wx, wx = wn := ⟨_, rfl⟩
              try simp only [Act.put, List.setIfInBounds_toArray, List.set_cons_zero, List.set_cons_succ]
              refine wpAnyD_only (i := 27) rfl (by kernel_rfl) (by rfl) (fun K hK => ?_)
              go_simp
              refine (of_e _ [[0], B0] (msgL (B0)) wd hP (by simp [msgL]) (by have := HL0.out; simp [msgL]; omega) (HTQ.out.later hbw)).mono ?_
              rintro e wn ⟨rfl, hbn⟩
              rw [HHL.out]
              try replace h1 := h1.later hbn
              try replace h0 := h0.later hbn
              try replace hP := hP.later hbn
              replace hbw := hbw.trans (hbn.mono hbw.size)
              have hSn := HSL.out _ hbw
              refine hK.out _ _ (fun _ => hSn) ?_
              clear hK K hbn hS
              have hS := hSn
              clear hSn
              obtain ⟨wd, rfl⟩ : ∃ wx, wx = wn := ⟨_, rfl⟩
              try simp only [Act.put, List.setIfInBounds_toArray, List.set_cons_zero, List.set_cons_succ]
              refine' wpAnyD_take (i := 28) (v := _) rfl (by kernel_rfl) (by kernel_rfl) (by kernel_rfl) (by kernel_rfl) (fun _ _ _ h => h) (Or.inl ⟨by rfl, ?hy60⟩) hS ?re60
              case hy60 => (intro w hSw; (try dsimp only at hSw); go_simp; (try with_reducible rfl))
              simp only [Act.put, List.setIfInBounds_toArray, List.set_cons_zero, List.set_cons_succ]
              refine' wpAnyD_take (i := 29) (v := _) rfl (by kernel_rfl) (by kernel_rfl) (by kernel_rfl) (by kernel_rfl) (fun _ _ _ h => h) (Or.inl ⟨by rfl, ?hy61⟩) hS ?re61
              case hy61 => (intro w hSw; (try dsimp only at hSw); go_simp; (try with_reducible rfl))
              simp only [Act.put, List.setIfInBounds_toArray, List.set_cons_zero, List.set_cons_succ]
              refine' wpAnyD_take (i := 30) (v := _) rfl (by kernel_rfl) (by kernel_rfl) (by kernel_rfl) (by kernel_rfl) (fun _ _ _ h => h) (Or.inl ⟨by rfl, ?hy62⟩) hS ?re62
              case hy62 => (intro w hSw; (try dsimp only at hSw); go_simp; (try with_reducible rfl))
              simp only [Act.put, List.setIfInBounds_toArray, List.set_cons_zero, List.set_cons_succ]
              refine wpAnyD_done (by kernel_rfl) ?_ _
              clear hS
              go_wp2
              go_ret
              exact ⟨rfl, HBQ.out.trans (hbw.mono HBQ.out.size)⟩
            refine AllD.cons (i := 26) rfl (by rfl) (fun K hK => ?_) AllD.nil
            go_simp
            have hP := parts2 wd 37 h0 (HU0.out.later hbw) 2
            clear h0
            replace hbw := chainA hbw (.cells #[.slice (some ⟨g22, 0, none⟩) 1 1, .slice q0 B0.length d0] 37)
            have hSn := HSL.out _ hbw
            refine hK.out _ _ (fun _ => hSn) ?_
            clear hK K hS
            have hS := hSn
            clear hSn
            generalize wd.alloc (.cells #[.slice (some ⟨g22, 0, none⟩) 1 1, .slice q0 B0.length d0] 37) = wn at *
            generalize wd.heap.size = g26 at *
            clear wd
            obtain ⟨wd, rfl⟩ : ∃ wx, wx = wn := ⟨_, rfl⟩
            try simp only [Act.put, List.setIfInBounds_toArray, List.set_cons_zero, List.set_cons_succ]
            refine wpAnyD_only (i := 21) rfl (by kernel_rfl) (by rfl) (fun K hK => ?_)
            go_simp
            refine (leaf_e _ (B0) wd (HU0.out.later hbw) HL0.out (HTQ.out.later hbw)).mono ?_
            rintro e wn ⟨rfl, hbn⟩
            rw [HHL.out]
            try replace h1 := h1.later hbn
            try replace h0 := h0.later hbn
            try replace hP := hP.later hbn
            replace hbw := hbw.trans (hbn.mono hbw.size)
            have hSn := HSL.out _ hbw
            refine hK.out _ _ (fun _ => hSn) ?_
            clear hK K hbn hS
            have hS := hSn
            clear hSn
            obtain ⟨wd, rfl⟩ : ∃ wx, wx = wn := ⟨_, rfl⟩
            try simp only [Act.put, List.setIfInBounds_toArray, List.set_cons_zero, List.set_cons_succ]
            refine wpAnyD_only (i := 27) rfl (by kernel_rfl) (by rfl) (fun K hK => ?_)
            go_simp
            refine (of_e _ [[0], B0] (msgL (B0)) wd hP (by simp [msgL]) (by have := HL0.out; simp [msgL]; omega) (HTQ.out.later hbw)).mono ?_
            rintro e wn ⟨rfl, hbn⟩
            rw [HHL.out]
            try replace h1 := h1.later hbn
            try replace h0 := h0.later hbn
            try replace hP := hP.later hbn
            replace hbw := hbw.trans (hbn.mono hbw.size)
            have hSn := HSL.out _ hbw
            refine hK.out _ _ (fun _ => hSn) ?_
            clear hK K hbn hS
            have hS := hSn
            clear hSn
            obtain ⟨wd, rfl⟩ : ∃ wx, wx = wn := ⟨_, rfl⟩
            try simp only [Act.put, List.setIfInBounds_toArray, List.set_cons_zero, List.set_cons_succ]
            refine' wpAnyD_take (i := 28) (v := _) rfl (by kernel_rfl) (by kernel_rfl) (by kernel_rfl) (by kernel_rfl) (fun _ _ _ h => h) (Or.inl ⟨by rfl, ?hy63⟩) hS ?re63
            case hy63 => (intro w hSw; (try dsimp only at hSw); go_simp; (try with_reducible rfl))
            simp only [Act.put, List.setIfInBounds_toArray, List.set_cons_zero, List.set_cons_succ]
            refine' wpAnyD_take (i := 29) (v := _) rfl (by kernel_rfl) (by kernel_rfl) (by kernel_rfl) (by kernel_rfl) (fun _ _ _ h => h) (Or.inl ⟨by rfl, ?hy64⟩) hS ?re64
            case hy64 => (intro w hSw; (try dsimp only at hSw); go_simp; (try with_reducible rfl))
            simp only [Act.put, List.setIfInBounds_toArray, List.set_cons_zero, List.set_cons_succ]
            refine' wpAnyD_take (i := 30) (v := _) rfl (by kernel_rfl) (by kernel_rfl) (by kernel_rfl) (by kernel_rfl) (fun _ _ _ h => h) (Or.inl ⟨by rfl, ?hy65⟩) hS ?re65
            case hy65 => (intro w hSw; (try dsimp only at hSw); go_simp; (try with_reducible rfl))
            simp only [Act.put, List.setIfInBounds_toArray, List.set_cons_zero, List.set_cons_succ]
            refine wpAnyD_done (by kernel_rfl) ?_ _
            clear hS
            go_wp2
            go_ret
            exact ⟨rfl, HBQ.out.trans (hbw.mono HBQ.out.size)⟩
        · have c1' : ¬ (L.length : Int) ≤ (P : Int) := by omega
          have c2' : 2 * (P : Int) < (L.length : Int) := by omega
          go_wp2
          go_ret
          exact ⟨rfl, HB.out⟩
      · have c1' : (L.length : Int) ≤ (P : Int) := by omega
        go_wp2
        go_ret
        exact ⟨rfl, HB.out⟩
end Go.Proofs.YtepohpniflmblaaDoor
