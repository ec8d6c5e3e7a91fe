
/-
  The walk of HistoryRoots.
-/
import Derived.Test.YtepohpniflmblaaDoorHiP
import Derived.Test.YtepohpniflmblaaDoorHiO
import Derived.Test.YtepohpniflmblaaDoorHiM
namespace Go.Proofs.YtepohpniflmblaaDoor
open Go.RowKit
set_option maxRecDepth 100000
set_option linter.unusedVariables false
set_option linter.unusedSimpArgs false

/-- An operation whose guard says yes. -/
theorem wpList_w {ops : Array Oper} {rest : List Oper} {o : Oper} {a : Act} {w : World} {Q : Exit → Act → World → Prop} (hw : Region.wanted o (yielded ops a.tmps) = true) (h : o.wp Tryd.prog a w (wpList Tryd.prog ops Q rest) Q) : wpList Tryd.prog ops Q (o :: rest) a w := by
  unfold wpList
  rw [if_pos hw]
  exact Or.inl h
theorem path_none (i : Int) (v : Value) (L : List (List Nat)) (w : World) (hi : i < 0 ∨ (L.length : Int) ≤ i) (hv : HsAt w v L) :
    Calls Tryd.prog 17 #[.pointer none, .int .i64 i, v] w fun e w' => e = .returned (.tuple #[.slice none 0 0, .bool false]) ∧ w' = w := by
  obtain ⟨p, c, rfl, hc1, hc2⟩ := hv.form
  clear hv
  have l0 : (0 : Int) ≤ (L.length : Int) := by omega
  by_cases h0 : i < 0
  · go_enter Tryd.func17, Tryd.ntmps17
    go_wp2
    go_ret2
    exact ⟨rfl, rfl⟩
  · have h1 : (L.length : Int) ≤ i := by omega
    have h2 : 0 ≤ i := by omega
    go_enter Tryd.func17, Tryd.ntmps17
    go_wp2
    go_ret2
    exact ⟨rfl, rfl⟩
theorem climb_e (i n : Nat) (h : List Nat) (v : Value) (P : List (List Nat)) (w : World) (hi : i < n) (h64 : n ≤ 64) (hh : H32 h) (hv : HsAt w v P) (hP : P.length = (wayL i false 0 n).2.length) (ht : Tab w) :
    Calls Tryd.prog 18 #[.pointer none, .agg (bytesL h), .int .i64 (i : Nat), .int .i64 (n : Nat), v] w fun e w' => e = .returned (.tuple #[.agg (bytesL (climbS (wayL i false 0 n).2 P h P.length)), .bool true]) ∧ Below w.heap.size w w' :=
  (climb_any i n h v P w.heap.size (.pointer none) [] w hi h64 hh hv hP ht ht.pos (Nat.le_refl _) (TpAt.nil _ _ _) (by simp)).mono fun e w' ⟨h1, _, h3⟩ => ⟨h1, TStep.below (Below.refl _ _) h3⟩
set_option maxHeartbeats 40000000 in
theorem roots_walk (v0 : Value) (L : List (List Nat)) (x : Int) (w : World) (hL : PartsAt w v0 L) (hcap0 : ∀ q n c, v0 = .slice q n c → n ≤ c) (lo : -9223372036854775808 ≤ x) (hi : x ≤ 9223372036854775807) (ht : Tab w) :
    Calls Tryd.prog 3 #[v0, .int .i64 x] w fun e w' => e = .returned (.bool true) ∧ Below w.heap.size w w' := by
  obtain ⟨hlm, p0, c0, rfl, hcells⟩ := id hL
  have HL : Hid (PartsAt w (.slice p0 L.length c0) L) := hL
  have HT : Hid (Tab w) := ht
  clear hcells hcap0
  unfold maxLen at hlm
  have l0 : (0 : Int) ≤ (L.length : Int) := by omega
  have l1 : (L.length : Int) ≤ 9223372036854775807 := by omega
  go_enter Tryd.func3, Tryd.ntmps3
  go_wp2_with (go_at_call 12; refine stop ?_)
  refine (fit6_any w HT.out).mono ?_
  rintro e w1 ⟨rfl, hb1⟩
  go_wp2_with (go_at_call 13; refine stop ?_)
  refine (light_any _ L w1 (HL.out.later hb1)).mono ?_
  rintro e w1' ⟨b, rfl, hli, hw1⟩
  obtain rfl := hw1.symm
  clear hw1
  cases b with
  | false =>
    go_wp2
    go_ret
    exact ⟨rfl, hb1⟩
  | true =>
    have hli := hli rfl
    have HLI : Hid (Light L) := hli
    have l40 : (L.length : Int) ≤ 40 := by have := hli.1; omega
    clear hli l1
    go_wp2_with (go_at_call 14; refine stop ?_)
    refine (leaves_any _ L w1 (HL.out.later hb1) HLI.out (HT.out.later hb1)).mono ?_
    rintro e w2 ⟨u, rfl, hu, hb2⟩
    obtain ⟨pu, nu, cu, rfl, hnu⟩ := ownsRowN_form hu
    rw [leafs_len] at hnu
    subst hnu
    have hb12 := hb1.trans (hb2.mono hb1.size)
    have HHS : Hid (HsAt w2 (.slice pu L.length cu) (leafs L)) := hu.hs (leafs_ok L)
    have HB : Hid (Below w.heap.size w w2) := hb12
    have HT2 : Hid (Tab w2) := HT.out.later hb12
    clear hb2 hb12 hb1 hu
    go_wp2_with (go_at_call 15; refine stop ?_)
    refine (root_e _ (leafs L) w2 (by rw [leafs_len]; have := HLI.out.1; omega) HHS.out HT2.out).mono ?_
    rintro e w3 ⟨rfl, hb3⟩
    have h32 := root_32 _ (leafs L) (Nat.le_refl _) (leafs_ok L)
    have HRQ : Hid (∃ R, rootL (leafs L) = R) := ⟨_, rfl⟩
    obtain ⟨R, hR⟩ := HRQ.out
    rw [hR] at h32 ⊢
    have HR : Hid (rootL (leafs L) = R) := hR
    clear HRQ hR
    have HH3 : Hid (HsAt w3 (.slice pu L.length cu) (leafs L)) := HHS.out.later hb3
    have HB3 : Hid (Below w.heap.size w w3) := HB.out.trans (hb3.mono HB.out.size)
    have HT3 : Hid (Tab w3) := HT2.out.later hb3
    have iR := info_h32 h32
    have zR := z32_size h32
    have oR := bytesL_one R
    have hne := hash_neq R R h32.1 h32.1
    rw [decide_eq_true rfl] at hne
    have hsame := hash_same R h32.1
    have lR : (Tryd.prog.info? 28).map (·.size) = some (bytesL R).toList.length := by rw [Array.length_toList]; exact iR
    clear hb3
    go_wp2_with (refine wpList_store_row rfl 28 _ _ rfl w3.heap.size (bytesL R) rfl rfl 28 _ (heap_alloc_new w3 _) iR zR oR ?_; refine stop ?_)
    unfold Stop
    rw [zeros32b]
    have r6 := (Row.new w3 (bytesL (List.replicate 32 0)) 28 rfl).setRow (bytesL R)
    have bz : Below w3.heap.size w3 ((w3.alloc (.cells (bytesL (List.replicate 32 0)) 28)).setRow w3.heap.size (bytesL R)) := Below.row (below1 w3 _) _ (Nat.le_refl _)
    generalize (w3.alloc (.cells (bytesL (List.replicate 32 0)) 28)).setRow w3.heap.size (bytesL R) = w4 at *
    have HH4 : Hid (HsAt w4 (.slice pu L.length cu) (leafs L)) := HH3.out.later bz
    have HB4 : Hid (Below w.heap.size w w4) := HB3.out.trans (bz.mono HB3.out.size)
    have HT4 : Hid (Tab w4) := HT3.out.later bz
    clear bz
    go_wp2_with fail
    refine wp_region_D (fun _ => true) (fun w' : World => Row w' w3.heap.size (bytesL R) 28) (by kernel_rfl) ?_
    have hS : (fun w' : World => Row w' w3.heap.size (bytesL R) 28) w4.drew := r6
    have hbd := (Below.refl w4.heap.size w4).drew
    have HH5 : Hid (HsAt w4.drew (.slice pu L.length cu) (leafs L)) := HH4.out.later hbd
    have HB5 : Hid (Below w.heap.size w w4.drew) := HB4.out.drew
    have HT5 : Hid (Tab w4.drew) := HT4.out.later hbd
    clear r6 hbd
    generalize w4.drew = w5 at *
    refine' wpAnyD_take (i := 1) (v := _) rfl (by kernel_rfl) (by kernel_rfl) (by kernel_rfl) (by kernel_rfl) (fun _ _ _ h => h) (Or.inl ⟨by rfl, ?hy1⟩) hS ?re1
    case hy1 => (intro w hSw; (try dsimp only at hSw); go_simp; (try with_reducible rfl))
    simp only [Act.put, List.setIfInBounds_toArray, List.set_cons_zero, List.set_cons_succ]
    refine wpAnyD_take (i := 0) rfl (by kernel_rfl) (by kernel_rfl) (by kernel_rfl) (by kernel_rfl) (fun _ _ _ h => h) (yieldsIf_load_mid (by rfl) 28 _ rfl w3.heap.size 0 rfl (bytesL R).toList _ (fun w' hw' => row_range0 hw') Tryd.underlying28 rfl lR) hS ?_
    simp only [Act.put, List.setIfInBounds_toArray, List.set_cons_zero, List.set_cons_succ]
    refine wpAnyD_only (i := 2) rfl (by kernel_rfl) (by rfl) (fun K hK => ?_)
    go_simp
    refine (lroot_any _ _ (leafs L) w5 (Nat.le_refl _) (by rw [leafs_len]; have := HLI.out.1; omega) HH5.out HT5.out).mono ?_
    rintro e w6 ⟨rfl, hb6⟩
    rw [HR.out]
    have hS6 : Row w6 w3.heap.size (bytesL R) 28 := Row.later hS hb6
    refine hK.out _ _ (fun _ => hS6) ?_
    clear hK K hS
    have hS := hS6
    clear hS6
    try simp only [Act.put, List.setIfInBounds_toArray, List.set_cons_zero, List.set_cons_succ]
    have HH6 : Hid (HsAt w6 (.slice pu L.length cu) (leafs L)) := HH5.out.later hb6
    have HB6 : Hid (Below w.heap.size w w6) := HB5.out.trans (hb6.mono HB5.out.size)
    have HT6 : Hid (Tab w6) := HT5.out.later hb6
    clear hb6
    refine' wpAnyD_take (i := 3) (v := _) rfl (by kernel_rfl) (by kernel_rfl) (by kernel_rfl) (by kernel_rfl) (fun _ _ _ h => h) (Or.inl ⟨by rfl, ?hy2⟩) hS ?re2
    case hy2 => (intro w hSw; (try dsimp only at hSw); go_simp; (try with_reducible rfl))
    simp only [Act.put, List.setIfInBounds_toArray, List.set_cons_zero, List.set_cons_succ]
    refine wpAnyD_done (by kernel_rfl) ?_ _
    have HR6 : Hid (Row w6 w3.heap.size (bytesL R) 28) := hS
    clear hS
    go_wp2_with fail
    go_loopw [31] (fun a wr => ∃ k : Nat, k ≤ L.length ∧ a = .int .i64 k ∧ Below w6.heap.size w6 wr) (fun a _ => L.length - (intOf a).toNat)
    case atStart => exact ⟨0, Nat.zero_le _, rfl, Below.refl _ _⟩
    case round =>
      obtain ⟨k, hk, rfl, hbz⟩ := hrel
      have k0 : (0 : Int) ≤ (k : Int) := by omega
      by_cases hkl : k < L.length
      · have k1 : (k : Int) < (L.length : Int) := by omega
        have HK : Hid (k < L.length) := hkl
        have HBZ : Hid (Below w6.heap.size w6 wr) := hbz
        have HHr : Hid (HsAt wr (.slice pu L.length cu) (leafs L)) := HH6.out.later hbz
        have HTr : Hid (Tab wr) := HT6.out.later hbz
        clear hkl hbz hk
        go_wp2_with (go_at_call 17; refine stop ?_)
        refine (path_any k _ (leafs L) wr (by rw [leafs_len]; exact HK.out) (by rw [leafs_len]; have := HLI.out.1; omega) HHr.out HTr.out).mono ?_
        rintro e w7 ⟨u7, rfl, hu7, hb7⟩
        obtain ⟨pp, np, cp, rfl, hnp⟩ := ownsRowN_form hu7
        have hpl := path_len k false (leafs L).length (leafs L)
        have hpok : ∀ l ∈ pathL k false (leafs L).length (leafs L), H32 l := path_ok k false _ (leafs L) (leafs_ok L)
        have hcr := climb_root (L := leafs L) (i := k) (by rw [leafs_len]; exact HK.out)
        have hpl2 := HLI.out.1
        have hwl := (wayL_ok _ k false 0 L.length (Nat.le_refl _) (Nat.zero_le _) HK.out).2.1
        rw [leafs_len] at hu7 hnp hpl hpok hcr
        rw [HR.out] at hcr
        generalize pathL k false L.length (leafs L) = P at *
        subst hnp
        have HPL : Hid (P.length = (wayL k false 0 L.length).2.length) := hpl
        have p1 : (P.length : Int) ≤ 63 := by omega
        have pz : (0 : Int) ≤ (P.length : Int) := by omega
        have HP7 : Hid (HsAt w7 (.slice pp P.length cp) P) := hu7.hs hpok
        have HH7 : Hid (HsAt w7 (.slice pu L.length cu) (leafs L)) := HHr.out.later hb7
        have HT7 : Hid (Tab w7) := HTr.out.later hb7
        have HB7 : Hid (Below w6.heap.size w6 w7) := HBZ.out.trans (hb7.mono HBZ.out.size)
        obtain ⟨gh, oh, hph, hgh, hrh, okh⟩ := HH7.out.at (i := k) (by rw [leafs_len]; exact HK.out)
        cases hph
        generalize (leafs L).getD k [] = h at *
        have HCR : Hid (climbS (wayL k false 0 L.length).2 P h P.length = R) := hcr
        have lh : (Tryd.prog.info? 28).map (·.size) = some (bytesL h).toList.length := by rw [Array.length_toList]; exact info_h32 okh
        clear hpl hwl hpl2 hb7 hu7 hpok hcr
        go_wp2_with (first | refine wpList_load_mid rfl 28 _ rfl gh (oh + k * 32) rfl (bytesL h).toList _ hrh Tryd.underlying28 rfl lh ?_ | (go_at_call 18; refine stop ?_))
        refine (climb_e k L.length h _ P w7 HK.out (by have := HLI.out.1; omega) okh HP7.out HPL.out HT7.out).mono ?_
        rintro e w8 ⟨rfl, hb8⟩
        rw [HCR.out]
        have HB8 : Hid (Below w6.heap.size w6 w8) := HB7.out.trans (hb8.mono HB7.out.size)
        clear hb8 hrh lh okh hgh
        go_wp2_with (refine wpList_store_row rfl 28 _ _ rfl w8.heap.size (bytesL R) rfl rfl 28 _ (heap_alloc_new w8 _) iR zR oR ?_; refine stop ?_)
        unfold Stop
        rw [zeros32b]
        have r10 := (Row.new w8 (bytesL (List.replicate 32 0)) 28 rfl).setRow (bytesL R)
        have bz : Below w8.heap.size w8 ((w8.alloc (.cells (bytesL (List.replicate 32 0)) 28)).setRow w8.heap.size (bytesL R)) := Below.row (below1 w8 _) _ (Nat.le_refl _)
        generalize (w8.alloc (.cells (bytesL (List.replicate 32 0)) 28)).setRow w8.heap.size (bytesL R) = w9 at *
        have hb9 := HB8.out.trans (bz.mono HB8.out.size)
        have r69 : Row w9 w3.heap.size (bytesL R) 28 := HR6.out.later hb9
        have HB9 : Hid (Below w6.heap.size w6 w9) := hb9
        clear bz hb9
        go_wp2_with (first | refine wpList_w (by rfl) (wp_load_row 28 _ rfl w8.heap.size rfl 28 (bytesL R) (0, 0) _ r10 Tryd.underlying28 rfl iR ?_) | refine wpList_w (by rfl) (wp_load_row 28 _ rfl w3.heap.size rfl 28 (bytesL R) (0, 0) _ r69 Tryd.underlying28 rfl iR ?_))
        go_roundw
        case rel => exact ⟨k + 1, HK.out, by go_num, HB9.out⟩
        case measure => simp [intOf]; have := HK.out; omega
      · have k1 : ¬ (k : Int) < (L.length : Int) := by omega
        have HHr : Hid (HsAt wr (.slice pu L.length cu) (leafs L)) := HH6.out.later hbz
        have HBr : Hid (Below w.heap.size w wr) := HB6.out.trans (hbz.mono HB6.out.size)
        obtain rfl : k = L.length := by omega
        clear hbz hk
        go_wp2_with (go_at_call 17; refine stop ?_)
        refine (path_none _ _ (leafs L) wr (Or.inr (by rw [leafs_len]; exact Int.le_refl _)) HHr.out).mono ?_
        rintro e w7 ⟨rfl, hw7⟩
        obtain rfl := hw7.symm
        clear hw7
        go_wp2_with (go_at_call 17; refine stop ?_)
        refine (path_none (-1) _ (leafs L) _ (Or.inl (by decide)) HHr.out).mono ?_
        rintro e w8 ⟨rfl, hw8⟩
        obtain rfl := hw8.symm
        clear hw8
        go_wp2
        go_ret
        exact ⟨rfl, HBr.out⟩
end Go.Proofs.YtepohpniflmblaaDoor
