
/-
  HistoryLengths: its walk. For every input.
-/
import Derived.Test.YtepohpniflmblaaDoorHiI
import Derived.LoopTactic
namespace Go.Proofs.YtepohpniflmblaaDoor
open Go.RowKit
set_option maxRecDepth 100000
set_option linter.unusedVariables false
set_option linter.unusedSimpArgs false

theorem split_half {n s : Nat} (h : 2 ≤ n) (hs : n ≤ 2 ^ (s + 1)) : split n ≤ 2 ^ s ∧ n - split n ≤ 2 ^ s := by
  unfold split
  have hne : n - 1 ≠ 0 := by omega
  have h1 := Nat.log2_self_le hne
  have h2 : n - 1 < 2 ^ (Nat.log2 (n - 1) + 1) := Nat.lt_log2_self
  have h3 : Nat.log2 (n - 1) < s + 1 := (Nat.log2_lt hne).2 (by omega)
  have h4 : 2 ^ Nat.log2 (n - 1) ≤ 2 ^ s := Nat.pow_le_pow_right (by decide) (by omega)
  rw [Nat.pow_succ] at h2
  omega
theorem way_steps : ∀ (s i : Nat) (ea : Bool) (f t : Nat), f ≤ i → i < t → t - f ≤ 2 ^ s → (wayL i ea f t).2.length ≤ s := by
  intro s
  induction s with
  | zero =>
    intro i ea f t h1 h2 h
    rw [wayL_stop (Or.inl (by simp at h; omega))]
    exact Nat.le_refl _
  | succ s ih =>
    intro i ea f t h1 h2 h
    by_cases c : t < f + 2 ∨ (ea = true ∧ t = i + 1)
    · rw [wayL_stop c]
      exact Nat.zero_le _
    · have g1 : f + 2 ≤ t := by omega
      have g2 : ¬ (ea = true ∧ t = i + 1) := fun h => c (Or.inr h)
      have hs := split_lt (show 2 ≤ t - f by omega)
      have hh := split_half (show 2 ≤ t - f by omega) h
      by_cases g3 : i < f + split (t - f)
      · rw [wayL_low g1 g2 g3]
        have := ih i ea f (f + split (t - f)) h1 g3 (by omega)
        simp only [List.length_append, List.length_singleton]
        omega
      · rw [wayL_high g1 g2 g3]
        have := ih i ea (f + split (t - f)) t (by omega) h2 (by omega)
        simp only [List.length_append, List.length_singleton]
        omega
theorem path_len (i : Nat) (ea : Bool) (n : Nat) (L : List (List Nat)) : (pathL i ea n L).length = (wayL i ea 0 n).2.length := by simp [pathL]
theorem path_some {i n : Nat} (h : i < n) (h2 : 2 ≤ n) : 1 ≤ (wayL i false 0 n).2.length := by
  by_cases g3 : i < 0 + split (n - 0)
  · rw [wayL_low (by omega) (by simp) g3]; simp
  · rw [wayL_high (by omega) (by simp) g3]; simp
theorem grow_len {m n s : Nat} (L : List (List Nat)) (h0 : 0 < m) (hm : m < n) (hs : n ≤ 2 ^ s) : (growL m n L).length ≤ 2 * s := by
  have h1 := way_steps s (m - 1) true 0 n (Nat.zero_le _) (by omega) (by omega)
  have hs1 : 1 ≤ s := by
    apply Nat.one_le_iff_ne_zero.2
    intro e
    subst e
    simp at hs
    omega
  unfold growL
  rw [List.length_append, path_len]
  split <;> simp <;> omega
theorem pow_small (s : Nat) (h : s ≤ 6) : wrap64 ((2 : Int) ^ s) = ((2 ^ s : Nat) : Int) ∧ 2 ^ s ≤ 64 := by
  have hc : s = 0 ∨ s = 1 ∨ s = 2 ∨ s = 3 ∨ s = 4 ∨ s = 5 ∨ s = 6 := by omega
  rcases hc with rfl | rfl | rfl | rfl | rfl | rfl | rfl <;> simp [wrap64]
set_option maxHeartbeats 4000000 in
theorem lengths_walk (v0 : Value) (L : List (List Nat)) (x : Int) (w : World) (hL : PartsAt w v0 L) (hcap0 : ∀ q n c, v0 = .slice q n c → n ≤ c) (lo : -9223372036854775808 ≤ x) (hi : x ≤ 9223372036854775807) (ht : Tab w) :
    Calls Tryd.prog 8 #[v0, .int .i64 x] w fun e w' => e = .returned (.bool true) ∧ Below w.heap.size w w' := by
  obtain ⟨hlm, p0, c0, rfl, hcells⟩ := id hL
  have HL : Hid (PartsAt w (.slice p0 L.length c0) L) := hL
  have HT : Hid (Tab w) := ht
  unfold maxLen at hlm
  have l0 : (0 : Int) ≤ (L.length : Int) := by omega
  have l1 : (L.length : Int) ≤ 9223372036854775807 := by omega
  clear hL hcells hcap0 ht hlm
  go_enter Tryd.func8, Tryd.ntmps8
  go_wp2_with (go_at_call 12; refine stop ?_)
  refine (fit6_any w HT.out).mono ?_
  rintro e w1 ⟨rfl, hb1⟩
  go_wp2_with (go_at_call 13; refine stop ?_)
  refine (light_any _ L w1 (HL.out.later hb1)).mono ?_
  rintro e w1' ⟨b, rfl, hli, hw1⟩
  obtain rfl := hw1.symm
  clear hw1
  cases b with
  | false =>
    go_wp2
    go_ret
    exact ⟨rfl, hb1⟩
  | true =>
    have hli := hli rfl
    by_cases h0 : L.length = 0
    · have h0' : (L.length : Int) = 0 := by omega
      go_wp2
      go_ret
      exact ⟨rfl, hb1⟩
    · have h0' : ((L.length : Int) == 0) = false := by rw [beq_eq_false_iff_ne]; omega
      have HLI : Hid (Light L ∧ L.length ≠ 0) := ⟨hli, h0⟩
      have l40 : (L.length : Int) ≤ 40 := by have := hli.1; omega
      clear hli h0 l1
      go_wp2_with (go_at_call 14; refine stop ?_)
      refine (leaves_any _ L w1 (HL.out.later hb1) HLI.out.1 (HT.out.later hb1)).mono ?_
      rintro e w2 ⟨u, rfl, hu, hb2⟩
      obtain ⟨pu, nu, cu, rfl, hnu⟩ := ownsRowN_form hu
      rw [leafs_len] at hnu
      subst hnu
      have hb12 := hb1.trans (hb2.mono hb1.size)
      have HU : Hid (OwnH w2 w1.heap.size (.slice pu L.length cu) (leafs L)) := hu
      have HB : Hid (Below w.heap.size w w2) := hb12
      clear hb2 hb12 hb1 hu
      go_wp2
      go_loopw [6] (fun i wr => wr = w2 ∧ ∃ s : Nat, s ≤ 6 ∧ i = .int .i64 s) (fun i _ => 7 - (intOf i).toNat)
      case atStart => exact ⟨rfl, 0, by omega, rfl⟩
      case round =>
        obtain ⟨rfl, s, hs, rfl⟩ := hrel
        have s0 : (0 : Int) ≤ (s : Int) := by omega
        have s1 : (s : Int) ≤ 6 := by omega
        obtain ⟨P, hP⟩ : ∃ P : Nat, P = 2 ^ s := ⟨_, rfl⟩
        obtain ⟨hpw, hP64⟩ := pow_small s hs
        rw [← hP] at hpw hP64
        have HPP : Hid (P = 2 ^ s ∧ s ≤ 6) := ⟨hP, hs⟩
        clear hP hs
        by_cases hlt : P < L.length
        · have hlt' : (P : Int) < (L.length : Int) := by omega
          have HS : Hid (s + 1 ≤ 6) := by
            show _ ≤ _
            apply Nat.le_of_not_lt
            intro hc
            have e6 : s = 6 := by have := HPP.out.2; omega
            have := HPP.out.1
            rw [e6] at this
            have := HLI.out.1.1
            omega
          clear hlt
          go_wp2
          go_roundw
          case rel => exact ⟨by first | rfl | trivial, s + 1, HS.out, by go_num⟩
          case measure => simp [intOf]; have := HS.out; omega
        · have hlt' : (L.length : Int) ≤ (P : Int) := by omega
          have HPL : Hid (L.length ≤ 2 ^ s ∧ s ≤ 6) := ⟨by rw [← HPP.out.1]; omega, HPP.out.2⟩
          have hltn : (decide (P < L.length)) = false := decide_eq_false hlt
          clear HPP
          have s12 : (s : Int) ≤ 6 := by have := HPL.out.2; omega
          generalize wr = wq at *
          go_wp2
          clear hpw hlt'
          go_loopw [33] (fun i wz => ∃ k : Nat, k ≤ L.length ∧ i = .int .i64 k ∧ Below wq.heap.size wq wz) (fun i _ => L.length - (intOf i).toNat)
          case atStart => exact ⟨0, Nat.zero_le _, rfl, Below.refl _ _⟩
          case round =>
            obtain ⟨k, hk, rfl, hbz⟩ := hrel
            have k0 : (0 : Int) ≤ (k : Int) := by omega
            by_cases hkl : k < L.length
            · have k1 : (k : Int) < (L.length : Int) := by omega
              have HK : Hid (k < L.length) := hkl
              have hh := (HU.out.hs (leafs_ok L)).later hbz
              have htz := HT.out.later (HB.out.trans (hbz.mono HB.out.size))
              have HBZ : Hid (Below wq.heap.size wq wr) := hbz
              clear hkl hbz hk
              go_wp2_with (go_at_call 17; refine stop ?_)
              refine (path_any k _ (leafs L) wr (by rw [leafs_len]; exact HK.out) (by rw [leafs_len]; have := HLI.out.1.1; omega) hh htz).mono ?_
              rintro e w5 ⟨u5, rfl, hu5, hb5⟩
              obtain ⟨pp, np, cp, rfl, hnp⟩ := ownsRowN_form hu5
              rw [path_len, leafs_len] at hnp
              have HNP : Hid (np ≤ s ∧ (2 ≤ L.length → 1 ≤ np)) := ⟨by rw [hnp]; exact way_steps s k false 0 L.length (Nat.zero_le _) HK.out (by have := HPL.out.1; omega), fun h2 => by rw [hnp]; exact path_some HK.out h2⟩
              have hh5 := hh.later hb5
              have ht5 := htz.later hb5
              have hb15 := HBZ.out.trans (hb5.mono HBZ.out.size)
              clear hu5 hnp hh htz hb5
              by_cases hk0 : k = 0
              · subst hk0
                go_wp2_with (go_at_call 22; refine stop ?_)
                refine (growth_none _ (leafs L) w5 0 (Or.inl rfl) (by rw [leafs_len]; have := HLI.out.1.1; omega) hh5).mono ?_
                rintro e w6 ⟨rfl, hw6⟩
                obtain rfl := hw6.symm
                clear hw6
                have HBN : Hid (Below wq.heap.size wq w5) := hb15
                obtain ⟨ng, hng⟩ : ∃ ng : Nat, ng = 0 := ⟨0, rfl⟩
                have HNG : Hid (ng ≤ 2 * s) := by show _ ≤ _; omega
                clear hb15 hh5 ht5
                obtain ⟨k, hk0⟩ : ∃ k : Nat, k = 0 := ⟨0, rfl⟩
                have a1 : (np : Int) ≤ (s : Int) := by have := HNP.out.1; omega
                have a3 : (0 : Int) ≤ (np : Int) := by omega
                have a6 : (0 : Int) ≤ 2 * (s : Int) := by omega
                clear hk0 hng
                have hbn := HBN.out
                by_cases one : L.length = 1
                · have one' : ¬ (1 : Int) < (L.length : Int) := by omega
                  clear one
                  go_wp2
                  go_roundw
                  case rel => first | exact ⟨1, HK.out, by go_num, hbn⟩ | ((repeat apply Exists.intro); refine ⟨⟨1, HK.out, by go_num, hbn⟩, rfl⟩)
                  case measure => simp [intOf]; have := HK.out; omega
                · have one' : (1 : Int) < (L.length : Int) := by have := HLI.out.2; omega
                  have a5 : ((np : Int) == 0) = false := by rw [beq_eq_false_iff_ne]; have := HNP.out.2 (by omega); omega
                  go_wp2
                  go_roundw
                  case rel => first | exact ⟨1, HK.out, by go_num, hbn⟩ | ((repeat apply Exists.intro); refine ⟨⟨1, HK.out, by go_num, hbn⟩, rfl⟩)
                  case measure => simp [intOf]; have := HK.out; omega
              · go_wp2_with (go_at_call 22; refine stop ?_)
                refine (growth_any k _ (leafs L) w5 (by omega) (by rw [leafs_len]; exact HK.out) (by rw [leafs_len]; have := HLI.out.1.1; omega) hh5 ht5).mono ?_
                rintro e w6 ⟨u6, rfl, hu6, hb6⟩
                obtain ⟨pg, ng, cg, rfl, hng⟩ := ownsRowN_form hu6
                rw [leafs_len] at hng
                have HNG : Hid (ng ≤ 2 * s) := by rw [hng]; exact grow_len (leafs L) (by omega) HK.out HPL.out.1
                have HBN : Hid (Below wq.heap.size wq w6) := hb15.trans (hb6.mono hb15.size)
                clear hu6 hng hb6 hb15 hh5 ht5 hk0
                have a1 : (np : Int) ≤ (s : Int) := by have := HNP.out.1; omega
                have a2 : (ng : Int) ≤ 2 * (s : Int) := by have := HNG.out; omega
                have a3 : (0 : Int) ≤ (np : Int) := by omega
                have a4 : (0 : Int) ≤ (ng : Int) := by omega
                have hbn := HBN.out
                by_cases one : L.length = 1
                · have one' : ¬ (1 : Int) < (L.length : Int) := by omega
                  clear one
                  go_wp2
                  go_roundw
                  case rel => first | exact ⟨k + 1, HK.out, by go_num, hbn⟩ | ((repeat apply Exists.intro); refine ⟨⟨k + 1, HK.out, by go_num, hbn⟩, rfl⟩)
                  case measure => simp [intOf]; have := HK.out; omega
                · have one' : (1 : Int) < (L.length : Int) := by have := HLI.out.2; omega
                  have a5 : ((np : Int) == 0) = false := by rw [beq_eq_false_iff_ne]; have := HNP.out.2 (by omega); omega
                  go_wp2
                  go_roundw
                  case rel => first | exact ⟨k + 1, HK.out, by go_num, hbn⟩ | ((repeat apply Exists.intro); refine ⟨⟨k + 1, HK.out, by go_num, hbn⟩, rfl⟩)
                  case measure => simp [intOf]; have := HK.out; omega
            · obtain rfl : k = L.length := by omega
              have hbe := HB.out.trans (hbz.mono HB.out.size)
              go_wp2
              go_ret
              exact ⟨rfl, hbe⟩
end Go.Proofs.YtepohpniflmblaaDoor
