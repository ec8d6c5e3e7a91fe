
/-
  The walk of HistoryTurned: it returns true, for any leaves and places, and turns nothing that was there.
-/
import Derived.Test.YtepohpniflmblaaDoorHiX0
import Derived.Test.YtepohpniflmblaaDoorHiV
set_option maxRecDepth 100000
namespace Go.Proofs.YtepohpniflmblaaDoor
open Go.RowKit
set_option linter.unusedVariables false
set_option linter.unusedSimpArgs false
set_option maxHeartbeats 4000000 in
theorem turned_walk (v0 : Value) (L : List (List Nat)) (x y : Int) (w : World) (hL : PartsAt w v0 L) (hcap0 : ∀ q n c, v0 = .slice q n c → n ≤ c) (lo : -9223372036854775808 ≤ x) (hi : x ≤ 9223372036854775807) (lo2 : -9223372036854775808 ≤ y) (hi2 : y ≤ 9223372036854775807) (ht : Tab w) :
    Calls Tryd.prog 6 #[v0, .int .i64 x, .int .i64 y] w fun e w' => e = .returned (.bool true) ∧ Below w.heap.size w w' := by
  obtain ⟨hlm, p0, c0, rfl, hcells⟩ := id hL
  have HL : Hid (PartsAt w (.slice p0 L.length c0) L) := hL
  have HT : Hid (Tab w) := ht
  clear hcells hcap0
  unfold maxLen at hlm
  have l0 : (0 : Int) ≤ (L.length : Int) := by omega
  have l1 : (L.length : Int) ≤ 9223372036854775807 := by omega
  go_enter Tryd.func6, Tryd.ntmps6
  go_wp2_with (go_at_call 12; refine stop ?_)
  refine (fit6_any w HT.out).mono ?_
  rintro e w1 ⟨rfl, hb1⟩
  go_wp2_with (go_at_call 13; refine stop ?_)
  refine (light_any _ L w1 (HL.out.later hb1)).mono ?_
  rintro e w1' ⟨lb, rfl, hli, hw1⟩
  obtain rfl := hw1.symm
  clear hw1
  cases lb with
  | false =>
    go_wp2
    go_ret
    exact ⟨rfl, hb1⟩
  | true =>
    have hli := hli rfl
    by_cases h100 : (L.length : Int) < 2
    · go_wp2
      go_ret
      exact ⟨rfl, hb1⟩
    · have m2 : (2 : Int) ≤ (L.length : Int) := by omega
      have HLI : Hid (Light L ∧ 2 ≤ L.length) := ⟨hli, by omega⟩
      have l40 : (L.length : Int) ≤ 40 := by have := hli.1; omega
      have B1 : Hid (Below w.heap.size w w1) := hb1
      clear hli l1 hb1 h100
      go_wp2_with (go_at_call 19; refine stop ?_)
      have B3 : Hid (Below w.heap.size w (w1.alloc (.cells #[.slice none 0 0] 40))) := B1.out.alloc B1.out.size _
      have r7 := Row.new w1 #[.slice none 0 0] 40 rfl
      have G2 : Hid (w.heap.size ≤ w1.heap.size ∧ 0 < w1.heap.size) := ⟨B1.out.size, Nat.lt_of_lt_of_le HT.out.pos B1.out.size⟩
      have htp0 : TpAt (w1.alloc (.cells #[.slice none 0 0] 40)) w1.heap.size (.pointer (some ⟨w1.heap.size, 0, none⟩)) [] := TpAt.new (w := w1.alloc (.cells #[.slice none 0 0] 40)) (w' := w1.alloc (.cells #[.slice none 0 0] 40)) r7 (Nat.le_refl _)
      have HSZ : Hid (w1.heap.size < (w1.alloc (.cells #[.slice none 0 0] 40)).heap.size) := by show _ < _; simp
      clear r7
      generalize w1.alloc (.cells #[.slice none 0 0] 40) = w3 at *
      clear B1
      generalize w1.heap.size = T at *
      refine (noted_any _ L T _ [] w3 (fun wr hs => HL.out.low B3.out G2.out.1 hs) HLI.out.1 (HT.out.later B3.out) G2.out.2 (Nat.le_of_lt HSZ.out) htp0 (by simp)).mono ?_
      rintro e w4 ⟨u, rfl, hu, htp4, hs4⟩
      rw [List.nil_append] at htp4
      obtain ⟨pu, nu, cu, rfl, hnu⟩ := ownsRowN_form hu
      rw [leafs_len] at hnu
      subst hnu
      have HU4 : Hid (OwnH w4 w3.heap.size (.slice pu L.length cu) (leafs L)) := hu
      have nL := leafs_len L
      have hok := leafs_ok L
      have HN0 : Hid ((L.map msgL).length ≤ 40 ∧ ∀ l ∈ L.map msgL, l.length ≤ 1000) := ⟨by rw [List.length_map]; exact HLI.out.1.1, by
        intro l hl
        obtain ⟨z, hz, rfl⟩ := List.mem_map.1 hl
        have := HLI.out.1.2 z hz
        simp [msgL]; omega⟩
      generalize L.map msgL = N0 at *
      generalize leafs L = A at *
      have HA : Hid ((∀ x ∈ A, H32 x) ∧ A.length = L.length) := ⟨hok, nL⟩
      obtain ⟨hlen, ⟨_, hz⟩ | ⟨g8, c8, cur, e, hbg, hg, _, _, _, _⟩⟩ := id hu
      · exact absurd hz (by have := HLI.out.2; omega)
      rw [HA.out.2] at e
      cases e
      have HO4 : Hid (OwnH w4 w3.heap.size (.slice (some ⟨g8, 0, none⟩) L.length cu) A) := hu
      have B4 : Hid (Below w.heap.size w w4) := hs4.low B3.out G2.out.1
      have HTP4 : Hid (TpAt w4 T (.pointer (some ⟨T, 0, none⟩)) N0) := htp4
      have G4 : Hid (T < g8 ∧ g8 < w4.heap.size ∧ w.heap.size ≤ T ∧ 0 < T) := ⟨Nat.lt_of_lt_of_le HSZ.out hbg, (Array.getElem?_eq_some_iff.1 hg).1, G2.out⟩
      clear hu htp4 hs4 htp0 B3 HSZ hlen hbg hg G2
      generalize w3.heap.size = T3 at *
      obtain ⟨m, hm, hmx⟩ := and1023 x
      have e1 : ((L.length : Int) - 1) = ((L.length - 1 : Nat) : Int) := by have := HLI.out.2; omega
      have HM0 : Hid (m % (L.length - 1) < L.length - 1) := Nat.mod_lt _ (by have := HLI.out.2; omega)
      have hmod : ((m : Int)).tmod ((L.length : Int) - 1) = ((m % (L.length - 1) : Nat) : Int) := by rw [e1, Int.ofNat_tmod]
      have hz1 : (((L.length : Int) - 1) == 0) = false := by rw [beq_eq_false_iff_ne]; omega
      generalize m % (L.length - 1) = m' at *
      have q0 : (0 : Int) ≤ (m' : Int) := by omega
      have q1 : (m' : Int) ≤ 39 := by have := HM0.out; omega
      obtain ⟨M, hM⟩ : ∃ M, M = m' + 1 := ⟨_, rfl⟩
      have hM1 : (m' : Int) + 1 = (M : Int) := by omega
      have HM : Hid (0 < M ∧ M < L.length) := ⟨by omega, by have := HM0.out; omega⟩
      have q2 : (1 : Int) ≤ (M : Int) := by omega
      have q3 : (M : Int) < (L.length : Int) := by have := HM.out; omega
      have hz2 : ((M : Int) == 0) = false := by rw [beq_eq_false_iff_ne]; omega
      obtain ⟨m2', hm2, hmx2⟩ := and1023 y
      have HA2 : Hid (m2' % M < M) := Nat.mod_lt _ HM.out.1
      have hmod2 : ((m2' : Int)).tmod (M : Int) = ((m2' % M : Nat) : Int) := by rw [Int.ofNat_tmod]
      generalize m2' % M = a at *
      have q4 : (0 : Int) ≤ (a : Int) := by omega
      have q5 : (a : Int) < (M : Int) := by have := HA2.out; omega
      clear hM HM0 e1
      obtain ⟨v6, w5, run5, own5, bl5⟩ := append_hs w4 T3 _ A HO4.out HA.out.1 (by rw [HA.out.2]; have := HLI.out.1.1; omega)
      have own5' := own5
      obtain ⟨hlen, ⟨_, hz⟩ | ⟨g9, c9, cur, rfl, hbg, hg, _, _, _, _⟩⟩ := id own5'
      · exact absurd hz (by have := HLI.out.2; have := HA.out.2; omega)
      have h9 : HsAt w5 (.slice (some ⟨g9, 0, none⟩) A.length c9) A := own5.hs HA.out.1
      rw [HA.out.2] at h9 own5 run5
      have h8 : HsAt w5 (.slice (some ⟨g8, 0, none⟩) L.length cu) A := (HO4.out.hs HA.out.1).later bl5
      have HS5 : Hid (TuS w w5 T g8 g9 L.length cu c9 A A N0) := ⟨B4.out.trans (bl5.mono B4.out.size), G4.out.2.2.1, G4.out.2.2.2, HTP4.out.later bl5, by have := bl5.size; have := G4.out; omega, h8, h9⟩
      have H89 : Hid (T < g8 ∧ g8 < g9 ∧ w.heap.size ≤ g9 ∧ g9 < w5.heap.size) := ⟨G4.out.1, Nat.lt_of_lt_of_le G4.out.2.1 hbg, by have := G4.out; omega, (Array.getElem?_eq_some_iff.1 hg).1⟩
      have hia : a < A.length := by rw [HA.out.2]; have := HA2.out; have := HM.out; omega
      have hne0 : ¬ g9 = g8 := by have := H89.out; omega
      clear own5 own5' bl5 hlen hbg hg h8 h9 HO4 B4 HTP4 G4
      go_upto_region 10 with (at_builtin; refine Lib.wpList_append_run _ rfl _ _ _ _ rfl _ _ rfl rfl _ _ run5 ?_)
      obtain ⟨g', off, e, _, hr9, h32a⟩ := HS5.out.hG.at hia
      cases e
      rw [Nat.zero_add] at hr9
      obtain ⟨X0, hX0⟩ : ∃ X, X = (A.getD a []).getD 0 0 := ⟨_, rfl⟩
      have hX8 : X0 < 256 := by rw [hX0]; exact h32a.2.at 0
      have hc0 : w5.drew.cell? ⟨g9, a * 32, none⟩ = some (.int .u8 (X0 : Nat)) := hr9 0 _ (by rw [Array.getElem?_toList, bytesL_at _ _ (by rw [h32a.1]; decide), hX0])
      have HX0 : Hid (X0 = (A.getD a []).getD 0 0) := hX0
      have hwr : ((X0 : Int) + 1) % 256 = (((X0 + 1) % 256 : Nat) : Int) := by omega
      have H32a : Hid (H32 (A.getD a [])) := h32a
      clear hX0 h32a
      refine wp_region_D (fun k => Nat.blt k 8) (fun w' : World => w'.cell? ⟨g9, a * 32, none⟩ = some (.int .u8 (X0 : Nat))) (by kernel_rfl) ?_
      have hS := hc0
      have HS6 : Hid (TuS w w5.drew T g8 g9 L.length cu c9 A A N0) := HS5.out.later (Below.refl _ _).drew
      have H89' : Hid (T < g8 ∧ g8 < g9 ∧ w.heap.size ≤ g9 ∧ g9 < w5.drew.heap.size) := H89.out
      clear hc0 hr9 HS5 H89 run5
      generalize w5.drew = w6 at *
      have haL : a < L.length := by have := HA2.out; have := HM.out; omega
      refine' wpAnyD_take (i := 0) (v := _) rfl (by kernel_rfl) (by kernel_rfl) (by kernel_rfl) (by kernel_rfl) (fun _ _ _ h => h) (Or.inl ⟨by rfl, ?hy1⟩) hS ?re1
      case hy1 => (intro w hSw; (try dsimp only at hSw); go_simp; (try with_reducible rfl))
      simp only [Act.put, List.setIfInBounds_toArray, List.set_cons_zero, List.set_cons_succ]
      refine' wpAnyD_take (i := 1) (v := _) rfl (by kernel_rfl) (by kernel_rfl) (by kernel_rfl) (by kernel_rfl) (fun _ _ _ h => h) (Or.inl ⟨by rfl, ?hy2⟩) hS ?re2
      case hy2 => (intro w hSw; (try dsimp only at hSw); go_simp; (try with_reducible rfl))
      simp only [Act.put, List.setIfInBounds_toArray, List.set_cons_zero, List.set_cons_succ]
      refine' wpAnyD_take (i := 2) (v := _) rfl (by kernel_rfl) (by kernel_rfl) (by kernel_rfl) (by kernel_rfl) (fun _ _ _ h => h) (Or.inl ⟨by rfl, ?hy3⟩) hS ?re3
      case hy3 => (intro w hSw; (try dsimp only at hSw); go_simp; (try with_reducible rfl))
      simp only [Act.put, List.setIfInBounds_toArray, List.set_cons_zero, List.set_cons_succ]
      refine' wpAnyD_take (i := 3) (v := _) rfl (by kernel_rfl) (by kernel_rfl) (by kernel_rfl) (by kernel_rfl) (fun _ _ _ h => h) (Or.inl ⟨by rfl, ?hy4⟩) hS ?re4
      case hy4 => (intro w hSw; (try dsimp only at hSw); go_simp; (try with_reducible rfl))
      simp only [Act.put, List.setIfInBounds_toArray, List.set_cons_zero, List.set_cons_succ]
      refine' wpAnyD_take (i := 4) (v := _) rfl (by kernel_rfl) (by kernel_rfl) (by kernel_rfl) (by kernel_rfl) (fun _ _ _ h => h) (Or.inl ⟨by rfl, ?hy5⟩) hS ?re5
      case hy5 => (intro w hSw; (try dsimp only at hSw); go_simp; (try with_reducible rfl))
      simp only [Act.put, List.setIfInBounds_toArray, List.set_cons_zero, List.set_cons_succ]
      refine' wpAnyD_take (i := 5) (v := _) rfl (by kernel_rfl) (by kernel_rfl) (by kernel_rfl) (by kernel_rfl) (fun _ _ _ h => h) (Or.inl ⟨by rfl, ?hy6⟩) hS ?re6
      case hy6 => (intro w hSw; (try dsimp only at hSw); go_simp; (try with_reducible rfl))
      simp only [Act.put, List.setIfInBounds_toArray, List.set_cons_zero, List.set_cons_succ]
      refine' wpAnyD_take (i := 6) (v := _) rfl (by kernel_rfl) (by kernel_rfl) (by kernel_rfl) (by kernel_rfl) (fun _ _ _ h => h) (Or.inl ⟨by rfl, ?hy7⟩) hS ?re7
      case hy7 => (intro w hSw; (try dsimp only at hSw); go_simp; (try with_reducible rfl))
      simp only [Act.put, List.setIfInBounds_toArray, List.set_cons_zero, List.set_cons_succ]
      refine' wpAnyD_take (i := 7) (v := _) rfl (by kernel_rfl) (by kernel_rfl) (by kernel_rfl) (by kernel_rfl) (fun _ _ _ h => h) (Or.inl ⟨by rfl, ?hy8⟩) hS ?re8
      case hy8 => (intro w hSw; (try dsimp only at hSw); go_simp; (try with_reducible rfl))
      simp only [Act.put, List.setIfInBounds_toArray, List.set_cons_zero, List.set_cons_succ]
      have hfr : w6.frozen? ⟨g9, a * 32, none⟩ = false := by
        have := (HS6.out.hG.there hia 0 (by decide)).2
        simpa only [Nat.zero_add, Nat.add_zero] using this
      have hcell : w6.cell? ⟨g9, a * 32, none⟩ = some (.int .u8 (X0 : Nat)) := hS
      refine wpAnyD_only (i := 8) rfl (by kernel_rfl) (by rfl) (fun K hK => ?_)
      go_simp
      refine hK.out _ _ (fun h => absurd h (by decide)) ?_
      clear hK K hcell hfr hS
      try simp only [Act.put, List.setIfInBounds_toArray, List.set_cons_zero, List.set_cons_succ]
      refine wpAnyD_done (by kernel_rfl) ?_ _
      have hinc := HS6.out.hG.inc hia (k := 0) (by decide)
      rw [Nat.zero_add, Nat.add_zero, ← HX0.out, ← hwr] at hinc
      obtain ⟨cs9, hr9⟩ := HS6.out.hG.row (by have := hia; omega)
      have hnh := Nh.cell (w' := w6) (o := a * 32) hr9 (.int .u8 (((X0 : Int) + 1) % 256))
      have hS7 : TuS w (w6.setCell ⟨g9, a * 32, none⟩ (.int .u8 (((X0 : Int) + 1) % 256))) T g8 g9 L.length cu c9 A (A.set a (incH (A.getD a []) 0)) N0 :=
        ⟨HS6.out.bw.setCell (p := ⟨g9, a * 32, none⟩) H89'.out.2.2.1 _, HS6.out.low, HS6.out.pos, HS6.out.tp.nh hnh, by have := HS6.out.sz; simpa using this, HS6.out.hA.setOther (a * 32) _ (Nat.ne_of_lt H89'.out.2.1), hinc⟩
      simp only [IntKind.wrap_u8]
      generalize w6.setCell ⟨g9, a * 32, none⟩ (.int .u8 (((X0 : Int) + 1) % 256)) = w7 at *
      have HG : Hid ((∀ z ∈ A.set a (incH (A.getD a []) 0), H32 z) ∧ (A.set a (incH (A.getD a []) 0)).length = L.length) := ⟨set_32 HA.out.1 (inc_32 H32a.out 0) a, by rw [List.length_set]; exact HA.out.2⟩
      have HCL : Hid (∀ P, (∀ z ∈ P, H32 z) → GrownP M L.length (rootL (A.take M)) (rootL (A.set a (incH (A.getD a []) 0))) P → ClN (grownN M L.length (rootL (A.take M)) P ++ rootN (A.set a (incH (A.getD a []) 0)) ++ rootN (A.take M) ++ rootN ((A.set a (incH (A.getD a []) 0)).take M))) := fun P hP h => by
        rw [← HA.out.2] at h ⊢
        exact turned_clash HA.out.1 HA2.out (by rw [HA.out.2]; exact Nat.le_of_lt HM.out.2) (inc_32 H32a.out 0) (inc_ne H32a.out (by decide)) hP h
      have HS7 : Hid (TuS w w7 T g8 g9 L.length cu c9 A (A.set a (incH (A.getD a []) 0)) N0) := hS7
      clear hS7 hnh hinc hr9 hwr HS6 H89' haL hia
      generalize A.set a (incH (A.getD a []) 0) = G at *
      have hHT : ∀ {wr : World}, Below w.heap.size w wr → Tab wr := fun h => HT.out.later h
      have HTT : Hid (∀ {wr : World}, Below w.heap.size w wr → Tab wr) := hHT
      clear hHT HX0 H32a
      have e64 : L.length ≤ 64 := by have := HLI.out.1.1; omega
      go_wp2_with (go_at_call 22; refine stop ?_)
      have hg1 := growth_any M _ A w7 HM.out.1 (by rw [HA.out.2]; exact HM.out.2) (by rw [HA.out.2]; exact e64) HS7.out.hA (HTT.out HS7.out.bw)
      rw [HA.out.2] at hg1
      refine hg1.mono ?_
      rintro e w8 ⟨u1, rfl, ho1, hb8⟩
      obtain ⟨p1, n1, d1, rfl, hn1⟩ := ownsRowN_form ho1
      have HP1 : Hid (HsAt w8 (.slice p1 n1 d1) (growL M L.length A)) := ho1.hs (growL_32 HA.out.1)
      have HS8 : Hid (TuS w w8 T g8 g9 L.length cu c9 A G N0) := HS7.out.later hb8
      clear hg1 ho1 hn1 hb8 HS7
      go_wp2_with (go_at_call 22; refine stop ?_)
      have hg1 := growth_any M _ G w8 HM.out.1 (by rw [HG.out.2]; exact HM.out.2) (by rw [HG.out.2]; exact e64) HS8.out.hG (HTT.out HS8.out.bw)
      rw [HG.out.2] at hg1
      refine hg1.mono ?_
      rintro e w9 ⟨u2, rfl, ho1, hb8⟩
      obtain ⟨p2, n2, d2, rfl, hn1⟩ := ownsRowN_form ho1
      have HP2 : Hid (HsAt w9 (.slice p2 n2 d2) (growL M L.length G)) := ho1.hs (growL_32 HG.out.1)
      have HP19 : Hid (HsAt w9 (.slice p1 n1 d1) (growL M L.length A)) := HP1.out.later hb8
      have HS9 : Hid (TuS w w9 T g8 g9 L.length cu c9 A G N0) := HS8.out.later hb8
      clear hg1 ho1 hn1 hb8 HS8 HP1
      go_wp2_with (go_at_call 15; refine stop ?_)
      have rA : (rootN A).length ≤ 80 := by
        have h1 := (rootN_len _ A (Nat.le_refl _)).1
        rw [HA.out.2] at h1
        have := HLI.out.1.1
        split at h1 <;> omega
      have rG : (rootN G).length ≤ 80 := by
        have h1 := (rootN_len _ G (Nat.le_refl _)).1
        rw [HG.out.2] at h1
        have := HLI.out.1.1
        split at h1 <;> omega
      have rAt : (rootN (A.take M)).length ≤ 80 := by
        have h1 := (rootN_len _ (A.take M) (Nat.le_refl _)).1
        rw [List.length_take, HA.out.2] at h1
        have := HLI.out.1.1
        have := HM.out
        split at h1 <;> omega
      have rGt : (rootN (G.take M)).length ≤ 80 := by
        have h1 := (rootN_len _ (G.take M) (Nat.le_refl _)).1
        rw [List.length_take, HG.out.2] at h1
        have := HLI.out.1.1
        have := HM.out
        split at h1 <;> omega
      have HR : Hid ((rootN A).length ≤ 80 ∧ (rootN G).length ≤ 80 ∧ (rootN (A.take M)).length ≤ 80 ∧ (rootN (G.take M)).length ≤ 80) := ⟨rA, rG, rAt, rGt⟩
      have HM64 : Hid ((A.take M).length ≤ 64 ∧ (G.take M).length ≤ 64 ∧ (A.take M).length = M ∧ (G.take M).length = M) := by
        have := HM.out
        refine ⟨?_, ?_, ?_, ?_⟩ <;> rw [List.length_take] <;> first | rw [HA.out.2] | rw [HG.out.2]
        all_goals omega
      clear rA rG rAt rGt
      refine (root_any _ _ A T _ N0 w9 (Nat.le_refl _) (by rw [HA.out.2]; exact e64) HS9.out.hA (HTT.out HS9.out.bw) HS9.out.pos HS9.out.sz HS9.out.tp (by rw [HA.out.2]; have := HN0.out.1; omega)).mono ?_
      rintro e wa ⟨rfl, htp, hs⟩
      have HSa : Hid (TuS w wa T g8 g9 L.length cu c9 A G (N0 ++ rootN A)) := HS9.out.step hs htp
      have HP1a : Hid (HsAt wa (.slice p1 n1 d1) (growL M L.length A)) := HP19.out.tstep hs
      have HP2a : Hid (HsAt wa (.slice p2 n2 d2) (growL M L.length G)) := HP2.out.tstep hs
      clear hs htp HS9 HP19 HP2
      go_wp2_with (go_at_call 15; refine stop ?_)
      refine (root_any _ _ (A.take M) T _ (N0 ++ rootN A) wa (Nat.le_refl _) HM64.out.1 (HSa.out.hA.take M (by rw [HA.out.2]; exact Nat.le_of_lt HM.out.2)) (HTT.out HSa.out.bw) HSa.out.pos HSa.out.sz HSa.out.tp (by rw [HM64.out.2.2.1, List.length_append]; have := HM.out; have := HN0.out.1; have := HR.out; omega)).mono ?_
      rintro e wb ⟨rfl, htp, hs⟩
      have h32 := root_32 _ (A.take M) (Nat.le_refl _) (fun z hz => HA.out.1 z (List.mem_of_mem_take hz))
      obtain ⟨R, hR⟩ : ∃ R, rootL (A.take M) = R := ⟨_, rfl⟩
      rw [hR] at h32 ⊢
      have HCL2 := HCL.out
      rw [hR] at HCL2
      have HCL3 : Hid (∀ P, (∀ z ∈ P, H32 z) → GrownP M L.length R (rootL G) P → ClN (grownN M L.length R P ++ rootN G ++ rootN (A.take M) ++ rootN (G.take M))) := HCL2
      have H32R : Hid (H32 R) := h32
      have HSb : Hid (TuS w wb T g8 g9 L.length cu c9 A G (N0 ++ rootN A ++ rootN (A.take M))) := HSa.out.step hs htp
      have HP1b : Hid (HsAt wb (.slice p1 n1 d1) (growL M L.length A)) := HP1a.out.tstep hs
      have HP2b : Hid (HsAt wb (.slice p2 n2 d2) (growL M L.length G)) := HP2a.out.tstep hs
      have iR := info_h32 h32
      have zR := z32_size h32
      have oR := bytesL_one R
      clear hs htp HSa HP1a HP2a hR h32 HCL HCL2
      go_wp2_with (refine wpList_store_row rfl 28 _ _ rfl wb.heap.size (bytesL R) rfl rfl 28 _ (heap_alloc_new wb _) iR zR oR ?_; refine stop ?_)
      unfold Stop
      rw [zeros32b]
      have r9 := (Row.new wb (bytesL (List.replicate 32 0)) 28 rfl).setRow (bytesL R)
      have bz : Below wb.heap.size wb ((wb.alloc (.cells (bytesL (List.replicate 32 0)) 28)).setRow wb.heap.size (bytesL R)) := Below.row (below1 wb _) _ (Nat.le_refl _)
      generalize (wb.alloc (.cells (bytesL (List.replicate 32 0)) 28)).setRow wb.heap.size (bytesL R) = wc at *
      have HSc : Hid (TuS w wc T g8 g9 L.length cu c9 A G (N0 ++ rootN A ++ rootN (A.take M))) := HSb.out.later bz
      have HP1c : Hid (HsAt wc (.slice p1 n1 d1) (growL M L.length A)) := HP1b.out.later bz
      have HP2c : Hid (HsAt wc (.slice p2 n2 d2) (growL M L.length G)) := HP2b.out.later bz
      have R9c : Hid (Row wc wb.heap.size (bytesL R) 28) := r9
      clear bz HSb HP1b HP2b r9 iR zR oR
      generalize wb.heap.size = gR at *
      go_wp2_with (go_at_call 15; refine stop ?_)
      refine (root_any _ _ G T _ (N0 ++ rootN A ++ rootN (A.take M)) wc (Nat.le_refl _) (by rw [HG.out.2]; exact e64) HSc.out.hG (HTT.out HSc.out.bw) HSc.out.pos HSc.out.sz HSc.out.tp (by rw [HG.out.2, List.length_append, List.length_append]; have := HN0.out.1; have := HR.out; omega)).mono ?_
      rintro e wd ⟨rfl, htp, hs⟩
      have h32 := root_32 _ G (Nat.le_refl _) HG.out.1
      obtain ⟨Y, hY⟩ : ∃ Y, rootL G = Y := ⟨_, rfl⟩
      rw [hY] at h32 ⊢
      have HCL2 := HCL3.out
      rw [hY] at HCL2
      have HCL4 : Hid (∀ P, (∀ z ∈ P, H32 z) → GrownP M L.length R Y P → ClN (grownN M L.length R P ++ rootN G ++ rootN (A.take M) ++ rootN (G.take M))) := HCL2
      have H32Y : Hid (H32 Y) := h32
      have HSd : Hid (TuS w wd T g8 g9 L.length cu c9 A G (N0 ++ rootN A ++ rootN (A.take M) ++ rootN G)) := HSc.out.step hs htp
      have HP1d : Hid (HsAt wd (.slice p1 n1 d1) (growL M L.length A)) := HP1c.out.tstep hs
      have HP2d : Hid (HsAt wd (.slice p2 n2 d2) (growL M L.length G)) := HP2c.out.tstep hs
      have R9d : Hid (Row wd gR (bytesL R) 28) := R9c.out.tstep hs (by decide) (by decide)
      have iR := info_h32 h32
      have zR := z32_size h32
      have oR := bytesL_one Y
      clear hs htp HSc HP1c HP2c hY h32 HCL3 HCL2 R9c
      go_wp2_with (refine wpList_store_row rfl 28 _ _ rfl wd.heap.size (bytesL Y) rfl rfl 28 _ (heap_alloc_new wd _) iR zR oR ?_; refine stop ?_)
      unfold Stop
      rw [zeros32b]
      have r9 := (Row.new wd (bytesL (List.replicate 32 0)) 28 rfl).setRow (bytesL Y)
      have bz : Below wd.heap.size wd ((wd.alloc (.cells (bytesL (List.replicate 32 0)) 28)).setRow wd.heap.size (bytesL Y)) := Below.row (below1 wd _) _ (Nat.le_refl _)
      generalize (wd.alloc (.cells (bytesL (List.replicate 32 0)) 28)).setRow wd.heap.size (bytesL Y) = we at *
      have HSe : Hid (TuS w we T g8 g9 L.length cu c9 A G (N0 ++ rootN A ++ rootN (A.take M) ++ rootN G)) := HSd.out.later bz
      have HP1e : Hid (HsAt we (.slice p1 n1 d1) (growL M L.length A)) := HP1d.out.later bz
      have HP2e : Hid (HsAt we (.slice p2 n2 d2) (growL M L.length G)) := HP2d.out.later bz
      have R9e : Hid (Row we gR (bytesL R) 28) := R9d.out.later bz
      have RYe : Hid (Row we wd.heap.size (bytesL Y) 28) := r9
      clear bz HSd HP1d HP2d r9 iR zR oR R9d
      generalize wd.heap.size = gY at *
      go_wp2_with (go_at_call 15; refine stop ?_)
      refine (root_any _ _ (G.take M) T _ (N0 ++ rootN A ++ rootN (A.take M) ++ rootN G) we (Nat.le_refl _) HM64.out.2.1 (HSe.out.hG.take M (by rw [HG.out.2]; exact Nat.le_of_lt HM.out.2)) (HTT.out HSe.out.bw) HSe.out.pos HSe.out.sz HSe.out.tp (by rw [HM64.out.2.2.2, List.length_append, List.length_append, List.length_append]; have := HM.out; have := HN0.out.1; have := HR.out; omega)).mono ?_
      rintro e wf ⟨rfl, htp, hs⟩
      obtain ⟨N5, hN5⟩ : ∃ N, N = N0 ++ rootN A ++ rootN (A.take M) ++ rootN G ++ rootN (G.take M) := ⟨_, rfl⟩
      rw [← hN5] at htp
      have HSf : Hid (TuS w wf T g8 g9 L.length cu c9 A G N5) := HSe.out.step hs htp
      have HP1f : Hid (HsAt wf (.slice p1 n1 d1) (growL M L.length A)) := HP1e.out.tstep hs
      have HP2f : Hid (HsAt wf (.slice p2 n2 d2) (growL M L.length G)) := HP2e.out.tstep hs
      have R9f : Hid (Row wf gR (bytesL R) 28) := R9e.out.tstep hs (by decide) (by decide)
      have RYf : Hid (Row wf gY (bytesL Y) 28) := RYe.out.tstep hs (by decide) (by decide)
      have HN5 : Hid (N5.length ≤ 360) := by
        show _ ≤ _
        rw [hN5]
        simp only [List.length_append]
        have := HN0.out.1; have := HR.out
        omega
      have HN5s : Hid (∀ l ∈ N5, l.length ≤ 1000) := by
        intro l hl
        rw [hN5] at hl
        simp only [List.mem_append] at hl
        rcases hl with (((hl | hl) | hl) | hl) | hl
        · exact HN0.out.2 l hl
        · exact rootN_short HA.out.1 l hl
        · exact rootN_short (fun z hz => HA.out.1 z (List.mem_of_mem_take hz)) l hl
        · exact rootN_short HG.out.1 l hl
        · exact rootN_short (fun z hz => HG.out.1 z (List.mem_of_mem_take hz)) l hl
      have HC5 : Hid (∀ P, (∀ z ∈ P, H32 z) → GrownP M L.length R Y P → ClN (N5 ++ grownN M L.length R P)) := fun P hP h => (HCL4.out P hP h).mono (by
        intro z hz
        rw [hN5]
        simp only [List.mem_append] at hz ⊢
        rcases hz with ((hz | hz) | hz) | hz <;> simp [hz])
      clear hs htp HSe HP1e HP2e R9e RYe HCL4 hN5
      go_upto_region 17 with fail
      refine wp_region_D (fun k => Nat.blt k 15) (fun w' : World => Row w' gR (bytesL R) 28 ∧ Row w' gY (bytesL Y) 28) (by kernel_rfl) ?_
      have hS : (fun w' : World => Row w' gR (bytesL R) 28 ∧ Row w' gY (bytesL Y) 28) wf.drew := ⟨R9f.out, RYf.out⟩
      have HSg : Hid (TuS w wf.drew T g8 g9 L.length cu c9 A G N5) := HSf.out.later (Below.refl _ _).drew
      have HP1g : Hid (HsAt wf.drew (.slice p1 n1 d1) (growL M L.length A)) := HP1f.out.later (Below.refl _ _).drew
      have HP2g : Hid (HsAt wf.drew (.slice p2 n2 d2) (growL M L.length G)) := HP2f.out.later (Below.refl _ _).drew
      clear HSf HP1f HP2f R9f RYf
      generalize wf.drew = wg at *
      have lR : (Tryd.prog.info? 28).map (·.size) = some (bytesL R).toList.length := by rw [Array.length_toList]; exact info_h32 H32R.out
      have lY : (Tryd.prog.info? 28).map (·.size) = some (bytesL Y).toList.length := by rw [Array.length_toList]; exact info_h32 H32Y.out
      refine' wpAnyD_take (i := 0) (v := _) rfl (by kernel_rfl) (by kernel_rfl) (by kernel_rfl) (by kernel_rfl) (fun _ _ _ h => h) (Or.inl ⟨by rfl, ?hy9⟩) hS ?re9
      case hy9 => (intro w hSw; (try dsimp only at hSw); go_simp; (try with_reducible rfl))
      simp only [Act.put, List.setIfInBounds_toArray, List.set_cons_zero, List.set_cons_succ]
      refine' wpAnyD_take (i := 1) (v := _) rfl (by kernel_rfl) (by kernel_rfl) (by kernel_rfl) (by kernel_rfl) (fun _ _ _ h => h) (Or.inl ⟨by rfl, ?hy10⟩) hS ?re10
      case hy10 => (intro w hSw; (try dsimp only at hSw); go_simp; (try with_reducible rfl))
      simp only [Act.put, List.setIfInBounds_toArray, List.set_cons_zero, List.set_cons_succ]
      refine' wpAnyD_take (i := 2) (v := _) rfl (by kernel_rfl) (by kernel_rfl) (by kernel_rfl) (by kernel_rfl) (fun _ _ _ h => h) (Or.inl ⟨by rfl, ?hy11⟩) hS ?re11
      case hy11 => (intro w hSw; (try dsimp only at hSw); go_simp; (try with_reducible rfl))
      simp only [Act.put, List.setIfInBounds_toArray, List.set_cons_zero, List.set_cons_succ]
      refine' wpAnyD_take (i := 3) (v := _) rfl (by kernel_rfl) (by kernel_rfl) (by kernel_rfl) (by kernel_rfl) (fun _ _ _ h => h) (Or.inl ⟨by rfl, ?hy12⟩) hS ?re12
      case hy12 => (intro w hSw; (try dsimp only at hSw); go_simp; (try with_reducible rfl))
      simp only [Act.put, List.setIfInBounds_toArray, List.set_cons_zero, List.set_cons_succ]
      refine wpAnyD_take (i := 4) rfl (by kernel_rfl) (by kernel_rfl) (by kernel_rfl) (by kernel_rfl) (fun _ _ _ h => h) (yieldsIf_load_mid (by rfl) 28 _ rfl gR 0 rfl (bytesL R).toList _ (fun w' hw' => row_range0 hw'.1) Tryd.underlying28 rfl lR) hS ?_
      simp only [Act.put, List.setIfInBounds_toArray, List.set_cons_zero, List.set_cons_succ]
      refine wpAnyD_take (i := 5) rfl (by kernel_rfl) (by kernel_rfl) (by kernel_rfl) (by kernel_rfl) (fun _ _ _ h => h) (yieldsIf_load_mid (by rfl) 28 _ rfl gY 0 rfl (bytesL Y).toList _ (fun w' hw' => row_range0 hw'.2) Tryd.underlying28 rfl lY) hS ?_
      simp only [Act.put, List.setIfInBounds_toArray, List.set_cons_zero, List.set_cons_succ]
      refine' wpAnyD_take (i := 6) (v := _) rfl (by kernel_rfl) (by kernel_rfl) (by kernel_rfl) (by kernel_rfl) (fun _ _ _ h => h) (Or.inl ⟨by rfl, ?hy13⟩) hS ?re13
      case hy13 => (intro w hSw; (try dsimp only at hSw); go_simp; (try with_reducible rfl))
      simp only [Act.put, List.setIfInBounds_toArray, List.set_cons_zero, List.set_cons_succ]
      refine' wpAnyD_take (i := 8) (v := _) rfl (by kernel_rfl) (by kernel_rfl) (by kernel_rfl) (by kernel_rfl) (fun _ _ _ h => h) (Or.inl ⟨by rfl, ?hy14⟩) hS ?re14
      case hy14 => (intro w hSw; (try dsimp only at hSw); go_simp; (try with_reducible rfl))
      simp only [Act.put, List.setIfInBounds_toArray, List.set_cons_zero, List.set_cons_succ]
      refine' wpAnyD_take (i := 9) (v := _) rfl (by kernel_rfl) (by kernel_rfl) (by kernel_rfl) (by kernel_rfl) (fun _ _ _ h => h) (Or.inl ⟨by rfl, ?hy15⟩) hS ?re15
      case hy15 => (intro w hSw; (try dsimp only at hSw); go_simp; (try with_reducible rfl))
      simp only [Act.put, List.setIfInBounds_toArray, List.set_cons_zero, List.set_cons_succ]
      refine' wpAnyD_take (i := 10) (v := _) rfl (by kernel_rfl) (by kernel_rfl) (by kernel_rfl) (by kernel_rfl) (fun _ _ _ h => h) (Or.inl ⟨by rfl, ?hy16⟩) hS ?re16
      case hy16 => (intro w hSw; (try dsimp only at hSw); go_simp; (try with_reducible rfl))
      simp only [Act.put, List.setIfInBounds_toArray, List.set_cons_zero, List.set_cons_succ]
      refine' wpAnyD_take (i := 11) (v := _) rfl (by kernel_rfl) (by kernel_rfl) (by kernel_rfl) (by kernel_rfl) (fun _ _ _ h => h) (Or.inl ⟨by rfl, ?hy17⟩) hS ?re17
      case hy17 => (intro w hSw; (try dsimp only at hSw); go_simp; (try with_reducible rfl))
      simp only [Act.put, List.setIfInBounds_toArray, List.set_cons_zero, List.set_cons_succ]
      refine wpAnyD_take (i := 12) rfl (by kernel_rfl) (by kernel_rfl) (by kernel_rfl) (by kernel_rfl) (fun _ _ _ h => h) (yieldsIf_load_mid (by rfl) 28 _ rfl gR 0 rfl (bytesL R).toList _ (fun w' hw' => row_range0 hw'.1) Tryd.underlying28 rfl lR) hS ?_
      simp only [Act.put, List.setIfInBounds_toArray, List.set_cons_zero, List.set_cons_succ]
      refine wpAnyD_take (i := 13) rfl (by kernel_rfl) (by kernel_rfl) (by kernel_rfl) (by kernel_rfl) (fun _ _ _ h => h) (yieldsIf_load_mid (by rfl) 28 _ rfl gY 0 rfl (bytesL Y).toList _ (fun w' hw' => row_range0 hw'.2) Tryd.underlying28 rfl lY) hS ?_
      simp only [Act.put, List.setIfInBounds_toArray, List.set_cons_zero, List.set_cons_succ]
      refine' wpAnyD_take (i := 14) (v := _) rfl (by kernel_rfl) (by kernel_rfl) (by kernel_rfl) (by kernel_rfl) (fun _ _ _ h => h) (Or.inl ⟨by rfl, ?hy18⟩) hS ?re18
      case hy18 => (intro w hSw; (try dsimp only at hSw); go_simp; (try with_reducible rfl))
      simp only [Act.put, List.setIfInBounds_toArray, List.set_cons_zero, List.set_cons_succ]
      rw [Array.toArray_toList, Array.toArray_toList]
      clear lR lY
      refine wpAnyD_only (i := 7) rfl (by kernel_rfl) (by rfl) (fun K hK => ?_)
      go_simp
      refine (grown_any M L.length R Y _ (growL M L.length A) T _ N5 wg HM.out.1 HM.out.2 e64 H32R.out H32Y.out HP1g.out (HTT.out HSg.out.bw) HSg.out.pos HSg.out.sz HSg.out.tp (by have := HN5.out; omega)).mono ?_
      rintro e wh ⟨⟨r1, rfl, hr1⟩, htp, hs⟩
      have HR1 : Hid (r1 = true ↔ GrownP M L.length R Y (growL M L.length A)) := hr1
      have HSh : Hid (TuS w wh T g8 g9 L.length cu c9 A G (N5 ++ grownN M L.length R (growL M L.length A))) := HSg.out.step hs htp
      have HP2h : Hid (HsAt wh (.slice p2 n2 d2) (growL M L.length G)) := HP2g.out.tstep hs
      refine hK.out _ _ (fun _ => ⟨hS.1.tstep hs (by decide) (by decide), hS.2.tstep hs (by decide) (by decide)⟩) ?_
      clear hK K hS hr1 htp hs HSg HP1g HP2g
      try simp only [Act.put, List.setIfInBounds_toArray, List.set_cons_zero, List.set_cons_succ]
      have HG1 : Hid ((grownN M L.length R (growL M L.length A)).length ≤ 80) := by
        have := grownN_len HM.out.1 (Nat.le_of_lt HM.out.2) R (growL M L.length A)
        have := HLI.out.1.1
        show _ ≤ _
        omega
      have HG2 : Hid ((grownN M L.length R (growL M L.length G)).length ≤ 80) := by
        have := grownN_len HM.out.1 (Nat.le_of_lt HM.out.2) R (growL M L.length G)
        have := HLI.out.1.1
        show _ ≤ _
        omega
      refine wpAnyD_only (i := 15) rfl (by kernel_rfl) (by rfl) (fun K hK => ?_)
      go_simp
      refine (grown_any M L.length R Y _ (growL M L.length G) T _ (N5 ++ grownN M L.length R (growL M L.length A)) wh HM.out.1 HM.out.2 e64 H32R.out H32Y.out HP2h.out (HTT.out HSh.out.bw) HSh.out.pos HSh.out.sz HSh.out.tp (by rw [List.length_append]; have := HN5.out; have := HG1.out; omega)).mono ?_
      rintro e wi ⟨⟨r2, rfl, hr2⟩, htp, hs⟩
      have HR2 : Hid (r2 = true ↔ GrownP M L.length R Y (growL M L.length G)) := hr2
      have HSi : Hid (TuS w wi T g8 g9 L.length cu c9 A G (N5 ++ grownN M L.length R (growL M L.length A) ++ grownN M L.length R (growL M L.length G))) := HSh.out.step hs htp
      refine hK.out _ _ (fun h => by cases h) ?_
      clear hK K hr2 htp hs HSh HP2h
      try simp only [Act.put, List.setIfInBounds_toArray, List.set_cons_zero, List.set_cons_succ]
      refine' wpAnyD_free (i := 16) (v := _) rfl (by kernel_rfl) (by kernel_rfl) (by rfl) (by kernel_rfl) (fun _ _ _ h => h) (Or.inl ⟨by rfl, ?hy19⟩) ?re19
      case hy19 => (intro w hSw; clear hSw; go_simp; (try with_reducible rfl))
      simp only [Act.put, List.setIfInBounds_toArray, List.set_cons_zero, List.set_cons_succ]
      refine' wpAnyD_free (i := 17) (v := _) rfl (by kernel_rfl) (by kernel_rfl) (by rfl) (by kernel_rfl) (fun _ _ _ h => h) (Or.inl ⟨by rfl, ?hy20⟩) ?re20
      case hy20 => (intro w hSw; clear hSw; go_simp; (try with_reducible rfl))
      simp only [Act.put, List.setIfInBounds_toArray, List.set_cons_zero, List.set_cons_succ]
      refine wpAnyD_done (by kernel_rfl) ?_ _
      by_cases hc : r1 = false ∧ r2 = false
      · obtain ⟨rfl, rfl⟩ := hc
        go_wp2
        go_ret
        exact ⟨rfl, HSi.out.bw⟩
      · have hcl : ClN (N5 ++ grownN M L.length R (growL M L.length A) ++ grownN M L.length R (growL M L.length G)) := by
          cases r1 with
          | true => exact (HC5.out _ (growL_32 HA.out.1) (HR1.out.1 rfl)).mono (fun z hz => List.mem_append_left _ hz)
          | false =>
            cases r2 with
            | true => exact (HC5.out _ (growL_32 HG.out.1) (HR2.out.1 rfl)).mono (by
                intro z hz
                simp only [List.mem_append] at hz ⊢
                rcases hz with hz | hz <;> simp [hz])
            | false => exact absurd ⟨rfl, rfl⟩ hc
        have HCLN : Hid (ClN (N5 ++ grownN M L.length R (growL M L.length A) ++ grownN M L.length R (growL M L.length G))) := hcl
        have hrr : (!r1 && !r2) = false := by cases r1 <;> cases r2 <;> simp_all
        clear hcl hc
        have HNL : Hid ((N5 ++ grownN M L.length R (growL M L.length A) ++ grownN M L.length R (growL M L.length G)).length ≤ 1000) := by
          show _ ≤ _
          simp only [List.length_append]
          have := HN5.out; have := HG1.out; have := HG2.out
          omega
        have HML : Hid (∀ l ∈ N5 ++ grownN M L.length R (growL M L.length A) ++ grownN M L.length R (growL M L.length G), l.length ≤ 1000) := by
          intro l hl
          simp only [List.mem_append] at hl
          rcases hl with (hl | hl) | hl
          · exact HN5s.out l hl
          · exact grownN_short H32R.out (growL_32 HA.out.1) l hl
          · exact grownN_short H32R.out (growL_32 HG.out.1) l hl
        have hfin : ∀ wj, Below wi.heap.size wi wj → Below w.heap.size w wj := fun wj hb => HSi.out.bw.trans (hb.mono HSi.out.bw.size)
        have HFIN : Hid (∀ wj, Below wi.heap.size wi wj → Below w.heap.size w wj) := hfin
        clear hfin
        cases r1 <;> cases r2 <;> first
        | (exfalso; revert hrr; decide)
        | (clear hrr
           go_wp2_with (go_at_call 21; refine stop ?_)
           refine (clash_tp T T _ wi HSi.out.tp (HTT.out HSi.out.bw) HNL.out HML.out (HSi.out.tp.w8)).mono ?_
           rintro e wj ⟨bb, rfl, hbb, hbj⟩
           obtain rfl := hbb HCLN.out
           go_wp2
           go_ret
           exact ⟨rfl, HFIN.out _ hbj⟩)
end Go.Proofs.YtepohpniflmblaaDoor
