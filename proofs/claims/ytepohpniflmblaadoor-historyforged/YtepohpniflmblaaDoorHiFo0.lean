
/-
  The walk of HistoryForged: it returns true, for any leaves, places and leaf, and turns nothing that was there.
-/
import Derived.Test.YtepohpniflmblaaDoorHiZM
set_option maxRecDepth 100000
namespace Go.Proofs.YtepohpniflmblaaDoor
open Go.RowKit
set_option linter.unusedVariables false
set_option linter.unusedSimpArgs false



















structure BoxP (p : Prop) : Prop where
  out : p

structure SumCut (G : Prop) where
  p_p11 : Prop
  p_p13 : Prop
  p_p14 : Prop
  p_p19 : Prop
  p_pT : Prop
  out : BoxP p_p11 → BoxP p_p13 → BoxP p_p14 → BoxP p_p19 → BoxP p_pT → G

set_option maxHeartbeats 8000000 in
noncomputable def hiFoPack : SumCut (∀ (v0 : Value), ∀ (L : List (List Nat)), ∀ (a0 : Int), ∀ (a1 : Int), ∀ (a2 : Int), ∀ (v2 : Value), ∀ (b : List Nat), ∀ (w : World), (PartsAt w v0 L) → (∀ q n c, v0 = .slice q n c → n ≤ c) → ((-9223372036854775808 ≤ a0 ∧ a0 ≤ 9223372036854775807) ∧ (-9223372036854775808 ≤ a1 ∧ a1 ≤ 9223372036854775807) ∧ (-9223372036854775808 ≤ a2 ∧ a2 ≤ 9223372036854775807)) → (BytesAt w v2 b) → ∀ (rb : b.length ≤ 140737488351232), (Tab w) → Calls Tryd.prog 4 #[v0, .agg #[.int .i64 a0, .int .i64 a1, .int .i64 a2], v2] w fun e w' => e = .returned (.bool true) ∧ Below w.heap.size w w') := by
  apply SumCut.mk
  case out =>
    intro q_p11 q_p13 q_p14 q_p19 q_pT v0 L a0 a1 a2 v2 b w hL hcap0 ha hB rb ht
    obtain ⟨hlm, p0, c0, rfl, hcells⟩ := id hL
    obtain ⟨b8, bm, pb, cb, rfl, _⟩ := id hB
    have HL : Hid (PartsAt w (.slice p0 L.length c0) L) := hL
    have HB : Hid (BytesAt w (.slice pb b.length cb) b) := hB
    have HT : Hid (Tab w) := ht
    have HAA := (show Hid _ from ha)
    clear hcells hcap0 ha
    unfold maxLen at hlm
    have l0 : (0 : Int) ≤ (L.length : Int) := by omega
    have l1 : (L.length : Int) ≤ 9223372036854775807 := by omega
    have m0 : (0 : Int) ≤ (b.length : Int) := by omega
    have m1 : (b.length : Int) ≤ 140737488351232 := by omega
    have r4 := Row.new w #[.int .i64 a0, .int .i64 a1, .int .i64 a2] 36 rfl
    have b0 := below1 w (.cells #[.int .i64 a0, .int .i64 a1, .int .i64 a2] 36)
    go_enter Tryd.func4, Tryd.ntmps4
    go_wp2_with (go_at_call 12; refine stop ?_)
    generalize w.alloc (.cells #[.int .i64 a0, .int .i64 a1, .int .i64 a2] 36) = w0 at *
    refine (fit6_any w0 (HT.out.later b0)).mono ?_
    rintro e w1 ⟨rfl, hb1⟩
    have R4 : Hid (Row w1 w.heap.size #[.int .i64 a0, .int .i64 a1, .int .i64 a2] 36) := r4.later hb1
    have hb1 : Below w.heap.size w w1 := b0.trans (hb1.mono b0.size)
    clear b0 r4
    have hgw : w.heap.size < w1.heap.size := R4.out.lt
    go_wp2_with (go_at_call 13; refine stop ?_)
    refine (light_any _ L w1 (HL.out.later hb1)).mono ?_
    rintro e w1' ⟨lb, rfl, hli, hw1⟩
    obtain rfl := hw1.symm
    clear hw1
    cases lb with
    | false =>
      go_wp2
      go_ret
      exact ⟨rfl, hb1⟩
    | true =>
      have hli := hli rfl
      by_cases hz : L.length = 0
      · have h0' : (L.length : Int) = 0 := by omega
        go_wp2
        go_ret
        exact ⟨rfl, hb1⟩
      · have h0' : ((L.length : Int) == 0) = false := by rw [beq_eq_false_iff_ne]; omega
        by_cases h100 : (b.length : Int) > 100
        · go_wp2
          go_ret
          exact ⟨rfl, hb1⟩
        · have m2 : (b.length : Int) ≤ 100 := by omega
          have HLI : Hid (Light L ∧ b.length ≤ 100 ∧ 0 < L.length) := ⟨hli, by omega, by omega⟩
          have l40 : (L.length : Int) ≤ 40 := by have := hli.1; omega
          have B1 : Hid (Below w.heap.size w w1) := hb1
          clear hli l1 hb1 h100 m1 rb hz
          go_wp2_with (go_at_call 19; refine stop ?_)
          have B3 : Hid (Below w.heap.size w (w1.alloc (.cells #[.slice none 0 0] 40))) := B1.out.alloc B1.out.size _
          have r7 := Row.new w1 #[.slice none 0 0] 40 rfl
          have G2 : Hid (w.heap.size ≤ w1.heap.size ∧ 0 < w1.heap.size) := ⟨B1.out.size, Nat.lt_of_lt_of_le HT.out.pos B1.out.size⟩
          have htp0 : TpAt (w1.alloc (.cells #[.slice none 0 0] 40)) w1.heap.size (.pointer (some ⟨w1.heap.size, 0, none⟩)) [] := TpAt.new (w := w1.alloc (.cells #[.slice none 0 0] 40)) (w' := w1.alloc (.cells #[.slice none 0 0] 40)) r7 (Nat.le_refl _)
          have HSZ : Hid (w1.heap.size < (w1.alloc (.cells #[.slice none 0 0] 40)).heap.size) := by show _ < _; simp
          clear r7
          have R43 : Hid (Row (w1.alloc (.cells #[.slice none 0 0] 40)) w.heap.size #[.int .i64 a0, .int .i64 a1, .int .i64 a2] 36) := R4.out.later (below1 w1 _)
          have HG4 : Hid (w.heap.size < w1.heap.size) := hgw
          clear R4 hgw
          generalize w1.alloc (.cells #[.slice none 0 0] 40) = w3 at *
          clear B1
          generalize w1.heap.size = T at *
          refine (noted_any _ L T _ [] w3 (fun wr hs => HL.out.low B3.out G2.out.1 hs) HLI.out.1 (HT.out.later B3.out) G2.out.2 (Nat.le_of_lt HSZ.out) htp0 (by simp)).mono ?_
          rintro e w4 ⟨u, rfl, hu, htp4, hs4⟩
          rw [List.nil_append] at htp4
          obtain ⟨pu, nu, cu, rfl, hnu⟩ := ownsRowN_form hu
          rw [leafs_len] at hnu
          subst hnu
          have HU4 : Hid (OwnH w4 w3.heap.size (.slice pu L.length cu) (leafs L)) := hu
          have nL := leafs_len L
          have HHS : Hid (HsAt w4 (.slice pu L.length cu) (leafs L)) := hu.hs (leafs_ok L)
          have B4 : Hid (Below w.heap.size w w4) := TStep.below B3.out (TStep.mk hs4.os hs4.tape hs4.output hs4.size (fun k o hk hs => hs4.block k o hk (hs.imp (fun h => Nat.lt_of_lt_of_le h G2.out.1) id)))
          have HTP4 : Hid (TpAt w4 T (.pointer (some ⟨T, 0, none⟩)) (L.map msgL)) := htp4
          have G4 : Hid (T ≤ w4.heap.size) := Nat.le_trans (Nat.le_of_lt HSZ.out) hs4.size
          have R44 : Hid (Row w4 w.heap.size #[.int .i64 a0, .int .i64 a1, .int .i64 a2] 36) := hs4.block _ _ R43.out (Or.inl HG4.out)
          clear hu htp4 hs4 htp0 B3 HSZ R43
          generalize w3.heap.size = T3 at *
          go_wp2_with (go_at_call 15; refine stop ?_)
          refine (root_any _ _ (leafs L) T _ (L.map msgL) w4 (Nat.le_refl _) (by rw [leafs_len]; have := HLI.out.1.1; omega) HHS.out (HT.out.later B4.out) G2.out.2 G4.out HTP4.out (by rw [leafs_len, List.length_map]; have := HLI.out.1.1; omega)).mono ?_
          rintro e w5 ⟨rfl, htp5, hs5⟩
          have h32 := root_32 _ (leafs L) (Nat.le_refl _) (leafs_ok L)
          obtain ⟨R, hR⟩ : ∃ R, rootL (leafs L) = R := ⟨_, rfl⟩
          rw [hR] at h32 ⊢
          have HR : Hid (rootL (leafs L) = R) := hR
          have H32R : Hid (H32 R) := h32
          have HU5 : Hid (OwnH w5 T3 (.slice pu L.length cu) (leafs L)) := HU4.out.tstep hs5
          have B5 : Hid (Below w.heap.size w w5) := TStep.below B4.out (TStep.mk hs5.os hs5.tape hs5.output hs5.size (fun k o hk hs => hs5.block k o hk (hs.imp (fun h => Nat.lt_of_lt_of_le h G2.out.1) id)))
          have HTP5 : Hid (TpAt w5 T (.pointer (some ⟨T, 0, none⟩)) (L.map msgL ++ rootN (leafs L))) := htp5
          have G5 : Hid (T ≤ w5.heap.size) := Nat.le_trans G4.out hs5.size
          have iR := info_h32 h32
          have zR := z32_size h32
          have oR := bytesL_one R
          have R45 : Hid (Row w5 w.heap.size #[.int .i64 a0, .int .i64 a1, .int .i64 a2] 36) := hs5.block _ _ R44.out (Or.inl HG4.out)
          clear R44 htp5 hs5 HHS HTP4 B4 G4 hR h32 HU4
          go_wp2_with (refine wpList_store_row rfl 28 _ _ rfl w5.heap.size (bytesL R) rfl rfl 28 _ (heap_alloc_new w5 _) iR zR oR ?_; refine stop ?_)
          unfold Stop
          rw [zeros32b]
          have r9 := (Row.new w5 (bytesL (List.replicate 32 0)) 28 rfl).setRow (bytesL R)
          have bz : Below w5.heap.size w5 ((w5.alloc (.cells (bytesL (List.replicate 32 0)) 28)).setRow w5.heap.size (bytesL R)) := Below.row (below1 w5 _) _ (Nat.le_refl _)
          have hgz : w5.heap.size < ((w5.alloc (.cells (bytesL (List.replicate 32 0)) 28)).setRow w5.heap.size (bytesL R)).heap.size := r9.lt
          generalize (w5.alloc (.cells (bytesL (List.replicate 32 0)) 28)).setRow w5.heap.size (bytesL R) = w6 at *
          have HU6 : Hid (OwnH w6 T3 (.slice pu L.length cu) (leafs L)) := HU5.out.later bz
          have B6 : Hid (Below w.heap.size w w6) := B5.out.trans (bz.mono B5.out.size)
          have HTP6 : Hid (TpAt w6 T (.pointer (some ⟨T, 0, none⟩)) (L.map msgL ++ rootN (leafs L))) := HTP5.out.later bz
          have G6 : Hid (T ≤ w6.heap.size ∧ w5.heap.size < w6.heap.size) := ⟨Nat.le_trans G5.out bz.size, hgz⟩
          have R9 : Hid (Row w6 w5.heap.size (bytesL R) 28) := r9
          have R46 : Hid (Row w6 w.heap.size #[.int .i64 a0, .int .i64 a1, .int .i64 a2] 36) := R45.out.later bz
          clear R45 bz HU5 B5 HTP5 G5 r9 hgz iR zR oR
          generalize w5.heap.size = g9 at *
          obtain ⟨_, ⟨_, hz⟩ | ⟨g8, c8, cur, e, hbg, hg, _, _, _, _⟩⟩ := id HU6.out
          · exact absurd hz (by rw [nL]; have := HLI.out.2.2; omega)
          rw [nL] at e
          cases e
          clear hbg hg
          have HA : Hid ((∀ x ∈ leafs L, H32 x) ∧ (leafs L).length = L.length) := ⟨leafs_ok L, nL⟩
          have HN0 : Hid ((L.map msgL ++ rootN (leafs L)).length ≤ 90 ∧ ∀ l ∈ L.map msgL ++ rootN (leafs L), l.length ≤ 1000) := by
            constructor
            · have h1 := (rootN_len _ (leafs L) (Nat.le_refl _)).1
              rw [nL] at h1
              rw [List.length_append, List.length_map]
              have := HLI.out
              have := HLI.out.1.1
              split at h1 <;> omega
            · intro l hl
              rcases List.mem_append.1 hl with hl | hl
              · obtain ⟨z, hz, rfl⟩ := List.mem_map.1 hl
                have := HLI.out.1.2 z hz
                simp [msgL]; omega
              · exact rootN_short HA.out.1 l hl
          have hS6 : FoS w w6 T w.heap.size g8 g9 L.length cu a0 a1 a2 (leafs L) R (L.map msgL ++ rootN (leafs L)) :=
            ⟨B6.out, G2.out.1, HG4.out, HTP6.out, G6.out.1, HU6.out.hs HA.out.1, R46.out, R9.out⟩
          have hmem : (∀ x ∈ rootN (leafs L), x ∈ L.map msgL ++ rootN (leafs L)) ∧ (∀ k, k < L.length → msgL (L.getD k []) ∈ L.map msgL ++ rootN (leafs L)) ∧ (∀ k, k < L.length → (leafs L).getD k [] = hsh (msgL (L.getD k []))) :=
            ⟨fun x hx => List.mem_append_right _ hx, fun k hk => List.mem_append_left _ (List.mem_map_of_mem (by simp [List.getD, hk])), fun k hk => leafs_at hk⟩
          have HMEM := (show Hid _ from hmem)
          have HS6 := (show Hid _ from hS6)
          have HTT : Hid (∀ {wr : World}, Below w.heap.size w wr → Tab wr) := fun h => HT.out.later h
          clear hmem hS6 R9 HTP6 G6 HU6 R46 B6 G2 HG4
          generalize L.map msgL ++ rootN (leafs L) = N6 at *
          generalize leafs L = A at *
          have e64 : Hid (A.length ≤ 64 ∧ L.length ≤ 40) := by have := HLI.out.1.1; have := HA.out.2; show _ ∧ _; omega
          obtain ⟨r, i, hr, hr1, hr2, hr3, hi⟩ := pos_mod a0 HLI.out.2.2
          have HI : Hid (i < L.length) := hi
          have i0 : (0 : Int) ≤ (i : Int) := by omega
          have i1 : (i : Int) < (L.length : Int) := by omega
          have iL : i < L.length := hi
          have hc0 : w6.cell? ⟨w.heap.size, 0, none⟩ = some (.int .i64 a0) := by rw [HS6.out.r4.cell]; rfl
          have ha1 := HAA.out
          obtain ⟨⟨ha01, ha02⟩, ⟨ha11, ha12⟩, ⟨ha21, ha22⟩⟩ := ha1
          clear hi
          go_wp2_with (go_at_call 17; refine stop ?_)
          clear hc0 hr hr1 hr2 hr3
          have hpa := path_any i _ A w6 (by rw [HA.out.2]; exact HI.out) e64.out.1 HS6.out.hA (HTT.out HS6.out.bw)
          rw [HA.out.2] at hpa
          refine hpa.mono ?_
          rintro e w7 ⟨up, rfl, hop, hb7⟩
          obtain ⟨pp, np, cp, rfl, hnp⟩ := ownsRowN_form hop
          obtain ⟨P, hP⟩ : ∃ P, pathL i false L.length A = P := ⟨_, rfl⟩
          have hP32 : ∀ z ∈ P, H32 z := by
            intro z hz
            rw [← hP] at hz
            unfold pathL at hz
            obtain ⟨s, _, rfl⟩ := List.mem_map.1 hz
            exact root_32 _ _ (Nat.le_refl _) (fun y hy => HA.out.1 y (sideOf_mem hy))
          have hPl : P.length = (wayL i false 0 L.length).2.length := by rw [← hP]; exact path_len i false L.length A
          have hP6 : P.length ≤ 6 := by rw [hPl]; exact way_steps 6 i false 0 L.length (Nat.zero_le _) HI.out (by have := e64.out.2; omega)
          rw [hP] at hnp hop
          subst hnp
          have HPP : Hid (pathL i false L.length A = P ∧ (∀ z ∈ P, H32 z) ∧ P.length = (wayL i false 0 L.length).2.length ∧ P.length ≤ 6) := ⟨hP, hP32, hPl, hP6⟩
          have HOP7 : Hid (OwnH w7 w6.heap.size (.slice pp P.length cp) P) := hop
          have HS7 := (show Hid _ from HS6.out.later hb7)
          have lp0 : (0 : Int) ≤ (P.length : Int) := by omega
          have lp1 : (P.length : Int) ≤ 6 := by omega
          clear hpa hop hb7 hP hP32 hPl hP6 HS6
          generalize w6.heap.size = bp at *
          go_wp2_with (go_at_call 20; refine stop ?_)
          refine (leaf_any _ b T _ _ w7 (HB.out.later HS7.out.bw) (by have := HLI.out.2.1; omega) (HTT.out HS7.out.bw) HS7.out.pos HS7.out.sz HS7.out.tp (by have := HN0.out.1; omega)).mono ?_
          rintro e w8 ⟨rfl, htp, hs⟩
          have h32 := hsh_32 (msgL b)
          obtain ⟨X, hX⟩ : ∃ X, hsh (msgL b) = X := ⟨_, rfl⟩
          rw [hX] at h32 ⊢
          have HX : Hid (hsh (msgL b) = X ∧ H32 X) := ⟨hX, h32⟩
          have HS8 := (show Hid _ from HS7.out.step hs htp)
          have HOP8 : Hid (OwnH w8 bp (.slice pp P.length cp) P) := HOP7.out.tstep hs
          clear hs htp h32 hX HS7 HOP7
          go_wp2_with (go_at_call 18; refine stop ?_)
          have hj1 := climb_judge A HA.out.1 i (by rw [HA.out.2]; exact HI.out) e64.out.1 X HX.out.2 _ P T _ _ w8 (HOP8.out.hs HPP.out.2.1) (HTT.out HS8.out.bw) HS8.out.pos HS8.out.sz HS8.out.tp (by rw [List.length_append]; have := HN0.out.1; simp; omega)
          rw [HA.out.2] at hj1
          refine hj1.mono ?_
          clear hj1
          rintro e w9 ⟨Y1, ok1, M1, rfl, hy32, hm1, hms1, htp, hs, hok, hown, hcl⟩
          rw [HA.out.2, HR.out] at hown
          rw [HA.out.2] at hok
          rw [HA.out.2, HR.out] at hcl
          have hok1 := hok HPP.out.2.2.1
          subst hok1
          have HY1 : Hid (H32 Y1 ∧ M1.length ≤ 6 ∧ (∀ l ∈ M1, l.length ≤ 1000) ∧ (X = A.getD i [] → Y1 = R) ∧ (Y1 = R → ClN (M1 ++ rootN A) ∨ X = A.getD i [])) :=
            ⟨hy32, hm1, hms1, fun e => hown e HPP.out.1.symm, fun e => (hcl rfl e).imp id And.left⟩
          have HS9 := (show Hid _ from HS8.out.step hs htp)
          have HOP9 : Hid (OwnH w9 bp (.slice pp P.length cp) P) := HOP8.out.tstep hs
          have iR := info_h32 hy32
          have zR := z32_size hy32
          have oR := bytesL_one Y1
          clear hs htp hok hown hcl hms1 hm1 hy32 HS8 HOP8
          go_wp2_with (refine wpList_store_row rfl 28 _ _ rfl w9.heap.size (bytesL Y1) rfl rfl 28 _ (heap_alloc_new w9 _) iR zR oR ?_; refine stop ?_)
          unfold Stop
          rw [zeros32b]
          have r9 := (Row.new w9 (bytesL (List.replicate 32 0)) 28 rfl).setRow (bytesL Y1)
          have bz : Below w9.heap.size w9 ((w9.alloc (.cells (bytesL (List.replicate 32 0)) 28)).setRow w9.heap.size (bytesL Y1)) := Below.row (below1 w9 _) _ (Nat.le_refl _)
          generalize (w9.alloc (.cells (bytesL (List.replicate 32 0)) 28)).setRow w9.heap.size (bytesL Y1) = wa at *
          have HSa := (show Hid _ from HS9.out.later bz)
          have HOPa : Hid (OwnH wa bp (.slice pp P.length cp) P) := HOP9.out.later bz
          have RYa : Hid (Row wa w9.heap.size (bytesL Y1) 28) := r9
          clear bz r9 iR zR oR HS9 HOP9
          generalize w9.heap.size = gy at *
          obtain ⟨b1, off1, hpz⟩ : ∃ b1 off1, p0 = some ⟨b1, off1, none⟩ := by
            obtain ⟨_, _, _, e, hc⟩ := HL.out
            cases e
            obtain ⟨b1, off1, x1, e, _⟩ := hc i HI.out
            exact ⟨b1, off1, e⟩
          subst hpz
          go_upto_region 11 with fail
          go_cut [97] (fun t wc => t = .bool false ∧ FoS w wc T w.heap.size g8 g9 L.length cu a0 a1 a2 A R (N6 ++ [msgL b] ++ M1) ∧ OwnH wc bp (.slice pp P.length cp) P ∧ Row wc gy (bytesL Y1) 28)
          case first =>
            rename_i iq1 iq2 iq3 iq4 iq5 iq6 iq7 iq8 iq9 iq10 iq11 iq12 iq13 iq14 iq15 iq16
            revert L a0 a1 a2 b w ht hlm c0 b8 bm pb cb iq1 hB HB HT HAA l0 m0 iq2 w0 w1 hb1 h0' m2 HLI l40 hli iq3 w3 T w4 cu T3 w5 R H32R w6 g9 g8 cur iq4 iq5 HTT N6 HN0 A nL HR iq6 iq7 iq8 HA HMEM e64 r i HI i0 i1 iL ha01 ha02 ha11 ha12 ha21 ha22 w7 pp cp P HPP lp0 lp1 bp w8 X HX w9 Y1 M1 HY1 wa HSa HOPa gy RYa b1 off1 hL HL iq9 iq10 iq11 iq12 iq13 iq14 iq15 iq16
            exact q_p11.out
          case rest =>
            obtain ⟨rfl, hs, ho, hy⟩ := hcut
            clear HSa HOPa RYa
            have HSa := (show Hid _ from hs)
            have HOPa : Hid (OwnH wc bp (.slice pp P.length cp) P) := ho
            have RYa : Hid (Row wc gy (bytesL Y1) 28) := hy
            clear hs ho hy
            go_upto_region 13 with fail
            go_cut [15] (fun t wc => (∃ q : Bool, t = .bool q ∧ (q = true → Y1 = R ∧ b ≠ L.getD i [])) ∧ FoS w wc T w.heap.size g8 g9 L.length cu a0 a1 a2 A R (N6 ++ [msgL b] ++ M1) ∧ OwnH wc bp (.slice pp P.length cp) P)
            case first =>
              rename_i iq1 iq2 iq3 iq4 iq5 iq6 iq7 iq8 iq9 iq10 iq11 iq12 iq13 iq14
              revert L a0 a1 a2 b w ht hlm c0 b8 bm pb cb iq1 hB HB HT HAA l0 m0 iq2 w0 w1 hb1 h0' m2 HLI l40 hli iq3 w3 T w4 cu T3 w5 R H32R w6 g9 g8 cur iq4 iq5 HTT N6 HN0 A nL HR iq6 iq7 iq8 HA HMEM e64 r i HI i0 i1 iL ha01 ha02 ha11 ha12 ha21 ha22 w7 pp cp P HPP lp0 lp1 bp w8 X HX w9 Y1 M1 HY1 wa gy b1 off1 hL HL wc u16 u23 u25 u27 u29 u30 u31 u32 u33 u34 u35 u36 u37 u38 u39 u40 u41 u42 u43 u44 u45 u46 u47 u48 u49 u50 u51 u52 u53 u54 u55 u56 u57 u58 u59 u60 u61 u62 u63 u64 u65 u66 u67 u68 u69 u70 u71 u72 u73 u74 u75 u76 u77 u78 u79 u80 u81 u82 u83 u84 u85 u86 u87 u88 u89 u90 u91 u92 u93 u94 u95 u96 u98 u99 u100 u101 u102 u103 u104 u105 u106 u107 u108 u109 u110 u111 u112 u113 u114 u115 u116 u117 u118 u119 u120 u121 u122 u123 u124 u125 u126 u127 u128 u129 u130 u131 u132 u133 u134 u135 u136 u137 u138 u139 u140 u141 u142 u143 u144 u145 u146 u147 u148 u149 u150 u151 u152 u153 u154 u155 u156 u157 u158 u159 u160 u161 u162 u163 u164 u165 u166 u167 u168 u169 u170 u171 u172 u173 u174 u175 u176 u177 u178 u179 u180 u181 u182 u183 u184 u185 u186 u187 u188 u189 u190 u191 u192 u193 u194 u195 u196 u197 u198 u199 u200 u201 u202 u203 u204 u205 u206 u207 u208 u209 u210 u211 u212 u213 u214 u215 u216 u217 u218 u219 u220 u221 u222 u223 u224 u225 u226 u227 u228 u229 u230 u231 u232 u233 u234 u235 u236 u237 u238 u239 u240 u241 u242 u243 u244 u245 u246 u247 u248 u249 u250 u251 u252 u253 u254 u255 u256 u257 u258 u259 u260 u261 u262 u263 u264 u265 u266 u267 HSa HOPa RYa iq9 iq10 iq11 iq12 iq13 iq14
              exact q_p13.out
            case rest =>
              obtain ⟨⟨q1, rfl, hq1⟩, hs, ho⟩ := hcut
              clear HSa HOPa RYa
              have HSa := (show Hid _ from hs)
              have HOPa : Hid (OwnH wc bp (.slice pp P.length cp) P) := ho
              have hc1 : q1 = true → ClN (N6 ++ [msgL b] ++ M1) := fun hq => by
                obtain ⟨e, hne⟩ := hq1 hq
                rcases HY1.out.2.2.2.2 e with hc | e2
                · clear q_p11 q_p13
                  exact hc.mono (by
                    intro z hz
                    rcases List.mem_append.1 hz with hz | hz
                    · exact List.mem_append_right _ hz
                    · exact List.mem_append_left _ (List.mem_append_left _ (HMEM.out.1 z hz)))
                · clear q_p11 q_p13
                  rw [HMEM.out.2.2 i HI.out, ← HX.out.1] at e2
                  rcases hsh_or (N := N6 ++ [msgL b] ++ M1) (x := msgL b) (y := msgL (L.getD i [])) (by simp) (List.mem_append_left _ (List.mem_append_left _ (HMEM.out.2.1 i HI.out))) e2 with hc | e3
                  · exact hc
                  · exact absurd (msgL_inj e3) hne
              have hm9 : (∀ x ∈ rootN A, x ∈ N6 ++ [msgL b] ++ M1) ∧ (∀ k, k < L.length → msgL (L.getD k []) ∈ N6 ++ [msgL b] ++ M1) ∧ (N6 ++ [msgL b] ++ M1).length ≤ 97 ∧ (∀ l ∈ N6 ++ [msgL b] ++ M1, l.length ≤ 1000) := by
                refine ⟨fun x hx => List.mem_append_left _ (List.mem_append_left _ (HMEM.out.1 x hx)), fun k hk => List.mem_append_left _ (List.mem_append_left _ (HMEM.out.2.1 k hk)), ?_, ?_⟩
                · clear q_p11 q_p13
                  simp only [List.length_append, List.length_singleton]
                  have := HN0.out.1; have := HY1.out.2.1
                  omega
                · clear q_p11 q_p13
                  intro l hl
                  simp only [List.mem_append, List.mem_singleton] at hl
                  rcases hl with (hl | hl) | hl
                  · exact HN0.out.2 l hl
                  · subst hl
                    have := HLI.out.2.1
                    simp [msgL]; omega
                  · exact HY1.out.2.2.1 l hl
              have HAI : Hid (∀ k, k < L.length → A.getD k [] = hsh (msgL (L.getD k []))) := HMEM.out.2.2
              have HC1 := (show Hid _ from hc1)
              have HM9 := (show Hid _ from hm9)
              clear hq1 hc1 hm9 HMEM HN0 HY1 HX
              generalize N6 ++ [msgL b] ++ M1 = N9 at *
              go_upto_region 14 with fail
              go_cut [17] (fun t wc => t = .bool false ∧ FoS w wc T w.heap.size g8 g9 L.length cu a0 a1 a2 A R N9 ∧ OwnH wc bp (.slice pp P.length cp) P)
              case first =>
                rename_i iq1 iq2 iq3 iq4 iq5 iq6 iq7 iq8 iq9 iq10 iq11 iq12 iq13 iq14 iq15 iq16 iq17 iq18 iq19 iq20 iq21 iq22 iq23 iq24 iq25 iq26 iq27 iq28 iq29 iq30 iq31 iq32 iq33 iq34 iq35 iq36 iq37 iq38 iq39 iq40 iq41 iq42 iq43 iq44 iq45 iq46 iq47 iq48 iq49 iq50 iq51 iq52 iq53 iq54 iq55 iq56 iq57 iq58 iq59 iq60 iq61 iq62 iq63 iq64 iq65 iq66 iq67 iq68 iq69 iq70 iq71 iq72 iq73 iq74 iq75 iq76 iq77 iq78 iq79 iq80 iq81 iq82 iq83 iq84 iq85 iq86 iq87 iq88 iq89 iq90 iq91 iq92 iq93 iq94 iq95 iq96 iq97 iq98 iq99 iq100 iq101 iq102 iq103 iq104 iq105 iq106 iq107 iq108 iq109 iq110 iq111 iq112 iq113 iq114 iq115 iq116 iq117 iq118 iq119 iq120 iq121 iq122 iq123 iq124 iq125 iq126 iq127 iq128 iq129 iq130 iq131 iq132 iq133 iq134 iq135 iq136 iq137 iq138 iq139 iq140 iq141 iq142 iq143 iq144 iq145 iq146 iq147 iq148 iq149 iq150 iq151 iq152 iq153 iq154 iq155 iq156 iq157 iq158 iq159 iq160 iq161 iq162 iq163 iq164 iq165 iq166 iq167 iq168 iq169 iq170 iq171 iq172 iq173 iq174 iq175 iq176 iq177 iq178 iq179 iq180 iq181 iq182 iq183 iq184 iq185 iq186 iq187 iq188 iq189 iq190 iq191 iq192 iq193 iq194 iq195 iq196 iq197 iq198 iq199 iq200 iq201 iq202 iq203 iq204 iq205 iq206 iq207 iq208 iq209 iq210 iq211 iq212 iq213 iq214 iq215 iq216 iq217 iq218 iq219 iq220 iq221 iq222 iq223 iq224 iq225 iq226 iq227 iq228 iq229 iq230 iq231 iq232 iq233 iq234 iq235 iq236 iq237 iq238 iq239 iq240 iq241 iq242 iq243 iq244 iq245 iq246 iq247 iq248 iq249 iq250 iq251 iq252 iq253 iq254 iq255 iq256 iq257 iq258 iq259
                revert L a0 a1 a2 b w ht hlm c0 b8 bm pb cb iq1 hB HB HT HAA l0 m0 iq2 w0 w1 hb1 h0' m2 HLI l40 hli iq3 w3 T w4 cu T3 w5 R H32R w6 g9 g8 cur iq4 iq5 HTT N6 A nL HR iq6 iq7 iq8 HA e64 r i HI i0 i1 iL ha01 ha02 ha11 ha12 ha21 ha22 w7 pp cp P HPP lp0 lp1 bp w8 X w9 Y1 M1 wa gy b1 off1 hL HL iq9 iq10 iq11 iq12 iq13 iq14 iq15 iq16 iq17 iq18 iq19 iq20 iq21 iq22 iq23 iq24 iq25 iq26 iq27 iq28 iq29 iq30 iq31 iq32 iq33 iq34 iq35 iq36 iq37 iq38 iq39 iq40 iq41 iq42 iq43 iq44 iq45 iq46 iq47 iq48 iq49 iq50 iq51 iq52 iq53 iq54 iq55 iq56 iq57 iq58 iq59 iq60 iq61 iq62 iq63 iq64 iq65 iq66 iq67 iq68 iq69 iq70 iq71 iq72 iq73 iq74 iq75 iq76 iq77 iq78 iq79 iq80 iq81 iq82 iq83 iq84 iq85 iq86 iq87 iq88 iq89 iq90 iq91 iq92 iq93 iq94 iq95 iq96 iq97 iq98 iq99 iq100 iq101 iq102 iq103 iq104 iq105 iq106 iq107 iq108 iq109 iq110 iq111 iq112 iq113 iq114 iq115 iq116 iq117 iq118 iq119 iq120 iq121 iq122 iq123 iq124 iq125 iq126 iq127 iq128 iq129 iq130 iq131 iq132 iq133 iq134 iq135 iq136 iq137 iq138 iq139 iq140 iq141 iq142 iq143 iq144 iq145 iq146 iq147 iq148 iq149 iq150 iq151 iq152 iq153 iq154 iq155 iq156 iq157 iq158 iq159 iq160 iq161 iq162 iq163 iq164 iq165 iq166 iq167 iq168 iq169 iq170 iq171 iq172 iq173 iq174 iq175 iq176 iq177 iq178 iq179 iq180 iq181 iq182 iq183 iq184 iq185 iq186 iq187 iq188 iq189 iq190 iq191 iq192 iq193 iq194 iq195 iq196 iq197 iq198 iq199 iq200 iq201 iq202 iq203 iq204 iq205 iq206 iq207 iq208 iq209 iq210 iq211 iq212 iq213 iq214 iq215 iq216 iq217 iq218 iq219 iq220 iq221 iq222 iq223 iq224 iq225 iq226 iq227 iq228 iq229 iq230 iq231 iq232 iq233 iq234 iq235 iq236 iq237 iq238 iq239 iq240 iq241 iq242 iq243 iq244 iq245 iq246 iq247 iq248 iq249 iq250 iq251 wc u16 u23 u25 u27 u29 u30 u31 u32 u33 u34 u35 u36 u37 u38 u39 u40 u41 u42 u43 u44 u45 u46 u47 u48 u49 u50 u51 u52 u53 u54 u55 u56 u57 u58 u59 u60 u61 u62 u63 u64 u65 u66 u67 u68 u69 u70 u71 u72 u73 u74 u75 u76 u77 u78 u79 u80 u81 u82 u83 u84 u85 u86 u87 u88 u89 u90 u91 u92 u93 u94 u95 u96 u97 u98 u99 u100 u101 u102 u103 u104 u105 u106 u107 u108 u109 u110 u111 u112 u113 u114 u115 u116 u117 u118 u119 u120 u121 u122 u123 u124 u125 u126 u127 u128 u129 u130 u131 u132 u133 u134 u135 u136 u137 u138 u139 u140 u141 u142 u143 u144 u145 u146 u147 u148 u149 u150 u151 u152 u153 u154 u155 u156 u157 u158 u159 u160 u161 u162 u163 u164 u165 u166 u167 u168 u169 u170 u171 u172 u173 u174 u175 u176 u177 u178 u179 u180 u181 u182 u183 u184 u185 u186 u187 u188 u189 u190 u191 u192 u193 u194 u195 u196 u197 u198 u199 u200 u201 u202 u203 u204 u205 u206 u207 u208 u209 u210 u211 u212 u213 u214 u215 u216 u217 u218 u219 u220 u221 u222 u223 u224 u225 u226 u227 u228 u229 u230 u231 u232 u233 u234 u235 u236 u237 u238 u239 u240 u241 u242 u243 u244 u245 u246 u247 u248 u249 u250 u251 u252 u253 u254 u255 u256 u257 u258 u259 u260 u261 u262 u263 u264 u265 u266 u267 q1 ho HOPa HAI N9 hs HSa HC1 HM9 iq252 iq253 iq254 iq255 iq256 iq257 iq258 iq259
                exact q_p14.out
              case rest =>
                obtain ⟨rfl, hs, ho⟩ := hcut
                clear HSa HOPa
                have HSa : Hid (FoS w wc T w.heap.size g8 g9 L.length cu a0 a1 a2 A R N9) := hs
                have HOPa : Hid (OwnH wc bp (.slice pp P.length cp) P) := ho
                clear hs ho
                generalize wc = wa at *
                obtain ⟨r, j, hr, hr1, hr2, hr3, hj⟩ := pos_mod a1 HLI.out.2.2
                have HJ : Hid (j < L.length) := hj
                have j0 : (0 : Int) ≤ (j : Int) := by omega
                have j1 : (j : Int) < (L.length : Int) := by omega
                have hc0 : wa.cell? ⟨w.heap.size, 1, none⟩ = some (.int .i64 a1) := by rw [HSa.out.r4.cell]; rfl
                clear hj
                have hia : i < A.length := by rw [HA.out.2]; exact HI.out
                have h3i := getD_32 HA.out.1 hia
                obtain ⟨Ai, hAi⟩ : ∃ x, A.getD i [] = x := ⟨_, rfl⟩
                rw [hAi] at h3i
                have HAi : Hid (A.getD i [] = Ai ∧ H32 Ai) := ⟨hAi, h3i⟩
                have lAi : (Tryd.prog.info? 28).map (·.size) = some (bytesL Ai).toList.length := by rw [Array.length_toList]; exact info_h32 h3i
                have hri : wa.rangeAt g8 (i * 32) (bytesL Ai).toList := by rw [← hAi]; exact hs_range HSa.out.hA hia
                have HLA := (show Hid _ from lAi)
                clear h3i hia hAi
                go_wp2_with (first | refine wpList_load_mid rfl 28 _ rfl g8 (i * 32) rfl (bytesL Ai).toList _ hri Tryd.underlying28 rfl lAi ?_ | (go_at_call 18; refine stop ?_))
                clear hc0 hr hr1 hr2 hr3 hri lAi
                have hj2 := climb_judge A HA.out.1 j (by rw [HA.out.2]; exact HJ.out) e64.out.1 Ai HAi.out.2 _ P T _ N9 wa (HOPa.out.hs HPP.out.2.1) (HTT.out HSa.out.bw) HSa.out.pos HSa.out.sz HSa.out.tp (by have := HM9.out.2.2.1; omega)
                rw [HA.out.2] at hj2
                refine hj2.mono ?_
                clear hj2
                rintro e wb ⟨Y2, ok2, M2, rfl, hy32, hm1, hms1, htp, hs, _, _, hcl⟩
                rw [HR.out] at hcl
                have hk2 : ok2 = true → Y2 = R → L.getD j [] ≠ L.getD i [] → ClN (N9 ++ M2) := fun h1 h2 hne => by
                  rcases hcl h1 h2 with hc | ⟨e2, _⟩
                  · clear q_p14
                    exact hc.mono (by
                      intro z hz
                      rcases List.mem_append.1 hz with hz | hz
                      · exact List.mem_append_right _ hz
                      · exact List.mem_append_left _ (HM9.out.1 z hz))
                  · clear q_p14
                    rw [← HAi.out.1, HAI.out i HI.out, HAI.out j HJ.out] at e2
                    rcases hsh_or (N := N9 ++ M2) (List.mem_append_left _ (HM9.out.2.1 i HI.out)) (List.mem_append_left _ (HM9.out.2.1 j HJ.out)) e2 with hc | e3
                    · exact hc
                    · exact absurd (msgL_inj e3).symm hne
                have hm10 : (∀ x ∈ rootN A, x ∈ N9 ++ M2) ∧ (N9 ++ M2).length ≤ 103 ∧ (∀ l ∈ N9 ++ M2, l.length ≤ 1000) := by
                  refine ⟨fun x hx => List.mem_append_left _ (HM9.out.1 x hx), by rw [List.length_append]; have := HM9.out.2.2.1; omega, fun l hl => ?_⟩
                  rcases List.mem_append.1 hl with hl | hl
                  · clear q_p14
                    exact HM9.out.2.2.2 l hl
                  · clear q_p14
                    exact hms1 l hl
                have hc10 : q1 = true → ClN (N9 ++ M2) := fun h => (HC1.out h).mono (fun z hz => List.mem_append_left _ hz)
                have HK2 : Hid (ok2 = true → Y2 = R → L.getD j [] ≠ L.getD i [] → ClN (N9 ++ M2)) := hk2
                have HM10 := (show Hid _ from hm10)
                have HC10 := (show Hid _ from hc10)
                have HY2 : Hid (H32 Y2) := hy32
                have HSb := (show Hid _ from HSa.out.step hs htp)
                have HOPb : Hid (OwnH wb bp (.slice pp P.length cp) P) := HOPa.out.tstep hs
                have iR := info_h32 hy32
                have zR := z32_size hy32
                have oR := bytesL_one Y2
                clear hs htp hcl hk2 hm10 hc10 hms1 hm1 hy32 HSa HOPa HC1 HM9
                generalize N9 ++ M2 = N10 at *
                go_wp2_with (refine wpList_store_row rfl 28 _ _ rfl wb.heap.size (bytesL Y2) rfl rfl 28 _ (heap_alloc_new wb _) iR zR oR ?_; refine stop ?_)
                unfold Stop
                rw [zeros32b]
                have r9 := (Row.new wb (bytesL (List.replicate 32 0)) 28 rfl).setRow (bytesL Y2)
                have bz : Below wb.heap.size wb ((wb.alloc (.cells (bytesL (List.replicate 32 0)) 28)).setRow wb.heap.size (bytesL Y2)) := Below.row (below1 wb _) _ (Nat.le_refl _)
                generalize (wb.alloc (.cells (bytesL (List.replicate 32 0)) 28)).setRow wb.heap.size (bytesL Y2) = wd at *
                have HSd := (show Hid _ from HSb.out.later bz)
                have HOPd : Hid (OwnH wd bp (.slice pp P.length cp) P) := HOPb.out.later bz
                have RYd : Hid (Row wd wb.heap.size (bytesL Y2) 28) := r9
                clear bz r9 iR zR oR HSb HOPb
                generalize wb.heap.size = gy2 at *
                go_upto_region 19 with fail
                go_cut [15] (fun t wc => (∃ q : Bool, t = .bool q ∧ (q = true → ClN N10)) ∧ FoS w wc T w.heap.size g8 g9 L.length cu a0 a1 a2 A R N10 ∧ OwnH wc bp (.slice pp P.length cp) P)
                case first =>
                  rename_i iq1 iq2 iq3 iq4 iq5 iq6 iq7 iq8 iq9 iq10 iq11 iq12 iq13 iq14 iq15 iq16 iq17 iq18 iq19 iq20 iq21 iq22 iq23 iq24 iq25 iq26 iq27 iq28 iq29 iq30 iq31 iq32 iq33 iq34 iq35 iq36 iq37 iq38 iq39 iq40 iq41 iq42 iq43 iq44 iq45 iq46 iq47 iq48 iq49 iq50 iq51 iq52 iq53 iq54 iq55 iq56 iq57 iq58 iq59 iq60 iq61 iq62 iq63 iq64 iq65 iq66 iq67 iq68 iq69 iq70 iq71 iq72 iq73 iq74 iq75 iq76 iq77 iq78 iq79 iq80 iq81 iq82 iq83 iq84 iq85 iq86 iq87 iq88 iq89 iq90 iq91 iq92 iq93 iq94 iq95 iq96 iq97 iq98 iq99 iq100 iq101 iq102 iq103 iq104 iq105 iq106 iq107 iq108 iq109 iq110 iq111 iq112 iq113 iq114 iq115 iq116 iq117 iq118 iq119 iq120 iq121 iq122 iq123 iq124 iq125 iq126 iq127 iq128 iq129 iq130 iq131 iq132 iq133 iq134 iq135 iq136 iq137 iq138 iq139 iq140 iq141 iq142 iq143 iq144 iq145 iq146 iq147 iq148 iq149 iq150 iq151 iq152 iq153 iq154 iq155 iq156 iq157 iq158 iq159 iq160 iq161 iq162 iq163 iq164 iq165 iq166 iq167 iq168 iq169 iq170 iq171 iq172 iq173 iq174 iq175 iq176 iq177 iq178 iq179 iq180 iq181 iq182 iq183 iq184 iq185 iq186 iq187 iq188 iq189 iq190 iq191 iq192 iq193 iq194 iq195 iq196 iq197 iq198 iq199 iq200 iq201 iq202 iq203 iq204 iq205 iq206 iq207 iq208 iq209 iq210 iq211 iq212 iq213 iq214 iq215 iq216 iq217 iq218 iq219 iq220 iq221 iq222 iq223 iq224 iq225 iq226 iq227 iq228 iq229 iq230 iq231 iq232 iq233 iq234 iq235 iq236 iq237 iq238 iq239 iq240 iq241 iq242 iq243 iq244 iq245 iq246 iq247 iq248 iq249 iq250 iq251 iq252 iq253 iq254 iq255 iq256 iq257 iq258 iq259 iq260 iq261 iq262 iq263 iq264 iq265 iq266 iq267 iq268 iq269 iq270 iq271 iq272 iq273 iq274 iq275 iq276 iq277 iq278 iq279 iq280 iq281 iq282 iq283 iq284 iq285 iq286 iq287 iq288 iq289 iq290 iq291 iq292 iq293 iq294 iq295 iq296 iq297 iq298 iq299 iq300 iq301 iq302 iq303 iq304 iq305 iq306 iq307 iq308 iq309 iq310 iq311 iq312 iq313 iq314 iq315 iq316 iq317 iq318 iq319 iq320 iq321 iq322 iq323 iq324 iq325 iq326 iq327 iq328 iq329 iq330 iq331 iq332 iq333 iq334 iq335 iq336 iq337 iq338 iq339 iq340 iq341 iq342 iq343 iq344 iq345 iq346 iq347 iq348 iq349 iq350 iq351 iq352 iq353 iq354 iq355 iq356 iq357 iq358 iq359 iq360 iq361 iq362 iq363 iq364 iq365 iq366 iq367 iq368 iq369 iq370 iq371 iq372 iq373 iq374 iq375 iq376 iq377 iq378 iq379 iq380 iq381 iq382 iq383 iq384 iq385 iq386 iq387 iq388 iq389 iq390 iq391 iq392 iq393 iq394 iq395 iq396 iq397 iq398 iq399 iq400 iq401 iq402 iq403 iq404 iq405 iq406 iq407 iq408 iq409 iq410 iq411 iq412 iq413 iq414 iq415 iq416 iq417 iq418 iq419 iq420 iq421 iq422 iq423 iq424 iq425 iq426 iq427 iq428 iq429 iq430 iq431 iq432 iq433 iq434 iq435 iq436 iq437 iq438 iq439 iq440 iq441 iq442 iq443 iq444 iq445 iq446 iq447 iq448 iq449 iq450 iq451 iq452 iq453 iq454 iq455 iq456 iq457 iq458 iq459 iq460 iq461 iq462 iq463 iq464 iq465 iq466 iq467 iq468 iq469 iq470 iq471 iq472 iq473 iq474 iq475 iq476 iq477 iq478 iq479 iq480 iq481 iq482 iq483 iq484 iq485 iq486 iq487 iq488 iq489 iq490 iq491 iq492 iq493 iq494 iq495 iq496 iq497 iq498 iq499 iq500 iq501 iq502 iq503 iq504 iq505
                  revert L a0 a1 a2 b w ht hlm c0 b8 bm pb cb iq1 hB HB HT HAA l0 m0 iq2 w0 w1 hb1 h0' m2 HLI l40 hli iq3 w3 T w4 cu T3 w5 R H32R w6 g9 g8 cur iq4 iq5 HTT N6 A nL HR iq6 iq7 iq8 HA e64 iq9 i HI i0 i1 iL ha01 ha02 ha11 ha12 ha21 ha22 w7 pp cp P HPP lp0 lp1 bp w8 X w9 Y1 M1 iq10 gy b1 off1 hL HL iq11 iq12 iq13 iq14 iq15 iq16 iq17 iq18 iq19 iq20 iq21 iq22 iq23 iq24 iq25 iq26 iq27 iq28 iq29 iq30 iq31 iq32 iq33 iq34 iq35 iq36 iq37 iq38 iq39 iq40 iq41 iq42 iq43 iq44 iq45 iq46 iq47 iq48 iq49 iq50 iq51 iq52 iq53 iq54 iq55 iq56 iq57 iq58 iq59 iq60 iq61 iq62 iq63 iq64 iq65 iq66 iq67 iq68 iq69 iq70 iq71 iq72 iq73 iq74 iq75 iq76 iq77 iq78 iq79 iq80 iq81 iq82 iq83 iq84 iq85 iq86 iq87 iq88 iq89 iq90 iq91 iq92 iq93 iq94 iq95 iq96 iq97 iq98 iq99 iq100 iq101 iq102 iq103 iq104 iq105 iq106 iq107 iq108 iq109 iq110 iq111 iq112 iq113 iq114 iq115 iq116 iq117 iq118 iq119 iq120 iq121 iq122 iq123 iq124 iq125 iq126 iq127 iq128 iq129 iq130 iq131 iq132 iq133 iq134 iq135 iq136 iq137 iq138 iq139 iq140 iq141 iq142 iq143 iq144 iq145 iq146 iq147 iq148 iq149 iq150 iq151 iq152 iq153 iq154 iq155 iq156 iq157 iq158 iq159 iq160 iq161 iq162 iq163 iq164 iq165 iq166 iq167 iq168 iq169 iq170 iq171 iq172 iq173 iq174 iq175 iq176 iq177 iq178 iq179 iq180 iq181 iq182 iq183 iq184 iq185 iq186 iq187 iq188 iq189 iq190 iq191 iq192 iq193 iq194 iq195 iq196 iq197 iq198 iq199 iq200 iq201 iq202 iq203 iq204 iq205 iq206 iq207 iq208 iq209 iq210 iq211 iq212 iq213 iq214 iq215 iq216 iq217 iq218 iq219 iq220 iq221 iq222 iq223 iq224 iq225 iq226 iq227 iq228 iq229 iq230 iq231 iq232 iq233 iq234 iq235 iq236 iq237 iq238 iq239 iq240 iq241 iq242 iq243 iq244 iq245 iq246 iq247 iq248 iq249 iq250 iq251 iq252 iq253 iq254 iq255 iq256 iq257 iq258 iq259 iq260 iq261 iq262 iq263 iq264 iq265 iq266 iq267 iq268 iq269 iq270 iq271 iq272 iq273 iq274 iq275 iq276 iq277 iq278 iq279 iq280 iq281 iq282 iq283 iq284 iq285 iq286 iq287 iq288 iq289 iq290 iq291 iq292 iq293 iq294 iq295 iq296 iq297 iq298 iq299 iq300 iq301 iq302 iq303 iq304 iq305 iq306 iq307 iq308 iq309 iq310 iq311 iq312 iq313 iq314 iq315 iq316 iq317 iq318 iq319 iq320 iq321 iq322 iq323 iq324 iq325 iq326 iq327 iq328 iq329 iq330 iq331 iq332 iq333 iq334 iq335 iq336 iq337 iq338 iq339 iq340 iq341 iq342 iq343 iq344 iq345 iq346 iq347 iq348 iq349 iq350 iq351 iq352 iq353 iq354 iq355 iq356 iq357 iq358 iq359 iq360 iq361 iq362 iq363 iq364 iq365 iq366 iq367 iq368 iq369 iq370 iq371 iq372 iq373 iq374 iq375 iq376 iq377 iq378 iq379 iq380 iq381 iq382 iq383 iq384 iq385 iq386 iq387 iq388 iq389 iq390 iq391 iq392 iq393 iq394 iq395 iq396 iq397 iq398 iq399 iq400 iq401 iq402 iq403 iq404 iq405 iq406 iq407 iq408 iq409 iq410 iq411 iq412 iq413 iq414 iq415 iq416 iq417 iq418 iq419 iq420 iq421 iq422 iq423 iq424 iq425 iq426 iq427 iq428 iq429 iq430 iq431 iq432 iq433 iq434 iq435 iq436 iq437 iq438 iq439 iq440 iq441 iq442 iq443 iq444 iq445 iq446 iq447 iq448 iq449 iq450 iq451 iq452 iq453 iq454 iq455 iq456 iq457 iq458 iq459 iq460 iq461 iq462 iq463 iq464 iq465 iq466 iq467 iq468 iq469 iq470 iq471 iq472 iq473 iq474 iq475 iq476 iq477 iq478 iq479 iq480 iq481 iq482 iq483 iq484 iq485 iq486 iq487 iq488 iq489 iq490 iq491 iq492 iq493 iq494 iq495 iq496 iq497 q1 ho HAI N9 hs wc u16 u23 u25 u27 u29 u30 u31 u32 u33 u34 u35 u36 u37 u38 u39 u40 u41 u42 u43 u44 u45 u46 u47 u48 u49 u50 u51 u52 u53 u54 u55 u56 u57 u58 u59 u60 u61 u62 u63 u64 u65 u66 u67 u68 u69 u70 u71 u72 u73 u74 u75 u76 u77 u78 u79 u80 u81 u82 u83 u84 u85 u86 u87 u88 u89 u90 u91 u92 u93 u94 u95 u96 u97 u98 u99 u100 u101 u102 u103 u104 u105 u106 u107 u108 u109 u110 u111 u112 u113 u114 u115 u116 u117 u118 u119 u120 u121 u122 u123 u124 u125 u126 u127 u128 u129 u130 u131 u132 u133 u134 u135 u136 u137 u138 u139 u140 u141 u142 u143 u144 u145 u146 u147 u148 u149 u150 u151 u152 u153 u154 u155 u156 u157 u158 u159 u160 u161 u162 u163 u164 u165 u166 u167 u168 u169 u170 u171 u172 u173 u174 u175 u176 u177 u178 u179 u180 u181 u182 u183 u184 u185 u186 u187 u188 u189 u190 u191 u192 u193 u194 u195 u196 u197 u198 u199 u200 u201 u202 u203 u204 u205 u206 u207 u208 u209 u210 u211 u212 u213 u214 u215 u216 u217 u218 u219 u220 u221 u222 u223 u224 u225 u226 u227 u228 u229 u230 u231 u232 u233 u234 u235 u236 u237 u238 u239 u240 u241 u242 u243 u244 u245 u246 u247 u248 u249 u250 u251 u252 u253 u254 u255 u256 u257 u258 u259 u260 u261 u262 u263 u264 u265 u266 u267 wa r j HJ j0 j1 Ai HAi HLA wb Y2 ok2 M2 iq498 iq499 HY2 N10 HK2 HM10 HC10 wd HSd HOPd gy2 RYd iq500 iq501 iq502 iq503 iq504 iq505
                  exact q_p19.out
                case rest =>
                  obtain ⟨⟨q2, rfl, hq2⟩, hs, ho⟩ := hcut
                  clear HSd HOPd RYd
                  have HSa : Hid (FoS w wc T w.heap.size g8 g9 L.length cu a0 a1 a2 A R N10) := hs
                  have HOPa : Hid (OwnH wc bp (.slice pp P.length cp) P) := ho
                  have HQ2 : Hid (q2 = true → ClN N10) := hq2
                  clear hs ho hq2 HK2 HC10 HY2
                  generalize wc = wa at *
                  go_upto_if 176 with fail
                  go_cut [15] (fun t wc => ∃ (q : Bool) (N' : List (List Nat)), t = .bool q ∧ (q = true → ClN N') ∧ FoS w wc T w.heap.size g8 g9 L.length cu a0 a1 a2 A R N' ∧ N'.length ≤ 109 ∧ (∀ l ∈ N', l.length ≤ 1000) ∧ OwnH wc bp (.slice pp P.length cp) P)
                  case first =>
                    by_cases hP0 : P.length = 0
                    · clear q_p19
                      have hP0' : (P.length : Int) = 0 := by omega
                      go_wp2_with fail
                      go_meet
                      case rel => exact ⟨q2, N10, rfl, HQ2.out, HSa.out, by have := HM10.out.2.1; omega, HM10.out.2.2, HOPa.out⟩
                    · clear q_p19
                      have hP1 : (0 : Int) < (P.length : Int) := by omega
                      rename_i iq1 iq2 iq3 iq4 iq5 iq6 iq7 iq8 iq9 iq10 iq11 iq12 iq13 iq14 iq15 iq16 iq17 iq18 iq19 iq20 iq21 iq22 iq23 iq24 iq25 iq26 iq27 iq28 iq29 iq30 iq31 iq32 iq33 iq34 iq35 iq36 iq37 iq38 iq39 iq40 iq41 iq42 iq43 iq44 iq45 iq46 iq47 iq48 iq49 iq50 iq51 iq52 iq53 iq54 iq55 iq56 iq57 iq58 iq59 iq60 iq61 iq62 iq63 iq64 iq65 iq66 iq67 iq68 iq69 iq70 iq71 iq72 iq73 iq74 iq75 iq76 iq77 iq78 iq79 iq80 iq81 iq82 iq83 iq84 iq85 iq86 iq87 iq88 iq89 iq90 iq91 iq92 iq93 iq94 iq95 iq96 iq97 iq98 iq99 iq100 iq101 iq102 iq103 iq104 iq105 iq106 iq107 iq108 iq109 iq110 iq111 iq112 iq113 iq114 iq115 iq116 iq117 iq118 iq119 iq120 iq121 iq122 iq123 iq124 iq125 iq126 iq127 iq128 iq129 iq130 iq131 iq132 iq133 iq134 iq135 iq136 iq137 iq138 iq139 iq140 iq141 iq142 iq143 iq144 iq145 iq146 iq147 iq148 iq149 iq150 iq151 iq152 iq153 iq154 iq155 iq156 iq157 iq158 iq159 iq160 iq161 iq162 iq163 iq164 iq165 iq166 iq167 iq168 iq169 iq170 iq171 iq172 iq173 iq174 iq175 iq176 iq177 iq178 iq179 iq180 iq181 iq182 iq183 iq184 iq185 iq186 iq187 iq188 iq189 iq190 iq191 iq192 iq193 iq194 iq195 iq196 iq197 iq198 iq199 iq200 iq201 iq202 iq203 iq204 iq205 iq206 iq207 iq208 iq209 iq210 iq211 iq212 iq213 iq214 iq215 iq216 iq217 iq218 iq219 iq220 iq221 iq222 iq223 iq224 iq225 iq226 iq227 iq228 iq229 iq230 iq231 iq232 iq233 iq234 iq235 iq236 iq237 iq238 iq239 iq240 iq241 iq242 iq243 iq244 iq245 iq246 iq247 iq248 iq249 iq250 iq251 iq252 iq253 iq254 iq255 iq256 iq257 iq258 iq259 iq260 iq261 iq262 iq263 iq264 iq265 iq266 iq267 iq268 iq269 iq270 iq271 iq272 iq273 iq274 iq275 iq276 iq277 iq278 iq279 iq280 iq281 iq282 iq283 iq284 iq285 iq286 iq287 iq288 iq289 iq290 iq291 iq292 iq293 iq294 iq295 iq296 iq297 iq298 iq299 iq300 iq301 iq302 iq303 iq304 iq305 iq306 iq307 iq308 iq309 iq310 iq311 iq312 iq313 iq314 iq315 iq316 iq317 iq318 iq319 iq320 iq321 iq322 iq323 iq324 iq325 iq326 iq327 iq328 iq329 iq330 iq331 iq332 iq333 iq334 iq335 iq336 iq337 iq338 iq339 iq340 iq341 iq342 iq343 iq344 iq345 iq346 iq347 iq348 iq349 iq350 iq351 iq352 iq353 iq354 iq355 iq356 iq357 iq358 iq359 iq360 iq361 iq362 iq363 iq364 iq365 iq366 iq367 iq368 iq369 iq370 iq371 iq372 iq373 iq374 iq375 iq376 iq377 iq378 iq379 iq380 iq381 iq382 iq383 iq384 iq385 iq386 iq387 iq388 iq389 iq390 iq391 iq392 iq393 iq394 iq395 iq396 iq397 iq398 iq399 iq400 iq401 iq402 iq403 iq404 iq405 iq406 iq407 iq408 iq409 iq410 iq411 iq412 iq413 iq414 iq415 iq416 iq417 iq418 iq419 iq420 iq421 iq422 iq423 iq424 iq425 iq426 iq427 iq428 iq429 iq430 iq431 iq432 iq433 iq434 iq435 iq436 iq437 iq438 iq439 iq440 iq441 iq442 iq443 iq444 iq445 iq446 iq447 iq448 iq449 iq450 iq451 iq452 iq453 iq454 iq455 iq456 iq457 iq458 iq459 iq460 iq461 iq462 iq463 iq464 iq465 iq466 iq467 iq468 iq469 iq470 iq471 iq472 iq473 iq474 iq475 iq476 iq477 iq478 iq479 iq480 iq481 iq482 iq483 iq484 iq485 iq486 iq487 iq488 iq489 iq490 iq491 iq492 iq493 iq494 iq495 iq496 iq497 iq498 iq499 iq500 iq501 iq502 iq503 iq504 iq505 iq506 iq507 iq508 iq509 iq510 iq511 iq512 iq513 iq514 iq515 iq516 iq517 iq518 iq519 iq520 iq521 iq522 iq523 iq524 iq525 iq526 iq527 iq528 iq529 iq530 iq531 iq532 iq533 iq534 iq535 iq536 iq537 iq538 iq539 iq540 iq541 iq542 iq543 iq544 iq545 iq546 iq547 iq548 iq549 iq550 iq551 iq552 iq553 iq554 iq555 iq556 iq557 iq558 iq559 iq560 iq561 iq562 iq563 iq564 iq565 iq566 iq567 iq568 iq569 iq570 iq571 iq572 iq573 iq574 iq575 iq576 iq577 iq578 iq579 iq580 iq581 iq582 iq583 iq584 iq585 iq586 iq587 iq588 iq589 iq590 iq591 iq592 iq593 iq594 iq595 iq596 iq597 iq598 iq599 iq600 iq601 iq602 iq603 iq604 iq605 iq606 iq607 iq608 iq609 iq610 iq611 iq612 iq613 iq614 iq615 iq616 iq617 iq618 iq619 iq620 iq621 iq622 iq623 iq624 iq625 iq626 iq627 iq628 iq629 iq630 iq631 iq632 iq633 iq634 iq635 iq636 iq637 iq638 iq639 iq640 iq641 iq642 iq643 iq644 iq645 iq646 iq647 iq648 iq649 iq650 iq651 iq652 iq653 iq654 iq655 iq656 iq657 iq658 iq659 iq660 iq661 iq662 iq663 iq664 iq665 iq666 iq667 iq668 iq669 iq670 iq671 iq672 iq673 iq674 iq675 iq676 iq677 iq678 iq679 iq680 iq681 iq682 iq683 iq684 iq685 iq686 iq687 iq688 iq689 iq690 iq691 iq692 iq693 iq694 iq695 iq696 iq697 iq698 iq699 iq700 iq701 iq702 iq703 iq704 iq705 iq706 iq707 iq708 iq709 iq710 iq711 iq712 iq713 iq714 iq715 iq716 iq717 iq718 iq719 iq720 iq721 iq722 iq723 iq724 iq725 iq726 iq727 iq728 iq729 iq730 iq731 iq732 iq733 iq734 iq735 iq736 iq737 iq738 iq739 iq740 iq741 iq742 iq743 iq744 iq745 iq746 iq747 iq748 iq749 iq750
                      revert L a0 a1 a2 b w ht hlm c0 b8 bm pb cb iq1 hB HB HT HAA l0 m0 iq2 w0 w1 hb1 h0' m2 HLI l40 hli iq3 w3 T w4 cu T3 w5 R H32R w6 g9 g8 cur iq4 iq5 HTT N6 A nL HR iq6 iq7 iq8 HA e64 iq9 i HI i0 i1 iL ha01 ha02 ha11 ha12 ha21 ha22 w7 pp cp P HPP lp0 lp1 bp w8 X w9 Y1 M1 iq10 gy b1 off1 hL HL iq11 iq12 iq13 iq14 iq15 iq16 iq17 iq18 iq19 iq20 iq21 iq22 iq23 iq24 iq25 iq26 iq27 iq28 iq29 iq30 iq31 iq32 iq33 iq34 iq35 iq36 iq37 iq38 iq39 iq40 iq41 iq42 iq43 iq44 iq45 iq46 iq47 iq48 iq49 iq50 iq51 iq52 iq53 iq54 iq55 iq56 iq57 iq58 iq59 iq60 iq61 iq62 iq63 iq64 iq65 iq66 iq67 iq68 iq69 iq70 iq71 iq72 iq73 iq74 iq75 iq76 iq77 iq78 iq79 iq80 iq81 iq82 iq83 iq84 iq85 iq86 iq87 iq88 iq89 iq90 iq91 iq92 iq93 iq94 iq95 iq96 iq97 iq98 iq99 iq100 iq101 iq102 iq103 iq104 iq105 iq106 iq107 iq108 iq109 iq110 iq111 iq112 iq113 iq114 iq115 iq116 iq117 iq118 iq119 iq120 iq121 iq122 iq123 iq124 iq125 iq126 iq127 iq128 iq129 iq130 iq131 iq132 iq133 iq134 iq135 iq136 iq137 iq138 iq139 iq140 iq141 iq142 iq143 iq144 iq145 iq146 iq147 iq148 iq149 iq150 iq151 iq152 iq153 iq154 iq155 iq156 iq157 iq158 iq159 iq160 iq161 iq162 iq163 iq164 iq165 iq166 iq167 iq168 iq169 iq170 iq171 iq172 iq173 iq174 iq175 iq176 iq177 iq178 iq179 iq180 iq181 iq182 iq183 iq184 iq185 iq186 iq187 iq188 iq189 iq190 iq191 iq192 iq193 iq194 iq195 iq196 iq197 iq198 iq199 iq200 iq201 iq202 iq203 iq204 iq205 iq206 iq207 iq208 iq209 iq210 iq211 iq212 iq213 iq214 iq215 iq216 iq217 iq218 iq219 iq220 iq221 iq222 iq223 iq224 iq225 iq226 iq227 iq228 iq229 iq230 iq231 iq232 iq233 iq234 iq235 iq236 iq237 iq238 iq239 iq240 iq241 iq242 iq243 iq244 iq245 iq246 iq247 iq248 iq249 iq250 iq251 iq252 iq253 iq254 iq255 iq256 iq257 iq258 iq259 iq260 iq261 iq262 iq263 iq264 iq265 iq266 iq267 iq268 iq269 iq270 iq271 iq272 iq273 iq274 iq275 iq276 iq277 iq278 iq279 iq280 iq281 iq282 iq283 iq284 iq285 iq286 iq287 iq288 iq289 iq290 iq291 iq292 iq293 iq294 iq295 iq296 iq297 iq298 iq299 iq300 iq301 iq302 iq303 iq304 iq305 iq306 iq307 iq308 iq309 iq310 iq311 iq312 iq313 iq314 iq315 iq316 iq317 iq318 iq319 iq320 iq321 iq322 iq323 iq324 iq325 iq326 iq327 iq328 iq329 iq330 iq331 iq332 iq333 iq334 iq335 iq336 iq337 iq338 iq339 iq340 iq341 iq342 iq343 iq344 iq345 iq346 iq347 iq348 iq349 iq350 iq351 iq352 iq353 iq354 iq355 iq356 iq357 iq358 iq359 iq360 iq361 iq362 iq363 iq364 iq365 iq366 iq367 iq368 iq369 iq370 iq371 iq372 iq373 iq374 iq375 iq376 iq377 iq378 iq379 iq380 iq381 iq382 iq383 iq384 iq385 iq386 iq387 iq388 iq389 iq390 iq391 iq392 iq393 iq394 iq395 iq396 iq397 iq398 iq399 iq400 iq401 iq402 iq403 iq404 iq405 iq406 iq407 iq408 iq409 iq410 iq411 iq412 iq413 iq414 iq415 iq416 iq417 iq418 iq419 iq420 iq421 iq422 iq423 iq424 iq425 iq426 iq427 iq428 iq429 iq430 iq431 iq432 iq433 iq434 iq435 iq436 iq437 iq438 iq439 iq440 iq441 iq442 iq443 iq444 iq445 iq446 iq447 iq448 iq449 iq450 iq451 iq452 iq453 iq454 iq455 iq456 iq457 iq458 iq459 iq460 iq461 iq462 iq463 iq464 iq465 iq466 iq467 iq468 iq469 iq470 iq471 iq472 iq473 iq474 iq475 iq476 iq477 iq478 iq479 iq480 iq481 iq482 iq483 iq484 iq485 iq486 iq487 iq488 iq489 iq490 iq491 iq492 iq493 iq494 iq495 iq496 iq497 q1 ho HAI N9 hs iq498 iq499 iq500 iq501 iq502 iq503 iq504 iq505 iq506 iq507 iq508 iq509 iq510 iq511 iq512 iq513 iq514 iq515 iq516 iq517 iq518 iq519 iq520 iq521 iq522 iq523 iq524 iq525 iq526 iq527 iq528 iq529 iq530 iq531 iq532 iq533 iq534 iq535 iq536 iq537 iq538 iq539 iq540 iq541 iq542 iq543 iq544 iq545 iq546 iq547 iq548 iq549 iq550 iq551 iq552 iq553 iq554 iq555 iq556 iq557 iq558 iq559 iq560 iq561 iq562 iq563 iq564 iq565 iq566 iq567 iq568 iq569 iq570 iq571 iq572 iq573 iq574 iq575 iq576 iq577 iq578 iq579 iq580 iq581 iq582 iq583 iq584 iq585 iq586 iq587 iq588 iq589 iq590 iq591 iq592 iq593 iq594 iq595 iq596 iq597 iq598 iq599 iq600 iq601 iq602 iq603 iq604 iq605 iq606 iq607 iq608 iq609 iq610 iq611 iq612 iq613 iq614 iq615 iq616 iq617 iq618 iq619 iq620 iq621 iq622 iq623 iq624 iq625 iq626 iq627 iq628 iq629 iq630 iq631 iq632 iq633 iq634 iq635 iq636 iq637 iq638 iq639 iq640 iq641 iq642 iq643 iq644 iq645 iq646 iq647 iq648 iq649 iq650 iq651 iq652 iq653 iq654 iq655 iq656 iq657 iq658 iq659 iq660 iq661 iq662 iq663 iq664 iq665 iq666 iq667 iq668 iq669 iq670 iq671 iq672 iq673 iq674 iq675 iq676 iq677 iq678 iq679 iq680 iq681 iq682 iq683 iq684 iq685 iq686 iq687 iq688 iq689 iq690 iq691 iq692 iq693 iq694 iq695 iq696 iq697 iq698 iq699 iq700 iq701 iq702 iq703 iq704 iq705 iq706 iq707 iq708 iq709 iq710 iq711 iq712 iq713 iq714 iq715 iq716 iq717 iq718 iq719 iq720 iq721 iq722 iq723 iq724 iq725 iq726 iq727 iq728 iq729 iq730 iq731 iq732 iq733 iq734 iq735 iq736 iq737 iq738 iq739 iq740 iq741 iq742 r j HJ j0 j1 Ai HAi HLA wb Y2 ok2 M2 iq743 iq744 N10 HM10 wd gy2 wc u16 u23 u25 u27 u29 u30 u31 u32 u33 u34 u35 u36 u37 u38 u39 u40 u41 u42 u43 u44 u45 u46 u47 u48 u49 u50 u51 u52 u53 u54 u55 u56 u57 u58 u59 u60 u61 u62 u63 u64 u65 u66 u67 u68 u69 u70 u71 u72 u73 u74 u75 u76 u77 u78 u79 u80 u81 u82 u83 u84 u85 u86 u87 u88 u89 u90 u91 u92 u93 u94 u95 u96 u97 u98 u99 u100 u101 u102 u103 u104 u105 u106 u107 u108 u109 u110 u111 u112 u113 u114 u115 u116 u117 u118 u119 u120 u121 u122 u123 u124 u125 u126 u127 u128 u129 u130 u131 u132 u133 u134 u135 u136 u137 u138 u139 u140 u141 u142 u143 u144 u145 u146 u147 u148 u149 u150 u151 u152 u153 u154 u155 u156 u157 u158 u159 u160 u161 u162 u163 u164 u165 u166 u167 u168 u169 u170 u171 u172 u173 u174 u175 u176 u177 u178 u179 u180 u181 u182 u183 u184 u185 u186 u187 u188 u189 u190 u191 u192 u193 u194 u195 u196 u197 u198 u199 u200 u201 u202 u203 u204 u205 u206 u207 u208 u209 u210 u211 u212 u213 u214 u215 u216 u217 u218 u219 u220 u221 u222 u223 u224 u225 u226 u227 u228 u229 u230 u231 u232 u233 u234 u235 u236 u237 u238 u239 u240 u241 u242 u243 u244 u245 u246 u247 u248 u249 u250 u251 u252 u253 u254 u255 u256 u257 u258 u259 u260 u261 u262 u263 u264 u265 u266 u267 q2 HQ2 wa HSa HOPa iq745 iq746 iq747 iq748 iq749 iq750 hP0 hP1
                      exact q_pT.out
                  case rest =>
                    obtain ⟨q, N', rfl, hq, hs, hnl, hns, ho⟩ := hcut
                    clear HSa HOPa HQ2 HM10
                    have HSa : Hid (FoS w wc T w.heap.size g8 g9 L.length cu a0 a1 a2 A R N') := hs
                    have HOPa : Hid (OwnH wc bp (.slice pp P.length cp) P) := ho
                    have HQ : Hid ((q = true → ClN N') ∧ N'.length ≤ 1000 ∧ ∀ l ∈ N', l.length ≤ 1000) := ⟨hq, by omega, hns⟩
                    clear hs ho hq hnl hns
                    generalize wc = wa at *
                    have hri : wa.rangeAt g8 (i * 32) (bytesL Ai).toList := by rw [← HAi.out.1]; exact hs_range HSa.out.hA (by rw [HA.out.2]; exact HI.out)
                    have lAi := HLA.out
                    go_wp2_with (first | refine wpList_load_mid rfl 28 _ rfl g8 (i * 32) rfl (bytesL Ai).toList _ hri Tryd.underlying28 rfl lAi ?_ | (go_at_call 18; refine stop ?_))
                    clear hri lAi
                    refine (climb_out2 _ Ai (-1) L.length _ P wa (by omega) (by omega) (Or.inl (by omega)) (by have := e64.out.2; omega) HAi.out.2 (HOPa.out.hs HPP.out.2.1)).mono ?_
                    rintro e wb ⟨Z, rfl, hz32, hbo⟩
                    have iR := info_h32 hz32
                    have zR := z32_size hz32
                    have oR := bytesL_one Z
                    go_wp2_with (refine wpList_store_row rfl 28 _ _ rfl wb.heap.size (bytesL Z) rfl rfl 28 _ (heap_alloc_new wb _) iR zR oR ?_; refine stop ?_)
                    unfold Stop
                    rw [zeros32b]
                    have bz : Below wb.heap.size wb ((wb.alloc (.cells (bytesL (List.replicate 32 0)) 28)).setRow wb.heap.size (bytesL Z)) := Below.row (below1 wb _) _ (Nat.le_refl _)
                    have hbo := hbo.trans (bz.mono hbo.size)
                    generalize (wb.alloc (.cells (bytesL (List.replicate 32 0)) 28)).setRow wb.heap.size (bytesL Z) = we at *
                    have HSn : Hid (FoS w we T w.heap.size g8 g9 L.length cu a0 a1 a2 A R N') := HSa.out.later hbo
                    have HOPn : Hid (OwnH we bp (.slice pp P.length cp) P) := HOPa.out.later hbo
                    clear HSa HOPa bz hbo iR oR zR hz32
                    have HSa := HSn
                    have HOPa := HOPn
                    clear HSn HOPn
                    have hri : we.rangeAt g8 (i * 32) (bytesL Ai).toList := by rw [← HAi.out.1]; exact hs_range HSa.out.hA (by rw [HA.out.2]; exact HI.out)
                    have lAi := HLA.out
                    go_wp2_with (first | refine wpList_load_mid rfl 28 _ rfl g8 (i * 32) rfl (bytesL Ai).toList _ hri Tryd.underlying28 rfl lAi ?_ | (go_at_call 18; refine stop ?_))
                    clear hri lAi
                    refine (climb_out2 _ Ai ((L.length : Int)) L.length _ P we (by omega) (by omega) (Or.inr (Int.le_refl _)) (by have := e64.out.2; omega) HAi.out.2 (HOPa.out.hs HPP.out.2.1)).mono ?_
                    rintro e wg ⟨Z, rfl, hz32, hbo⟩
                    have iR := info_h32 hz32
                    have zR := z32_size hz32
                    have oR := bytesL_one Z
                    go_wp2_with (refine wpList_store_row rfl 28 _ _ rfl wg.heap.size (bytesL Z) rfl rfl 28 _ (heap_alloc_new wg _) iR zR oR ?_; refine stop ?_)
                    unfold Stop
                    rw [zeros32b]
                    have bz : Below wg.heap.size wg ((wg.alloc (.cells (bytesL (List.replicate 32 0)) 28)).setRow wg.heap.size (bytesL Z)) := Below.row (below1 wg _) _ (Nat.le_refl _)
                    have hbo := hbo.trans (bz.mono hbo.size)
                    generalize (wg.alloc (.cells (bytesL (List.replicate 32 0)) 28)).setRow wg.heap.size (bytesL Z) = wh at *
                    have HSn : Hid (FoS w wh T w.heap.size g8 g9 L.length cu a0 a1 a2 A R N') := HSa.out.later hbo
                    have HOPn : Hid (OwnH wh bp (.slice pp P.length cp) P) := HOPa.out.later hbo
                    clear HSa HOPa bz hbo iR oR zR hz32
                    have HSa := HSn
                    have HOPa := HOPn
                    clear HSn HOPn
                    cases q with
                    | false =>
                      go_wp2
                      go_ret
                      exact ⟨rfl, HSa.out.bw⟩
                    | true =>
                      have HCL2 : Hid (ClN N') := HQ.out.1 rfl
                      go_wp2_with (go_at_call 21; refine stop ?_)
                      refine (clash_tp T T _ wh HSa.out.tp (HTT.out HSa.out.bw) HQ.out.2.1 HQ.out.2.2 (HSa.out.tp.w8)).mono ?_
                      rintro e wj ⟨bb, rfl, hbb, hbj⟩
                      obtain rfl := hbb HCL2.out
                      go_wp2
                      go_ret
                      exact ⟨rfl, HSa.out.bw.trans (hbj.mono HSa.out.bw.size)⟩
  
end Go.Proofs.YtepohpniflmblaaDoor
