
/-
  The walk of HistoryMore: it returns true, for any leaves and one more, and turns nothing that was there.
-/
import Derived.Test.YtepohpniflmblaaDoorClQ
import Derived.Test.YtepohpniflmblaaDoorHiV
set_option maxRecDepth 100000
namespace Go.Proofs.YtepohpniflmblaaDoor
open Go.RowKit
set_option linter.unusedVariables false
set_option linter.unusedSimpArgs false
set_option maxHeartbeats 4000000 in
theorem more_walk (v0 : Value) (L : List (List Nat)) (v1 : Value) (b : List Nat) (w : World) (hL : PartsAt w v0 L) (hcap0 : ∀ q n c, v0 = .slice q n c → n ≤ c) (hB : BytesAt w v1 b) (rb : b.length ≤ 140737488351232) (ht : Tab w) :
    Calls Tryd.prog 11 #[v0, v1] w fun e w' => e = .returned (.bool true) ∧ Below w.heap.size w w' := by
  obtain ⟨hlm, p0, c0, rfl, hcells⟩ := id hL
  obtain ⟨b8, bm, pb, cb, rfl, _⟩ := id hB
  have HL : Hid (PartsAt w (.slice p0 L.length c0) L) := hL
  have HB : Hid (BytesAt w (.slice pb b.length cb) b) := hB
  have HT : Hid (Tab w) := ht
  clear hcells hcap0
  unfold maxLen at hlm
  have l0 : (0 : Int) ≤ (L.length : Int) := by omega
  have l1 : (L.length : Int) ≤ 9223372036854775807 := by omega
  have m0 : (0 : Int) ≤ (b.length : Int) := by omega
  have m1 : (b.length : Int) ≤ 140737488351232 := by omega
  go_enter Tryd.func11, Tryd.ntmps11
  go_wp2_with (go_at_call 12; refine stop ?_)
  refine (fit6_any w HT.out).mono ?_
  rintro e w1 ⟨rfl, hb1⟩
  go_wp2_with (go_at_call 13; refine stop ?_)
  refine (light_any _ L w1 (HL.out.later hb1)).mono ?_
  rintro e w1' ⟨lb, rfl, hli, hw1⟩
  obtain rfl := hw1.symm
  clear hw1
  cases lb with
  | false =>
    go_wp2
    go_ret
    exact ⟨rfl, hb1⟩
  | true =>
    have hli := hli rfl
    by_cases h100 : (b.length : Int) > 100
    · go_wp2
      go_ret
      exact ⟨rfl, hb1⟩
    · have m2 : (b.length : Int) ≤ 100 := by omega
      have HLI : Hid (Light L ∧ b.length ≤ 100) := ⟨hli, by omega⟩
      have l40 : (L.length : Int) ≤ 40 := by have := hli.1; omega
      have B1 : Hid (Below w.heap.size w w1) := hb1
      clear hli l1 hb1 h100 m1 rb
      go_wp2_with (go_at_call 19; refine stop ?_)
      have B3 : Hid (Below w.heap.size w (w1.alloc (.cells #[.slice none 0 0] 40))) := B1.out.alloc B1.out.size _
      have r7 := Row.new w1 #[.slice none 0 0] 40 rfl
      have G2 : Hid (w.heap.size ≤ w1.heap.size ∧ 0 < w1.heap.size) := ⟨B1.out.size, Nat.lt_of_lt_of_le HT.out.pos B1.out.size⟩
      have htp0 : TpAt (w1.alloc (.cells #[.slice none 0 0] 40)) w1.heap.size (.pointer (some ⟨w1.heap.size, 0, none⟩)) [] := TpAt.new (w := w1.alloc (.cells #[.slice none 0 0] 40)) (w' := w1.alloc (.cells #[.slice none 0 0] 40)) r7 (Nat.le_refl _)
      have HSZ : Hid (w1.heap.size < (w1.alloc (.cells #[.slice none 0 0] 40)).heap.size) := by show _ < _; simp
      clear r7
      generalize w1.alloc (.cells #[.slice none 0 0] 40) = w3 at *
      clear B1
      generalize w1.heap.size = T at *
      refine (noted_any _ L T _ [] w3 (fun wr hs => HL.out.low B3.out G2.out.1 hs) HLI.out.1 (HT.out.later B3.out) G2.out.2 (Nat.le_of_lt HSZ.out) htp0 (by simp)).mono ?_
      rintro e w4 ⟨u, rfl, hu, htp4, hs4⟩
      rw [List.nil_append] at htp4
      obtain ⟨pu, nu, cu, rfl, hnu⟩ := ownsRowN_form hu
      rw [leafs_len] at hnu
      subst hnu
      have HU4 : Hid (OwnH w4 w3.heap.size (.slice pu L.length cu) (leafs L)) := hu
      have nL := leafs_len L
      have HHS : Hid (HsAt w4 (.slice pu L.length cu) (leafs L)) := hu.hs (leafs_ok L)
      have B4 : Hid (Below w.heap.size w w4) := TStep.below B3.out (TStep.mk hs4.os hs4.tape hs4.output hs4.size (fun k o hk hs => hs4.block k o hk (hs.imp (fun h => Nat.lt_of_lt_of_le h G2.out.1) id)))
      have HTP4 : Hid (TpAt w4 T (.pointer (some ⟨T, 0, none⟩)) (L.map msgL)) := htp4
      have G4 : Hid (T ≤ w4.heap.size) := Nat.le_trans (Nat.le_of_lt HSZ.out) hs4.size
      clear hu htp4 hs4 htp0 B3 HSZ
      generalize w3.heap.size = T3 at *
      go_wp2_with (go_at_call 15; refine stop ?_)
      refine (root_any _ _ (leafs L) T _ (L.map msgL) w4 (Nat.le_refl _) (by rw [leafs_len]; have := HLI.out.1.1; omega) HHS.out (HT.out.later B4.out) G2.out.2 G4.out HTP4.out (by rw [leafs_len, List.length_map]; have := HLI.out.1.1; omega)).mono ?_
      rintro e w5 ⟨rfl, htp5, hs5⟩
      have h32 := root_32 _ (leafs L) (Nat.le_refl _) (leafs_ok L)
      obtain ⟨R, hR⟩ : ∃ R, rootL (leafs L) = R := ⟨_, rfl⟩
      rw [hR] at h32 ⊢
      have HR : Hid (rootL (leafs L) = R) := hR
      have H32R : Hid (H32 R) := h32
      have HU5 : Hid (OwnH w5 T3 (.slice pu L.length cu) (leafs L)) := HU4.out.tstep hs5
      have B5 : Hid (Below w.heap.size w w5) := TStep.below B4.out (TStep.mk hs5.os hs5.tape hs5.output hs5.size (fun k o hk hs => hs5.block k o hk (hs.imp (fun h => Nat.lt_of_lt_of_le h G2.out.1) id)))
      have HTP5 : Hid (TpAt w5 T (.pointer (some ⟨T, 0, none⟩)) (L.map msgL ++ rootN (leafs L))) := htp5
      have G5 : Hid (T ≤ w5.heap.size) := Nat.le_trans G4.out hs5.size
      have iR := info_h32 h32
      have zR := z32_size h32
      have oR := bytesL_one R
      clear htp5 hs5 HHS HTP4 B4 G4 hR h32 HU4
      go_wp2_with (refine wpList_store_row rfl 28 _ _ rfl w5.heap.size (bytesL R) rfl rfl 28 _ (heap_alloc_new w5 _) iR zR oR ?_; refine stop ?_)
      unfold Stop
      rw [zeros32b]
      have r9 := (Row.new w5 (bytesL (List.replicate 32 0)) 28 rfl).setRow (bytesL R)
      have bz : Below w5.heap.size w5 ((w5.alloc (.cells (bytesL (List.replicate 32 0)) 28)).setRow w5.heap.size (bytesL R)) := Below.row (below1 w5 _) _ (Nat.le_refl _)
      have hgz : w5.heap.size < ((w5.alloc (.cells (bytesL (List.replicate 32 0)) 28)).setRow w5.heap.size (bytesL R)).heap.size := r9.lt
      generalize (w5.alloc (.cells (bytesL (List.replicate 32 0)) 28)).setRow w5.heap.size (bytesL R) = w6 at *
      have HU6 : Hid (OwnH w6 T3 (.slice pu L.length cu) (leafs L)) := HU5.out.later bz
      have B6 : Hid (Below w.heap.size w w6) := B5.out.trans (bz.mono B5.out.size)
      have HTP6 : Hid (TpAt w6 T (.pointer (some ⟨T, 0, none⟩)) (L.map msgL ++ rootN (leafs L))) := HTP5.out.later bz
      have G6 : Hid (T ≤ w6.heap.size ∧ w5.heap.size < w6.heap.size) := ⟨Nat.le_trans G5.out bz.size, hgz⟩
      have R9 : Hid (Row w6 w5.heap.size (bytesL R) 28) := r9
      clear bz HU5 B5 HTP5 G5 r9 hgz iR zR oR
      generalize w5.heap.size = g9 at *
      obtain ⟨v7, w7, run7, own7, bl7⟩ := append_hs w6 T3 _ (leafs L) HU6.out (leafs_ok L) (by rw [leafs_len]; have := HLI.out.1.1; omega)
      go_wp2_with (first | (at_builtin; refine Lib.wpList_append_run _ rfl _ _ _ _ rfl _ _ rfl rfl _ _ run7 ?_) | (go_at_call 20; refine stop ?_))
      have HO7 : Hid (OwnH w7 w6.heap.size v7 (leafs L)) := own7
      have B7 : Hid (Below w.heap.size w w7) := B6.out.trans (bl7.mono B6.out.size)
      have HTP7 : Hid (TpAt w7 T (.pointer (some ⟨T, 0, none⟩)) (L.map msgL ++ rootN (leafs L))) := HTP6.out.later bl7
      have R97 : Hid (Row w7 g9 (bytesL R) 28) := R9.out.later bl7
      have G7 : Hid (T ≤ w6.heap.size ∧ g9 < w6.heap.size ∧ w6.heap.size ≤ w7.heap.size) := ⟨G6.out.1, G6.out.2, bl7.size⟩
      have GW : Hid (w.heap.size ≤ w6.heap.size) := B6.out.size
      have HN : Hid (L.length ≤ 40 ∧ (rootN (leafs L)).length ≤ 64) := ⟨HLI.out.1.1, by
        have h1 := (rootN_len _ (leafs L) (Nat.le_refl _)).1
        rw [leafs_len] at h1
        show _ ≤ _
        have := HLI.out.1.1
        split at h1 <;> omega⟩
      clear run7 own7 bl7 B6 HTP6 R9 G6 HU6
      generalize w6.heap.size = T6 at *
      refine (leaf_any _ b T _ _ w7 (HB.out.later B7.out) (by have := HLI.out.2; omega) (HT.out.later B7.out) G2.out.2 (by have := G7.out; omega) HTP7.out (by have := HN.out; simp; omega)).mono ?_
      rintro e w8 ⟨rfl, htp8, hs8⟩
      have h32 := hsh_32 (msgL b)
      obtain ⟨X, hX⟩ : ∃ X, hsh (msgL b) = X := ⟨_, rfl⟩
      rw [hX] at h32 ⊢
      have HX : Hid (hsh (msgL b) = X) := hX
      have H32X : Hid (H32 X) := h32
      have hcs : (bytesL X).size = 32 := by rw [bytesL_size, h32.1]
      have hu8 := HO7.out.tstep hs8
      have B8 : Hid (Below w.heap.size w w8) := TStep.below B7.out (TStep.mk hs8.os hs8.tape hs8.output hs8.size (fun k o hk hs => hs8.block k o hk (hs.imp (fun h => Nat.lt_of_lt_of_le h G2.out.1) id)))
      have R98 : Row w8 g9 (bytesL R) 28 := R97.out.tstep hs8 (by decide) (by decide)
      have G8 : Hid (T ≤ T6 ∧ g9 < T6 ∧ T6 ≤ w8.heap.size) := ⟨G7.out.1, G7.out.2.1, Nat.le_trans G7.out.2.2 hs8.size⟩
      obtain ⟨v9, w9, run9, own9, gr9⟩ := hu8.put h32 (by rw [leafs_len]; have := HLI.out.1.1; omega) G8.out.2.2 _ rfl
      have hb9 : Below T6 w8 w9 := below_grown ((below1 w8 _).mono G8.out.2.2) (by have := G8.out; simp; omega) gr9 (fun j hj => (hu8.lt j hj).1)
      have HTP9 : Hid (TpAt w9 T (.pointer (some ⟨T, 0, none⟩)) (L.map msgL ++ rootN (leafs L) ++ [msgL b])) := (htp8.later (below1 w8 _)).nh (Nh.grown (hu8.later (below1 w8 _)) gr9)
      have B9 : Hid (Below w.heap.size w w9) := B8.out.trans (hb9.mono GW.out)
      have HO9 : Hid (OwnH w9 T6 v9 (leafs L ++ [X])) := own9
      have R99 : Hid (Row w9 g9 (bytesL R) 28) := by
        show _ = _
        exact (hb9.block g9 G8.out.2.1).trans R98
      obtain ⟨p9, n9, c9, rfl, hn9⟩ := ownsRowN_form own9
      have hn9' : n9 = L.length + 1 := by rw [hn9, List.length_append, nL, List.length_singleton]
      subst hn9'
      have G9 : Hid (T ≤ w9.heap.size ∧ g9 < w9.heap.size) := ⟨Nat.le_trans G8.out.1 (Nat.le_trans G8.out.2.2 hb9.size), Nat.lt_of_lt_of_le G8.out.2.1 (Nat.le_trans G8.out.2.2 hb9.size)⟩
      clear own9 gr9 hb9 hu8 hs8 htp8 h32 hX HTP7 R97 B7 B8 R98 G7 G8 HO7 hn9
      go_wp2_with (at_builtin; refine stop ?_)
      unfold Stop
      rw [lay_all _ (bytesL X) 32 hcs rfl]
      go_wp2_with (first | (at_builtin; refine Lib.wpList_append_run _ rfl _ _ _ _ rfl _ _ rfl rfl _ _ run9 ?_) | (go_at_call 15; refine stop ?_))
      clear run9 hcs
      have hXL : ∀ y ∈ leafs L ++ [X], H32 y := by
        intro y hy
        rcases List.mem_append.1 hy with h | h
        · exact leafs_ok L y h
        · rw [List.mem_singleton] at h; exact h ▸ H32X.out
      have HXL : Hid (∀ y ∈ leafs L ++ [X], H32 y) := hXL
      have hlx : (leafs L ++ [X]).length = L.length + 1 := by rw [List.length_append, nL, List.length_singleton]
      have HHS9 : Hid (HsAt w9 (.slice p9 (L.length + 1) c9) (leafs L ++ [X])) := HO9.out.hs hXL
      refine (root_any _ _ (leafs L ++ [X]) T _ _ w9 (Nat.le_refl _) (by rw [hlx]; have := HN.out; omega) HHS9.out (HT.out.later B9.out) G2.out.2 G9.out.1 HTP9.out (by rw [hlx]; have := HN.out; simp; omega)).mono ?_
      rintro e wa ⟨rfl, htpa, hsa⟩
      have h32 := root_32 _ (leafs L ++ [X]) (Nat.le_refl _) hXL
      obtain ⟨S, hS⟩ : ∃ S, rootL (leafs L ++ [X]) = S := ⟨_, rfl⟩
      rw [hS] at h32 ⊢
      have HS : Hid (rootL (leafs L ++ [X]) = S) := hS
      have H32S : Hid (H32 S) := h32
      have HHSa : Hid (HsAt wa (.slice p9 (L.length + 1) c9) (leafs L ++ [X])) := HHS9.out.tstep hsa
      have Ba : Hid (Below w.heap.size w wa) := TStep.below B9.out (TStep.mk hsa.os hsa.tape hsa.output hsa.size (fun k o hk hs => hsa.block k o hk (hs.imp (fun h => Nat.lt_of_lt_of_le h G2.out.1) id)))
      have HTPa : Hid (TpAt wa T (.pointer (some ⟨T, 0, none⟩)) (L.map msgL ++ rootN (leafs L) ++ [msgL b] ++ rootN (leafs L ++ [X]))) := htpa
      have R9a : Hid (Row wa g9 (bytesL R) 28) := R99.out.tstep hsa (by decide) (by decide)
      have iR := info_h32 h32
      have zR := z32_size h32
      have oR := bytesL_one S
      clear htpa hsa HHS9 HTP9 B9 G9 hS h32 HO9 R99 hXL
      go_wp2_with (refine wpList_store_row rfl 28 _ _ rfl wa.heap.size (bytesL S) rfl rfl 28 _ (heap_alloc_new wa _) iR zR oR ?_; refine stop ?_)
      unfold Stop
      rw [zeros32b]
      have rb := (Row.new wa (bytesL (List.replicate 32 0)) 28 rfl).setRow (bytesL S)
      have bz : Below wa.heap.size wa ((wa.alloc (.cells (bytesL (List.replicate 32 0)) 28)).setRow wa.heap.size (bytesL S)) := Below.row (below1 wa _) _ (Nat.le_refl _)
      generalize (wa.alloc (.cells (bytesL (List.replicate 32 0)) 28)).setRow wa.heap.size (bytesL S) = wb at *
      have HHSb : Hid (HsAt wb (.slice p9 (L.length + 1) c9) (leafs L ++ [X])) := HHSa.out.later bz
      have Bb : Hid (Below w.heap.size w wb) := Ba.out.trans (bz.mono Ba.out.size)
      have HTPb : Hid (TpAt wb T (.pointer (some ⟨T, 0, none⟩)) (L.map msgL ++ rootN (leafs L) ++ [msgL b] ++ rootN (leafs L ++ [X]))) := HTPa.out.later bz
      have R9b : Hid (Row wb g9 (bytesL R) 28) := R9a.out.later bz
      have Rbb : Hid (Row wb wa.heap.size (bytesL S) 28) := rb
      clear bz HHSa Ba HTPa R9a rb iR zR oR
      generalize wa.heap.size = ga at *
      have hmg := more_growth (leafs L) X _ wb (leafs_ok L) H32X.out (by rw [nL]; have := HN.out; omega) HHSb.out (HT.out.later Bb.out)
      rw [nL] at hmg
      go_wp2_with (go_at_call 22; refine stop ?_)
      refine hmg.mono ?_
      rintro e wc ⟨pg, ng, cg, P, rfl, hpg, hbc, hgr⟩
      clear hmg
      rw [HR.out, HS.out] at hgr
      have HGR : Hid (∀ wr, Below wc.heap.size wc wr → Calls Tryd.prog 23 #[.pointer none, .int .i64 (L.length : Nat), .int .i64 (L.length + 1 : Nat), .agg (bytesL R), .agg (bytesL S), .slice pg ng cg] wr fun e w' => e = .returned (.bool true) ∧ Below wr.heap.size wr w') := fun wr hbr =>
        hgr wr (hpg.later hbr) ((HT.out.later (Bb.out.trans (hbc.mono Bb.out.size))).later hbr) (Nat.lt_of_lt_of_le (Nat.lt_of_le_of_lt (Nat.zero_le _) Rbb.out.lt) (Nat.le_trans hbc.size hbr.size))
      have HPG : Hid (HsAt wc (.slice pg ng cg) P) := hpg
      have Bc : Hid (Below w.heap.size w wc) := Bb.out.trans (hbc.mono Bb.out.size)
      have HTPc : Hid (TpAt wc T (.pointer (some ⟨T, 0, none⟩)) (L.map msgL ++ rootN (leafs L) ++ [msgL b] ++ rootN (leafs L ++ [X]))) := HTPb.out.later hbc
      have R9c : Hid (Row wc g9 (bytesL R) 28) := R9b.out.later hbc
      have Rbc : Hid (Row wc ga (bytesL S) 28) := Rbb.out.later hbc
      clear hgr hpg hbc HHSb Bb HTPb R9b Rbb
      have HC : Hid (R = S → ClN (L.map msgL ++ rootN (leafs L) ++ [msgL b] ++ rootN (leafs L ++ [X]))) := fun e => by
        have := more_clash (L := L) (b := b) (by rw [HX.out, HR.out, HS.out]; exact e)
        rw [HX.out] at this
        exact this
      have HNL : Hid ((L.map msgL ++ rootN (leafs L) ++ [msgL b] ++ rootN (leafs L ++ [X])).length ≤ 1000) := by
        have h2 := (rootN_len _ (leafs L ++ [X]) (Nat.le_refl _)).1
        rw [hlx] at h2
        show _ ≤ _
        simp only [List.length_append, List.length_map, List.length_singleton]
        have := HN.out
        split at h2 <;> omega
      have HML : Hid (∀ l ∈ L.map msgL ++ rootN (leafs L) ++ [msgL b] ++ rootN (leafs L ++ [X]), l.length ≤ 1000) := by
        intro l hl
        rcases List.mem_append.1 hl with hl | hl
        · rcases List.mem_append.1 hl with hl | hl
          · rcases List.mem_append.1 hl with hl | hl
            · obtain ⟨x, hx, rfl⟩ := List.mem_map.1 hl
              have := HLI.out.1.2 x hx
              simp [msgL]; omega
            · exact rootN_short (leafs_ok L) l hl
          · rw [List.mem_singleton] at hl
            subst hl
            have := HLI.out.2
            simp [msgL]; omega
        · exact rootN_short HXL.out l hl
      have hsn := hash_in R S H32R.out.1 H32S.out.1
      have HGL : Hid (∀ wr, HsAt wr (.slice pg ng cg) P → Calls Tryd.prog 23 #[.pointer none, .int .i64 (L.length + 1 : Nat), .int .i64 (L.length : Nat), .agg (bytesL S), .agg (bytesL R), .slice pg ng cg] wr fun e w' => e = .returned (.bool false) ∧ Below wr.heap.size wr w') := fun wr hr =>
        grown_less (L.length + 1) L.length S R _ P _ wr (Nat.lt_succ_self _) (by have := HN.out; omega) H32S.out H32R.out hr
      have z5 := z32_size H32R.out
      clear HR HS HX hlx HXL
      by_cases hr : R = S
      · have hcl := HC.out hr
        rw [decide_eq_true hr] at hsn
        clear hr
        go_wp2_with (first | refine wpList_w (by rfl) (wp_load_row 28 _ rfl g9 rfl 28 (bytesL R) (0, 0) _ R9c.out Tryd.underlying28 rfl (info_h32 H32R.out) ?_) | refine wpList_w (by rfl) (wp_load_row 28 _ rfl ga rfl 28 (bytesL S) (0, 0) _ Rbc.out Tryd.underlying28 rfl (info_h32 H32S.out) ?_) | (go_at_call 21; refine stop ?_))
        refine (clash_tp T T _ wc HTPc.out (HT.out.later Bc.out) HNL.out HML.out (HTPc.out.w8)).mono ?_
        rintro e wd ⟨bb, rfl, hbb, hbd⟩
        obtain rfl := hbb hcl
        have R9d : Row wd g9 (bytesL R) 28 := R9c.out.later hbd
        have Rbd : Row wd ga (bytesL S) 28 := Rbc.out.later hbd
        go_wp2_with (first | refine wpList_w (by rfl) (wp_load_row 28 _ rfl g9 rfl 28 (bytesL R) (0, 0) _ R9d Tryd.underlying28 rfl (info_h32 H32R.out) ?_) | refine wpList_w (by rfl) (wp_load_row 28 _ rfl ga rfl 28 (bytesL S) (0, 0) _ Rbd Tryd.underlying28 rfl (info_h32 H32S.out) ?_) | (go_at_call 23; refine stop ?_))
        refine (HGR.out wd hbd).mono ?_
        rintro e we ⟨rfl, hbe⟩
        have hbce := hbd.trans (hbe.mono hbd.size)
        have R9e : Row we g9 (bytesL R) 28 := R9c.out.later hbce
        have Rbe : Row we ga (bytesL S) 28 := Rbc.out.later hbce
        go_wp2_with (first | refine wpList_w (by rfl) (wp_load_row 28 _ rfl g9 rfl 28 (bytesL R) (0, 0) _ R9e Tryd.underlying28 rfl (info_h32 H32R.out) ?_) | refine wpList_w (by rfl) (wp_load_row 28 _ rfl ga rfl 28 (bytesL S) (0, 0) _ Rbe Tryd.underlying28 rfl (info_h32 H32S.out) ?_) | (go_at_call 23; refine stop ?_))
        refine (HGL.out we (HPG.out.later hbce)).mono ?_
        rintro e wf ⟨rfl, hbf⟩
        have hbcf := hbce.trans (hbf.mono hbce.size)
        go_wp2
        go_ret
        exact ⟨rfl, Bc.out.trans (hbcf.mono Bc.out.size)⟩
      · rw [decide_eq_false hr] at hsn
        clear hr
        have hbd := Below.refl wc.heap.size wc
        go_wp2_with (first | refine wpList_w (by rfl) (wp_load_row 28 _ rfl g9 rfl 28 (bytesL R) (0, 0) _ R9c.out Tryd.underlying28 rfl (info_h32 H32R.out) ?_) | refine wpList_w (by rfl) (wp_load_row 28 _ rfl ga rfl 28 (bytesL S) (0, 0) _ Rbc.out Tryd.underlying28 rfl (info_h32 H32S.out) ?_) | (go_at_call 23; refine stop ?_))
        refine (HGR.out wc hbd).mono ?_
        rintro e we ⟨rfl, hbe⟩
        have hbce := hbd.trans (hbe.mono hbd.size)
        have R9e : Row we g9 (bytesL R) 28 := R9c.out.later hbce
        have Rbe : Row we ga (bytesL S) 28 := Rbc.out.later hbce
        go_wp2_with (first | refine wpList_w (by rfl) (wp_load_row 28 _ rfl g9 rfl 28 (bytesL R) (0, 0) _ R9e Tryd.underlying28 rfl (info_h32 H32R.out) ?_) | refine wpList_w (by rfl) (wp_load_row 28 _ rfl ga rfl 28 (bytesL S) (0, 0) _ Rbe Tryd.underlying28 rfl (info_h32 H32S.out) ?_) | (go_at_call 23; refine stop ?_))
        refine (HGL.out we (HPG.out.later hbce)).mono ?_
        rintro e wf ⟨rfl, hbf⟩
        have hbcf := hbce.trans (hbf.mono hbce.size)
        go_wp2
        go_ret
        exact ⟨rfl, Bc.out.trans (hbcf.mono Bc.out.size)⟩
end Go.Proofs.YtepohpniflmblaaDoor
