
/-
  The walk of RowsPaths: it returns true, for any rows, and turns nothing that was there.
-/
import Derived.Test.YtcahmldgkkcheaaDoorRoP
import Derived.Deep.CutBlock
import Derived.Deep.DeepCutAuto
set_option maxRecDepth 100000
namespace Go.Proofs.YtcahmldgkkcheaaDoor
open Go.RowKit
set_option linter.unusedVariables false
set_option linter.unusedSimpArgs false
theorem wpList_wr {ops : Array Oper} {rest : List Oper} {o : Oper} {a : Act} {w : World} {Q : Exit → Act → World → Prop} (hw : Region.wanted o (yielded ops a.tmps) = true) (h : o.wp Tryd.prog a w (wpList Tryd.prog ops Q rest) Q) : wpList Tryd.prog ops Q (o :: rest) a w := by
  unfold wpList
  rw [if_pos hw]
  exact Or.inl h
theorem rangeAt_keep (wr : World) {wd wn : World} {g o : Nat} {cs : List Value} (_h : wd.rangeAt g o cs) (hg : g < wr.heap.size) (hb : Below wr.heap.size wr wn) (h : wr.rangeAt g o cs) : wn.rangeAt g o cs := rangeAt_below h hg hb
theorem path_ok' (i n : Nat) (L : List (List Nat)) (hok : ∀ l ∈ L, H32 l) : ∀ l ∈ pathL i false n L, H32 l := by
  intro l hl
  unfold pathL at hl
  obtain ⟨x, _, rfl⟩ := List.mem_map.1 hl
  exact root_32 _ _ (Nat.le_refl _) (fun y hy => hok y (sideOf_mem hy))
set_option maxHeartbeats 4000000 in
theorem paths_walk (v0 : Value) (L : List Rc) (w : World) (hL : RowsAt w v0 L) (ht : Tab w) :
    Calls Tryd.prog 4 #[v0] w fun e w' => e = .returned (.bool true) ∧ Below w.heap.size w w' := by
  obtain ⟨hok, hlm, p0, c0, rfl, _⟩ := id hL
  have HL : Hid (RowsAt w (.slice p0 L.length c0) L) := hL
  have HT : Hid (Tab w) := ht
  unfold maxLen at hlm
  have n0 : (0 : Int) ≤ (L.length : Int) := by omega
  have n1 : (L.length : Int) ≤ 9223372036854775807 := by omega
  clear hL ht hok hlm
  go_enter Tryd.func4, Tryd.ntmps4
  go_wp2_with fail
  refine (fit10_any _ HT.out).mono ?_
  rintro e w1 ⟨rfl, hb1⟩
  have B1 : Hid (Below w.heap.size w w1) := hb1
  clear hb1
  by_cases h30 : L.length ≤ 30
  · have n30 : (L.length : Int) ≤ 30 := by omega
    have H30 : Hid (L.length ≤ 30) := h30
    clear h30 n1
    go_wp2_with fail
    refine (list_any w1 _ L (HL.out.later B1.out) (by have := H30.out; omega)).mono ?_
    rintro e w2 ⟨rfl, hls, hb2⟩
    obtain ⟨M, hM⟩ : ∃ M, lst 0 L = M := ⟨_, rfl⟩
    rw [hM] at hls
    have HM : Hid (M.length = L.length ∧ ∀ a ∈ M, Tame a) := by
      rw [← hM]
      exact ⟨lst_len L 0, fun a ha => (lst_tame L 0 HL.out.ok (Int.le_refl _) (by have := H30.out; omega) a ha).1⟩
    have HM4 : Hid (M.length ≤ 40) := by show _ ≤ _; have := HM.out.1; have := H30.out; omega
    have HBL : Hid ((M.map rowBy).length = L.length) := by show _ = _; rw [List.length_map]; exact HM.out.1
    have HLS : Hid (LsAt w2 w1.heap.size w1.heap.size M) := hls
    have B2 : Hid (Below w.heap.size w w2) := B1.out.trans (hb2.mono B1.out.size)
    clear hM hls hb2
    generalize w1.heap.size = gx at *
    obtain ⟨X, hX⟩ : ∃ X, rootL (leafs (M.map rowBy)) = X := ⟨_, rfl⟩
    have h3X : H32 X := by rw [← hX]; exact root_32 _ _ (Nat.le_refl _) (leafs_ok _)
    have HX : Hid (rootL (leafs (M.map rowBy)) = X) := hX
    have H3X : Hid (H32 X) := h3X
    have iX := info_h32 h3X
    have zX := z32_size h3X
    have oX := bytesL_one X
    clear hX h3X
    go_upto_region 7 with fail
    have r11 := Row.new w2 #[.slice none 0 0] 40 rfl
    have bt := below1 w2 (.cells #[.slice none 0 0] 40)
    have htp0 : TpAt (w2.alloc (.cells #[.slice none 0 0] 40)) w2.heap.size (.pointer (some ⟨w2.heap.size, 0, none⟩)) [] := TpAt.new (w := w2.alloc (.cells #[.slice none 0 0] 40)) (w' := w2.alloc (.cells #[.slice none 0 0] 40)) r11 (Nat.le_refl _)
    have HTP0 : Hid (TpAt (w2.alloc (.cells #[.slice none 0 0] 40)) w2.heap.size (.pointer (some ⟨w2.heap.size, 0, none⟩)) []) := htp0
    have GT : Hid (w.heap.size ≤ w2.heap.size ∧ 0 < w2.heap.size) := ⟨B2.out.size, Nat.lt_of_lt_of_le HT.out.pos B2.out.size⟩
    have HGT : Hid (w2.heap.size ≤ (w2.alloc (.cells #[.slice none 0 0] 40)).heap.size) := by show _ ≤ _; simp
    have HXT : Hid (LsAt (w2.alloc (.cells #[.slice none 0 0] 40)) gx gx M) := HLS.out.later bt
    have BT : Hid (Below w.heap.size w (w2.alloc (.cells #[.slice none 0 0] 40))) := B2.out.alloc B2.out.size _
    clear r11 bt htp0 HLS B2
    generalize w2.alloc (.cells #[.slice none 0 0] 40) = w3 at *
    generalize w2.heap.size = T at *
    go_wp2_with fail
    refine (rroot_any gx gx M T _ [] w3 HXT.out HM4.out HM.out.2 (HT.out.later BT.out) GT.out.2 HGT.out HTP0.out (by simp)).mono ?_
    rintro e w4 ⟨rfl, htp4, hs4⟩
    rw [HX.out]
    rw [List.nil_append] at htp4
    have HTP4 : Hid (TpAt w4 T (.pointer (some ⟨T, 0, none⟩)) ((M.map rowBy).map msgL ++ rootN (leafs (M.map rowBy)))) := htp4
    have B4 : Hid (Below w.heap.size w w4) := below_t BT.out GT.out.1 hs4
    have HX4 : Hid (LsAt w4 gx gx M) := HXT.out.tstep hs4
    clear htp4 hs4 HXT BT HGT HTP0
    go_wp2_with (refine wpList_store_row rfl 42 _ _ rfl w4.heap.size (bytesL X) rfl rfl 42 _ (heap_alloc_new w4 _) iX zX oX ?_; refine stop ?_)
    unfold Stop
    rw [zeros32b]
    have r5 := (Row.new w4 (bytesL (List.replicate 32 0)) 42 rfl).setRow (bytesL X)
    have bz : Below w4.heap.size w4 ((w4.alloc (.cells (bytesL (List.replicate 32 0)) 42)).setRow w4.heap.size (bytesL X)) := Below.row (below1 w4 _) _ (Nat.le_refl _)
    generalize (w4.alloc (.cells (bytesL (List.replicate 32 0)) 42)).setRow w4.heap.size (bytesL X) = w5 at *
    have HX5 : Hid (LsAt w5 gx gx M) := HX4.out.later bz
    have HTP5 : Hid (TpAt w5 T (.pointer (some ⟨T, 0, none⟩)) ((M.map rowBy).map msgL ++ rootN (leafs (M.map rowBy)))) := HTP4.out.later bz
    have B5 : Hid (Below w.heap.size w w5) := B4.out.trans (bz.mono B4.out.size)
    have R5 : Hid (Row w5 w4.heap.size (bytesL X) 42) := r5
    clear bz r5 HX4 HTP4 B4
    generalize w4.heap.size = g5 at *
    go_wp2_with fail
    refine (lslen_any w5 gx gx M HX5.out).mono ?_
    rintro e w5' ⟨rfl, hw5⟩
    obtain rfl := hw5
    rw [HM.out.1]
    have hR0 : OwnH w5' w5'.heap.size (.slice none 0 0) (leafs ((M.map rowBy).take 0)) ∧ Below w5'.heap.size w5' w5' := ⟨OwnH.nil _ _, Below.refl _ _⟩
    go_wp2
    go_loopw [25, 6] (fun i bb wr => ∃ (k : Nat) (u : Value), k ≤ L.length ∧ i = .int .i64 k ∧ bb = u ∧ OwnH wr w5'.heap.size u (leafs ((M.map rowBy).take k)) ∧ Below w5'.heap.size w5' wr) (fun i _ _ => L.length - (intOf i).toNat)
    case atStart => exact ⟨0, _, Nat.zero_le _, rfl, rfl, hR0⟩
    case round =>
      clear hR0
      obtain ⟨k, u, hk, rfl, rfl, hu, hbr⟩ := hrel
      obtain ⟨pu, nu, cu, rfl, hnu⟩ := ownsRowN_form hu
      have HNU := (show Hid _ from hnu)
      have HU := (show Hid (OwnH wr w5'.heap.size (.slice pu nu cu) (leafs ((M.map rowBy).take k))) from hu)
      have HBR := (show Hid (Below w5'.heap.size w5' wr) from hbr)
      clear hnu hu hbr
      have k0 : (0 : Int) ≤ (k : Int) := by omega
      by_cases hlt : k < L.length
      · have k1 : (k : Int) < (L.length : Int) := by omega
        have hkM : k < M.length := by rw [HM.out.1]; exact hlt
        have hltB : k < (M.map rowBy).length := by rw [HBL.out]; exact hlt
        have hsu := leafs_succ hltB
        rw [map_getD hkM] at hsu
        have HSU := (show Hid _ from hsu)
        have HTM : Hid (Tame (M.getD k Rc.z)) := HM.out.2 _ (getD_rc hkM)
        have HK : Hid (k < L.length) := hlt
        clear hsu hlt hltB hkM
        go_wp2_with fail
        refine (lsat_any wr gx gx M k (by rw [HM.out.1]; exact HK.out) (by have := HM4.out; omega) (HX5.out.later HBR.out)).mono ?_
        rintro e w6 ⟨rfl, hb6⟩
        have HU6 : Hid (OwnH w6 w5'.heap.size (.slice pu nu cu) (leafs ((M.map rowBy).take k))) := HU.out.later hb6
        have HB6 : Hid (Below w5'.heap.size w5' w6) := HBR.out.trans (hb6.mono HBR.out.size)
        generalize M.getD k Rc.z = a at *
        clear hb6
        go_wp2_with fail
        refine (rleaf_nil a HTM.out w6 (HT.out.later (B5.out.trans (HB6.out.mono B5.out.size)))).mono ?_
        rintro e w7 ⟨rfl, hb7⟩
        have h32 := hsh_32 (msgL (rowBy a))
        have hcs : (bytesL (hsh (msgL (rowBy a)))).size = 32 := by rw [bytesL_size, h32.1]
        have hu7 := HU6.out.later hb7
        have hb57 := HB6.out.trans (hb7.mono HB6.out.size)
        obtain ⟨v', w8, run8, own8, gr8⟩ := hu7.put h32 (by rw [leafs_len, List.length_take]; have := H30.out; have := HK.out; omega) hb57.size _ rfl
        have hb8 : Below w5'.heap.size w5' w8 := below_grown (chainA hb57 _) (by have := hb57.size; simp; omega) gr8 (fun j hj => (hu7.lt j hj).1)
        have hR : OwnH w8 w5'.heap.size v' (leafs ((M.map rowBy).take (k + 1))) ∧ Below w5'.heap.size w5' w8 := ⟨by rw [HSU.out]; exact own8, hb8⟩
        obtain ⟨pv, nv, cv, rfl, hnv⟩ := ownsRowN_form own8
        clear own8 gr8 hb8 hu7 hb57 hnv h32 hb7
        generalize bytesL (hsh (msgL (rowBy a))) = ra at *
        go_wp2_with (at_builtin; refine stop ?_)
        unfold Stop
        rw [lay_all _ ra 32 hcs rfl]
        go_wp2_with (at_builtin; refine Lib.wpList_append_run _ rfl _ _ _ _ rfl _ _ rfl rfl _ _ run8 ?_)
        go_roundw
        case rel => exact ⟨k + 1, _, HK.out, by go_num, rfl, hR⟩
        case measure => simp [intOf]; have := HK.out; omega
      · obtain rfl : k = L.length := by omega
        have e : (M.map rowBy).take L.length = M.map rowBy := by rw [← HBL.out, List.take_length]
        have hu := HU.out
        rw [e] at hu
        have HNUE : Hid (nu = L.length) := by
          show _ = _
          rw [HNU.out, e, leafs_len, HBL.out]
        obtain rfl := HNUE.out
        have HHS : Hid (HsAt wr (.slice pu L.length cu) (leafs (M.map rowBy))) := hu.hs (leafs_ok _)
        clear hu e hk HU HNU HNUE
        go_upto_region 14 with fail
        have hsX := hash_same X H3X.out.1
        have HNE : Hid (((M.map rowBy).map msgL ++ rootN (leafs (M.map rowBy))).length = max (2 * L.length - 1) 1 ∧ ((M.map rowBy).map msgL ++ rootN (leafs (M.map rowBy))).length ≤ 1000) := by
          have h1 := rootN_len _ (leafs (M.map rowBy)) (Nat.le_refl _)
          rw [leafs_len, HBL.out] at h1
          have h3 : ((M.map rowBy).map msgL ++ rootN (leafs (M.map rowBy))).length = L.length + (rootN (leafs (M.map rowBy))).length := by rw [List.length_append, List.length_map, HBL.out]
          have h30 := H30.out
          by_cases hl0 : L.length = 0
          · have e0 : M.map rowBy = [] := List.eq_nil_of_length_eq_zero (by rw [HBL.out, hl0])
            rw [h3, e0, hl0]
            have : rootN (leafs []) = [[]] := by unfold leafs; rw [List.map_nil, rootN_nil]
            rw [this]
            exact ⟨rfl, by decide⟩
          · have hne : leafs (M.map rowBy) ≠ [] := by
              intro e
              have := congrArg List.length e
              rw [leafs_len, HBL.out] at this
              exact hl0 this
            have h2 := h1.2 hne
            rw [h3]
            show _ ∧ _
            omega
        have HML : Hid (∀ l ∈ (M.map rowBy).map msgL ++ rootN (leafs (M.map rowBy)), l.length ≤ 1000) := by
          intro l hl
          rcases List.mem_append.1 hl with hl | hl
          · obtain ⟨y, hy, rfl⟩ := List.mem_map.1 hl
            obtain ⟨z, hz, rfl⟩ := List.mem_map.1 hy
            simp [msgL, rowBy_len]
          · exact rootN_short' (leafs_ok _) l hl
        refine wp_region_D (fun _ => true) (fun w' : World => Row w' g5 (bytesL X) 42) (by kernel_rfl) ?_
        have hbw : Below w5'.heap.size w5' wr.drew := HBR.out.drew
        have hS : (fun w' : World => Row w' g5 (bytesL X) 42) wr.drew := R5.out.later hbw
        have HHSd : Hid (HsAt wr.drew (.slice pu L.length cu) (leafs (M.map rowBy))) := HHS.out.later (Below.refl _ _).drew
        have HBd : Hid (Below w5'.heap.size w5' wr.drew) := hbw
        clear hbw HBR HHS
        generalize wr.drew = wd at *
        refine wpAnyD_take (i := 0) rfl (by kernel_rfl) (by kernel_rfl) (by kernel_rfl) (by kernel_rfl) (fun _ _ _ h => h) (yields_row (by rfl) 42 _ rfl g5 rfl 42 (bytesL X) _ (fun _ h => h) Tryd.underlying42 rfl iX) hS ?_
        simp only [Act.put, List.setIfInBounds_toArray, List.set_cons_zero, List.set_cons_succ]
        refine' wpAnyD_take (i := 1) (v := _) rfl (by kernel_rfl) (by kernel_rfl) (by kernel_rfl) (by kernel_rfl) (fun _ _ _ h => h) (Or.inl ⟨by rfl, ?hy1⟩) hS ?re1
        case hy1 => (intro w hSw; (try dsimp only at hSw); go_simp; (try with_reducible rfl))
        simp only [Act.put, List.setIfInBounds_toArray, List.set_cons_zero, List.set_cons_succ]
        refine wpAnyD_only (i := 2) rfl (by kernel_rfl) (by rfl) (fun K hK => ?_)
        go_simp
        refine (Go.Proofs.YtcahmldgkkcheaaDoor.root_nil _ (leafs (M.map rowBy)) wd (by rw [leafs_len, HBL.out]; have := H30.out; omega) HHSd.out (HT.out.later (B5.out.trans (HBd.out.mono B5.out.size)))).mono ?_
        rintro e we ⟨rfl, hbe⟩
        rw [HX.out]
        have HBe : Hid (Below w5'.heap.size w5' we) := HBd.out.trans (hbe.mono HBd.out.size)
        have HHSe : Hid (HsAt we (.slice pu L.length cu) (leafs (M.map rowBy))) := HHSd.out.later hbe
        try dsimp only
        have hSn := (Row.later hS hbe)
        refine hK.out _ _ (fun _ => hSn) ?_
        clear hK K hS
        have hS := hSn
        clear hSn
        try simp only [Act.put, List.setIfInBounds_toArray, List.set_cons_zero, List.set_cons_succ]
        clear hbe HBd HHSd
        refine' wpAnyD_take (i := 3) (v := _) rfl (by kernel_rfl) (by kernel_rfl) (by kernel_rfl) (by kernel_rfl) (fun _ _ _ h => h) (Or.inl ⟨by rfl, ?hy2⟩) hS ?re2
        case hy2 => (intro w hSw; (try dsimp only at hSw); go_simp; (try with_reducible rfl))
        simp only [Act.put, List.setIfInBounds_toArray, List.set_cons_zero, List.set_cons_succ]
        refine' wpAnyD_take (i := 4) (v := _) rfl (by kernel_rfl) (by kernel_rfl) (by kernel_rfl) (by kernel_rfl) (fun _ _ _ h => h) (Or.inl ⟨by rfl, ?hy3⟩) hS ?re3
        case hy3 => (intro w hSw; (try dsimp only at hSw); go_simp; (try with_reducible rfl))
        simp only [Act.put, List.setIfInBounds_toArray, List.set_cons_zero, List.set_cons_succ]
        refine' wpAnyD_take (i := 5) (v := _) rfl (by kernel_rfl) (by kernel_rfl) (by kernel_rfl) (by kernel_rfl) (fun _ _ _ h => h) (Or.inl ⟨by rfl, ?hy4⟩) hS ?re4
        case hy4 => (intro w hSw; (try dsimp only at hSw); go_simp; (try with_reducible rfl))
        simp only [Act.put, List.setIfInBounds_toArray, List.set_cons_zero, List.set_cons_succ]
        refine wpAnyD_take (i := 7) rfl (by kernel_rfl) (by kernel_rfl) (by kernel_rfl) (by kernel_rfl) (fun _ _ _ h => h) (yields_row (by rfl) 42 _ rfl g5 rfl 42 (bytesL X) _ (fun _ h => h) Tryd.underlying42 rfl iX) hS ?_
        simp only [Act.put, List.setIfInBounds_toArray, List.set_cons_zero, List.set_cons_succ]
        refine wpAnyD_only (i := 6) rfl (by kernel_rfl) (by rfl) (fun K hK => ?_)
        go_simp
        refine (rroot_nil gx gx M we (HX5.out.later HBe.out) HM4.out HM.out.2 (HT.out.later (B5.out.trans (HBe.out.mono B5.out.size)))).mono ?_
        rintro e wf ⟨rfl, hbf⟩
        rw [HX.out]
        have HBf : Hid (Below w5'.heap.size w5' wf) := HBe.out.trans (hbf.mono HBe.out.size)
        have HHSf : Hid (HsAt wf (.slice pu L.length cu) (leafs (M.map rowBy))) := HHSe.out.later hbf
        try dsimp only
        have hSn := (Row.later hS hbf)
        refine hK.out _ _ (fun _ => hSn) ?_
        clear hK K hS
        have hS := hSn
        clear hSn
        try simp only [Act.put, List.setIfInBounds_toArray, List.set_cons_zero, List.set_cons_succ]
        clear hbf HBe HHSe
        obtain ⟨E, hE⟩ : ∃ E : Int, (if 2 * (L.length : Int) - 1 < 1 then 1 else 2 * (L.length : Int) - 1) = E := ⟨_, rfl⟩
        have HEI : Hid (((((M.map rowBy).map msgL ++ rootN (leafs (M.map rowBy))).length : Nat) : Int) = E) := by
          show _ = _
          rw [HNE.out.1, ← hE]
          split <;> omega
        have hw1 : IntKind.i64.wrap (2 * (L.length : Int)) = 2 * (L.length : Int) := by rw [IntKind.wrap_i64]; omega
        have hw2 : IntKind.i64.wrap (2 * (L.length : Int) - 1) = 2 * (L.length : Int) - 1 := by rw [IntKind.wrap_i64]; omega
        refine' wpAnyD_take (i := 8) (v := _) rfl (by kernel_rfl) (by kernel_rfl) (by kernel_rfl) (by kernel_rfl) (fun _ _ _ h => h) (Or.inl ⟨by rfl, ?hy5⟩) hS ?re5
        case hy5 => (intro w hSw; (try dsimp only at hSw); go_simp; (try with_reducible rfl))
        simp only [Act.put, List.setIfInBounds_toArray, List.set_cons_zero, List.set_cons_succ]
        refine' wpAnyD_take (i := 9) (v := _) rfl (by kernel_rfl) (by kernel_rfl) (by kernel_rfl) (by kernel_rfl) (fun _ _ _ h => h) (Or.inl ⟨by rfl, ?hy6⟩) hS ?re6
        case hy6 => (intro w hSw; (try dsimp only at hSw); go_simp; (try with_reducible rfl))
        simp only [Act.put, List.setIfInBounds_toArray, List.set_cons_zero, List.set_cons_succ]
        refine' wpAnyD_take (i := 10) (v := _) rfl (by kernel_rfl) (by kernel_rfl) (by kernel_rfl) (by kernel_rfl) (fun _ _ _ h => h) (Or.inl ⟨by rfl, ?hy7⟩) hS ?re7
        case hy7 => (intro w hSw; (try dsimp only at hSw); go_simp; (try with_reducible rfl))
        simp only [Act.put, List.setIfInBounds_toArray, List.set_cons_zero, List.set_cons_succ]
        refine' wpAnyD_take (i := 11) (v := _) rfl (by kernel_rfl) (by kernel_rfl) (by kernel_rfl) (by kernel_rfl) (fun _ _ _ h => h) (Or.inl ⟨by rfl, ?hy8⟩) hS ?re8
        case hy8 => (intro w hSw; (try dsimp only at hSw); go_simp; (try with_reducible rfl))
        simp only [Act.put, List.setIfInBounds_toArray, List.set_cons_zero, List.set_cons_succ]
        refine' wpAnyD_take (i := 13) (v := _) rfl (by kernel_rfl) (by kernel_rfl) (by kernel_rfl) (by kernel_rfl) (fun _ _ _ h => h) (Or.inl ⟨by rfl, ?hy9⟩) hS ?re9
        case hy9 => (intro w hSw; (try dsimp only at hSw); go_simp; (try with_reducible rfl))
        simp only [Act.put, List.setIfInBounds_toArray, List.set_cons_zero, List.set_cons_succ]
        refine' wpAnyD_take (i := 14) (v := _) rfl (by kernel_rfl) (by kernel_rfl) (by kernel_rfl) (by kernel_rfl) (fun _ _ _ h => h) (Or.inl ⟨by rfl, ?hy10⟩) hS ?re10
        case hy10 => (intro w hSw; (try dsimp only at hSw); go_simp; (try with_reducible rfl))
        simp only [Act.put, List.setIfInBounds_toArray, List.set_cons_zero, List.set_cons_succ]
        refine' wpAnyD_take (i := 15) (v := _) rfl (by kernel_rfl) (by kernel_rfl) (by kernel_rfl) (by kernel_rfl) (fun _ _ _ h => h) (Or.inl ⟨by rfl, ?hy11⟩) hS ?re11
        case hy11 => (intro w hSw; (try dsimp only at hSw); go_simp; (try with_reducible rfl))
        simp only [Act.put, List.setIfInBounds_toArray, List.set_cons_zero, List.set_cons_succ]
        refine' wpAnyD_take (i := 16) (v := _) rfl (by kernel_rfl) (by kernel_rfl) (by kernel_rfl) (by kernel_rfl) (fun _ _ _ h => h) (Or.inl ⟨by rfl, ?hy12⟩) hS ?re12
        case hy12 => (intro w hSw; (try dsimp only at hSw); go_simp; (try with_reducible rfl))
        simp only [Act.put, List.setIfInBounds_toArray, List.set_cons_zero, List.set_cons_succ]
        refine' wpAnyD_take (i := 17) (v := _) rfl (by kernel_rfl) (by kernel_rfl) (by kernel_rfl) (by kernel_rfl) (fun _ _ _ h => h) (Or.inl ⟨by rfl, ?hy13⟩) hS ?re13
        case hy13 => (intro w hSw; (try dsimp only at hSw); go_simp; (try with_reducible rfl))
        simp only [Act.put, List.setIfInBounds_toArray, List.set_cons_zero, List.set_cons_succ]
        obtain ⟨vN, rT, hPN⟩ := (HTP5.out.later HBf.out).rows HNE.out.2 HML.out
        obtain ⟨_, pN, cN, rfl, _⟩ := hPN
        have cT := rT.cell 0
        simp only [List.getElem?_toArray, List.getElem?_cons_zero] at cT
        refine wpAnyD_only (i := 12) rfl (by kernel_rfl) (by rfl) (fun K hK => ?_)
        go_simp
        refine (len_any wf T pN _ cN cT).mono ?_
        rintro e wg ⟨rfl, hwg⟩
        obtain rfl := hwg
        rw [HEI.out]
        try dsimp only
        have hSn := hS
        refine hK.out _ _ (fun _ => hSn) ?_
        clear hK K hS
        have hS := hSn
        clear hSn
        try simp only [Act.put, List.setIfInBounds_toArray, List.set_cons_zero, List.set_cons_succ]
        clear rT cT
        refine' wpAnyD_take (i := 18) (v := _) rfl (by kernel_rfl) (by kernel_rfl) (by kernel_rfl) (by kernel_rfl) (fun _ _ _ h => h) (Or.inl ⟨by rfl, ?hy14⟩) hS ?re14
        case hy14 => (intro w hSw; (try dsimp only at hSw); go_simp; (try with_reducible rfl))
        simp only [Act.put, List.setIfInBounds_toArray, List.set_cons_zero, List.set_cons_succ]
        refine' wpAnyD_take (i := 19) (v := _) rfl (by kernel_rfl) (by kernel_rfl) (by kernel_rfl) (by kernel_rfl) (fun _ _ _ h => h) (Or.inl ⟨by rfl, ?hy15⟩) hS ?re15
        case hy15 => (intro w hSw; (try dsimp only at hSw); go_simp; (try with_reducible rfl))
        simp only [Act.put, List.setIfInBounds_toArray, List.set_cons_zero, List.set_cons_succ]
        refine wpAnyD_done (by kernel_rfl) ?_ _
        clear hE hw1 hw2 hS HNE HML HEI HTP5
        go_wp2_with fail
        refine (lslen_any wg gx gx M (HX5.out.later HBf.out)).mono ?_
        rintro e wg2 ⟨rfl, hwg⟩
        obtain rfl := hwg
        rw [HM.out.1]
        have hbg0 := HBf.out
        have HHSg : Hid (HsAt wg2 (.slice pu L.length cu) (leafs (M.map rowBy))) := HHSf.out
        have HBg : Hid (Below w5'.heap.size w5' wg2) := HBf.out
        clear hbg0 HHSf HBf
        go_wp2
        go_loopw [58] (fun i wr => ∃ k : Nat, k ≤ L.length ∧ i = .int .i64 k ∧ Below wg2.heap.size wg2 wr) (fun i _ => L.length - (intOf i).toNat)
        case atStart => exact ⟨0, Nat.zero_le _, rfl, Below.refl _ _⟩
        case round =>
          obtain ⟨k, hk, rfl, hbr⟩ := hrel
          have k0 : (0 : Int) ≤ (k : Int) := by omega
          have HBR := (show Hid (Below wg2.heap.size wg2 wr) from hbr)
          clear hbr
          by_cases hlt : k < L.length
          · have k1 : (k : Int) < (L.length : Int) := by omega
            have HK : Hid (k < L.length) := hlt
            have hB5 := HBg.out.trans (HBR.out.mono HBg.out.size)
            have HW : Hid (Below w5'.heap.size w5' wr) := hB5
            have HHSr : Hid (HsAt wr (.slice pu L.length cu) (leafs (M.map rowBy))) := HHSg.out.later HBR.out
            have hkB : k < (leafs (M.map rowBy)).length := by rw [leafs_len, HBL.out]; exact hlt
            have HKB : Hid (k < (leafs (M.map rowBy)).length) := hkB
            obtain ⟨gl, off, hpu, hgl, hrl, h3l⟩ := HHSr.out.at hkB
            subst hpu
            have HRL : Hid (wr.rangeAt gl (off + k * 32) (bytesL ((leafs (M.map rowBy)).getD k [])).toList ∧ gl < wr.heap.size) := ⟨hrl, hgl⟩
            have H3L : Hid (H32 ((leafs (M.map rowBy)).getD k [])) := h3l
            have lL : (Tryd.prog.info? 42).map (·.size) = some (bytesL ((leafs (M.map rowBy)).getD k [])).toList.length := by rw [Array.length_toList]; exact info_h32 h3l
            have HCR : Hid (climbS (wayL k false 0 (leafs (M.map rowBy)).length).2 (pathL k false (leafs (M.map rowBy)).length (leafs (M.map rowBy))) ((leafs (M.map rowBy)).getD k []) (pathL k false (leafs (M.map rowBy)).length (leafs (M.map rowBy))).length = X) := by
              show _ = _
              rw [climb_root hkB, HX.out]
            clear hlt hkB hrl hgl h3l hk hB5
            have HLL : Hid ((leafs (M.map rowBy)).length = L.length) := by show _ = _; rw [leafs_len, HBL.out]
            rw [HLL.out] at HCR
            go_upto_region 19 with fail
            go_cut [9, 10] (fun u v wc => ∃ g9, u = .pointer (some ⟨g9, 0, none⟩) ∧ v = .bool true ∧ Row wc g9 (bytesL X) 42 ∧ Below wr.heap.size wr wc)
            case first =>
              refine wp_region_D (fun _ => true) (fun w' : World => w'.rangeAt gl (off + k * 32) (bytesL ((leafs (M.map rowBy)).getD k [])).toList) (by kernel_rfl) ?_
              have hbw : Below wr.heap.size wr wr.drew := (Below.refl _ _).drew
              have hS : wr.drew.rangeAt gl (off + k * 32) (bytesL ((leafs (M.map rowBy)).getD k [])).toList := rangeAt_below HRL.out.1 HRL.out.2 hbw
              obtain ⟨wd, hwd⟩ : ∃ wd, wr.drew = wd := ⟨_, rfl⟩
              rw [hwd] at hbw hS ⊢
              clear hwd
              refine' wpAnyD_take (i := 0) (v := _) rfl (by kernel_rfl) (by kernel_rfl) (by kernel_rfl) (by kernel_rfl) (fun _ _ _ h => h) (Or.inl ⟨by rfl, ?hy16⟩) hS ?re16
              case hy16 => (intro w hSw; (try dsimp only at hSw); go_simp; (try with_reducible rfl))
              simp only [Act.put, List.setIfInBounds_toArray, List.set_cons_zero, List.set_cons_succ]
              refine' wpAnyD_take (i := 1) (v := _) rfl (by kernel_rfl) (by kernel_rfl) (by kernel_rfl) (by kernel_rfl) (fun _ _ _ h => h) (Or.inl ⟨by rfl, ?hy17⟩) hS ?re17
              case hy17 => (intro w hSw; (try dsimp only at hSw); go_simp; (try with_reducible rfl))
              simp only [Act.put, List.setIfInBounds_toArray, List.set_cons_zero, List.set_cons_succ]
              refine' wpAnyD_take (i := 2) (v := _) rfl (by kernel_rfl) (by kernel_rfl) (by kernel_rfl) (by kernel_rfl) (fun _ _ _ h => h) (Or.inl ⟨by rfl, ?hy18⟩) hS ?re18
              case hy18 => (intro w hSw; (try dsimp only at hSw); go_simp; (try with_reducible rfl))
              simp only [Act.put, List.setIfInBounds_toArray, List.set_cons_zero, List.set_cons_succ]
              refine wpAnyD_take (i := 3) rfl (by kernel_rfl) (by kernel_rfl) (by kernel_rfl) (by kernel_rfl) (fun _ _ _ h => h) (yieldsIf_load_mid (by rfl) 42 _ rfl gl (off + k * 32) rfl (bytesL ((leafs (M.map rowBy)).getD k [])).toList _ (fun w' hw' => hw') Tryd.underlying42 rfl lL) hS ?_
              simp only [Act.put, List.setIfInBounds_toArray, List.set_cons_zero, List.set_cons_succ]
              rw [Array.toArray_toList]
              refine' wpAnyD_take (i := 4) (v := _) rfl (by kernel_rfl) (by kernel_rfl) (by kernel_rfl) (by kernel_rfl) (fun _ _ _ h => h) (Or.inl ⟨by rfl, ?hy19⟩) hS ?re19
              case hy19 => (intro w hSw; (try dsimp only at hSw); go_simp; (try with_reducible rfl))
              simp only [Act.put, List.setIfInBounds_toArray, List.set_cons_zero, List.set_cons_succ]
              refine' wpAnyD_take (i := 5) (v := _) rfl (by kernel_rfl) (by kernel_rfl) (by kernel_rfl) (by kernel_rfl) (fun _ _ _ h => h) (Or.inl ⟨by rfl, ?hy20⟩) hS ?re20
              case hy20 => (intro w hSw; (try dsimp only at hSw); go_simp; (try with_reducible rfl))
              simp only [Act.put, List.setIfInBounds_toArray, List.set_cons_zero, List.set_cons_succ]
              refine' wpAnyD_take (i := 6) (v := _) rfl (by kernel_rfl) (by kernel_rfl) (by kernel_rfl) (by kernel_rfl) (fun _ _ _ h => h) (Or.inl ⟨by rfl, ?hy21⟩) hS ?re21
              case hy21 => (intro w hSw; (try dsimp only at hSw); go_simp; (try with_reducible rfl))
              simp only [Act.put, List.setIfInBounds_toArray, List.set_cons_zero, List.set_cons_succ]
              refine' wpAnyD_take (i := 7) (v := _) rfl (by kernel_rfl) (by kernel_rfl) (by kernel_rfl) (by kernel_rfl) (fun _ _ _ h => h) (Or.inl ⟨by rfl, ?hy22⟩) hS ?re22
              case hy22 => (intro w hSw; (try dsimp only at hSw); go_simp; (try with_reducible rfl))
              simp only [Act.put, List.setIfInBounds_toArray, List.set_cons_zero, List.set_cons_succ]
              refine' wpAnyD_take (i := 8) (v := _) rfl (by kernel_rfl) (by kernel_rfl) (by kernel_rfl) (by kernel_rfl) (fun _ _ _ h => h) (Or.inl ⟨by rfl, ?hy23⟩) hS ?re23
              case hy23 => (intro w hSw; (try dsimp only at hSw); go_simp; (try with_reducible rfl))
              simp only [Act.put, List.setIfInBounds_toArray, List.set_cons_zero, List.set_cons_succ]
              refine wpAnyD_all (rs := [9, 14]) (by kernel_rfl) (by simp) ?_
              refine AllD.cons (i := 9) rfl (by rfl) (fun K hK => ?_) ?_
              · skip
                go_simp
                refine (rpath_any gx gx M k wd (by rw [HM.out.1]; exact HK.out) (HX5.out.later (HW.out.trans (hbw.mono HW.out.size))) HM4.out HM.out.2 (HT.out.later (B5.out.trans ((HW.out.trans (hbw.mono HW.out.size)).mono B5.out.size)))).mono ?_
                rintro e wn ⟨q, rfl, hq, hbn⟩
                rw [HLL.out] at hq
                have hqs := hq.hs (path_ok' k L.length _ (leafs_ok _))
                obtain ⟨pq, nq, cq, rfl, hnq⟩ := ownsRowN_form hq
                have HQS : Hid (HsAt wn (.slice pq nq cq) (pathL k false L.length (leafs (M.map rowBy)))) := hqs
                clear hq hqs hnq
                try replace r14 := r14.later hbn
                replace hbw := hbw.trans (hbn.mono hbw.size)
                have hSn := rangeAt_keep wr hS HRL.out.2 hbw HRL.out.1
                refine hK.out _ _ (fun _ => hSn) ?_
                clear hK K hbn hS
                have hS := hSn
                clear hSn
                obtain ⟨wd, rfl⟩ : ∃ wx, wx = wn := ⟨_, rfl⟩
                try simp only [Act.put, List.setIfInBounds_toArray, List.set_cons_zero, List.set_cons_succ]
                refine wpAnyD_all (rs := [10, 14]) (by kernel_rfl) (by simp) ?_
                refine AllD.cons (i := 10) rfl (by rfl) (fun K hK => ?_) ?_
                · skip
                  go_simp
                  refine (climb_any k L.length ((leafs (M.map rowBy)).getD k []) _ (pathL k false L.length (leafs (M.map rowBy))) wd.heap.size (.pointer none) [] wd HK.out (by have := H30.out; omega) H3L.out HQS.out (by have := path_len k false L.length (leafs (M.map rowBy)); exact this) (HT.out.later (B5.out.trans ((HW.out.trans (hbw.mono HW.out.size)).mono B5.out.size))) (Nat.lt_of_lt_of_le HT.out.pos (B5.out.trans ((HW.out.trans (hbw.mono HW.out.size)).mono B5.out.size)).size) (Nat.le_refl _) (TpAt.nil _ _ _) (by simp)).mono ?_
                  rintro e wn ⟨rfl, _, hsn⟩
                  rw [HCR.out]
                  have hbn := TStep.below (Below.refl _ _) hsn
                  clear hsn HQS
                  try replace r14 := r14.later hbn
                  replace hbw := hbw.trans (hbn.mono hbw.size)
                  have hSn := rangeAt_keep wr hS HRL.out.2 hbw HRL.out.1
                  refine hK.out _ _ (fun _ => hSn) ?_
                  clear hK K hbn hS
                  have hS := hSn
                  clear hSn
                  obtain ⟨wd, rfl⟩ : ∃ wx, wx = wn := ⟨_, rfl⟩
                  try simp only [Act.put, List.setIfInBounds_toArray, List.set_cons_zero, List.set_cons_succ]
                  refine' wpAnyD_take (i := 11) (v := _) rfl (by kernel_rfl) (by kernel_rfl) (by kernel_rfl) (by kernel_rfl) (fun _ _ _ h => h) (Or.inl ⟨by rfl, ?hy24⟩) hS ?re24
                  case hy24 => (intro w hSw; (try dsimp only at hSw); go_simp; (try with_reducible rfl))
                  simp only [Act.put, List.setIfInBounds_toArray, List.set_cons_zero, List.set_cons_succ]
                  refine' wpAnyD_take (i := 12) (v := _) rfl (by kernel_rfl) (by kernel_rfl) (by kernel_rfl) (by kernel_rfl) (fun _ _ _ h => h) (Or.inl ⟨by rfl, ?hy25⟩) hS ?re25
                  case hy25 => (intro w hSw; (try dsimp only at hSw); go_simp; (try with_reducible rfl))
                  simp only [Act.put, List.setIfInBounds_toArray, List.set_cons_zero, List.set_cons_succ]
                  refine' wpAnyD_take (i := 13) (v := _) rfl (by kernel_rfl) (by kernel_rfl) (by kernel_rfl) (by kernel_rfl) (fun _ _ _ h => h) (Or.inl ⟨by rfl, ?hy26⟩) hS ?re26
                  case hy26 => (intro w hSw; (try dsimp only at hSw); go_simp; (try with_reducible rfl))
                  simp only [Act.put, List.setIfInBounds_toArray, List.set_cons_zero, List.set_cons_succ]
                  refine wpAnyD_only (i := 14) rfl (by kernel_rfl) (by rfl) (fun K hK => ?_)
                  go_simp
                  rw [zeros32b]
                  have hg9 := hbw.size
                  have r14 := Row.new wd (bytesL (List.replicate 32 0)) 42 rfl
                  try replace HQS : Hid (HsAt (wd.alloc (.cells (bytesL (List.replicate 32 0)) 42)) (.slice pq nq cq) (pathL k false L.length (leafs (M.map rowBy)))) := HQS.out.later (below1 wd (.cells (bytesL (List.replicate 32 0)) 42))
                  replace hbw := chainA hbw (.cells (bytesL (List.replicate 32 0)) 42)
                  have hSn := rangeAt_keep wr hS HRL.out.2 hbw HRL.out.1
                  refine hK.out _ _ (fun _ => hSn) ?_
                  clear hK K hS
                  have hS := hSn
                  clear hSn
                  generalize wd.alloc (.cells (bytesL (List.replicate 32 0)) 42) = wn at *
                  generalize wd.heap.size = g9 at *
                  try clear wd
                  obtain ⟨wd, rfl⟩ : ∃ wx, wx = wn := ⟨_, rfl⟩
                  try simp only [Act.put, List.setIfInBounds_toArray, List.set_cons_zero, List.set_cons_succ]
                  refine wpAnyD_only (i := 15) rfl (by kernel_rfl) (by rfl) (fun K hK => ?_)
                  refine wp_store_row 42 _ _ rfl g9 (bytesL X) rfl rfl 42 _ r14 iX zX oX ?_
                  have hbx := Below.row hbw (bytesL X) hg9
                  have hSn := rangeAt_keep wr hS HRL.out.2 hbx HRL.out.1
                  refine hK.out _ _ (fun _ => hSn) ?_
                  clear hK K hS
                  have hS := hSn
                  clear hSn
                  try simp only [Act.put, List.setIfInBounds_toArray, List.set_cons_zero, List.set_cons_succ]
                  refine' wpAnyD_take (i := 16) (v := _) rfl (by kernel_rfl) (by kernel_rfl) (by kernel_rfl) (by kernel_rfl) (fun _ _ _ h => h) (Or.inl ⟨by rfl, ?hy27⟩) hS ?re27
                  case hy27 => (intro w hSw; (try dsimp only at hSw); go_simp; (try with_reducible rfl))
                  simp only [Act.put, List.setIfInBounds_toArray, List.set_cons_zero, List.set_cons_succ]
                  refine wpAnyD_done (by kernel_rfl) ?_ _
                  go_wp2_with fail
                  go_meet
                  case rel => exact ⟨g9, rfl, rfl, r14.setRow _, hbx⟩
                refine AllD.cons (i := 14) rfl (by rfl) (fun K hK => ?_) AllD.nil
                go_simp
                rw [zeros32b]
                have hg9 := hbw.size
                have r14 := Row.new wd (bytesL (List.replicate 32 0)) 42 rfl
                try replace HQS : Hid (HsAt (wd.alloc (.cells (bytesL (List.replicate 32 0)) 42)) (.slice pq nq cq) (pathL k false L.length (leafs (M.map rowBy)))) := HQS.out.later (below1 wd (.cells (bytesL (List.replicate 32 0)) 42))
                replace hbw := chainA hbw (.cells (bytesL (List.replicate 32 0)) 42)
                have hSn := rangeAt_keep wr hS HRL.out.2 hbw HRL.out.1
                refine hK.out _ _ (fun _ => hSn) ?_
                clear hK K hS
                have hS := hSn
                clear hSn
                generalize wd.alloc (.cells (bytesL (List.replicate 32 0)) 42) = wn at *
                generalize wd.heap.size = g9 at *
                try clear wd
                obtain ⟨wd, rfl⟩ : ∃ wx, wx = wn := ⟨_, rfl⟩
                try simp only [Act.put, List.setIfInBounds_toArray, List.set_cons_zero, List.set_cons_succ]
                refine wpAnyD_only (i := 10) rfl (by kernel_rfl) (by rfl) (fun K hK => ?_)
                go_simp
                refine (climb_any k L.length ((leafs (M.map rowBy)).getD k []) _ (pathL k false L.length (leafs (M.map rowBy))) wd.heap.size (.pointer none) [] wd HK.out (by have := H30.out; omega) H3L.out HQS.out (by have := path_len k false L.length (leafs (M.map rowBy)); exact this) (HT.out.later (B5.out.trans ((HW.out.trans (hbw.mono HW.out.size)).mono B5.out.size))) (Nat.lt_of_lt_of_le HT.out.pos (B5.out.trans ((HW.out.trans (hbw.mono HW.out.size)).mono B5.out.size)).size) (Nat.le_refl _) (TpAt.nil _ _ _) (by simp)).mono ?_
                rintro e wn ⟨rfl, _, hsn⟩
                rw [HCR.out]
                have hbn := TStep.below (Below.refl _ _) hsn
                clear hsn HQS
                try replace r14 := r14.later hbn
                replace hbw := hbw.trans (hbn.mono hbw.size)
                have hSn := rangeAt_keep wr hS HRL.out.2 hbw HRL.out.1
                refine hK.out _ _ (fun _ => hSn) ?_
                clear hK K hbn hS
                have hS := hSn
                clear hSn
                obtain ⟨wd, rfl⟩ : ∃ wx, wx = wn := ⟨_, rfl⟩
                try simp only [Act.put, List.setIfInBounds_toArray, List.set_cons_zero, List.set_cons_succ]
                refine' wpAnyD_take (i := 11) (v := _) rfl (by kernel_rfl) (by kernel_rfl) (by kernel_rfl) (by kernel_rfl) (fun _ _ _ h => h) (Or.inl ⟨by rfl, ?hy28⟩) hS ?re28
                case hy28 => (intro w hSw; (try dsimp only at hSw); go_simp; (try with_reducible rfl))
                simp only [Act.put, List.setIfInBounds_toArray, List.set_cons_zero, List.set_cons_succ]
                refine' wpAnyD_take (i := 12) (v := _) rfl (by kernel_rfl) (by kernel_rfl) (by kernel_rfl) (by kernel_rfl) (fun _ _ _ h => h) (Or.inl ⟨by rfl, ?hy29⟩) hS ?re29
                case hy29 => (intro w hSw; (try dsimp only at hSw); go_simp; (try with_reducible rfl))
                simp only [Act.put, List.setIfInBounds_toArray, List.set_cons_zero, List.set_cons_succ]
                refine' wpAnyD_take (i := 13) (v := _) rfl (by kernel_rfl) (by kernel_rfl) (by kernel_rfl) (by kernel_rfl) (fun _ _ _ h => h) (Or.inl ⟨by rfl, ?hy30⟩) hS ?re30
                case hy30 => (intro w hSw; (try dsimp only at hSw); go_simp; (try with_reducible rfl))
                simp only [Act.put, List.setIfInBounds_toArray, List.set_cons_zero, List.set_cons_succ]
                refine wpAnyD_only (i := 15) rfl (by kernel_rfl) (by rfl) (fun K hK => ?_)
                refine wp_store_row 42 _ _ rfl g9 (bytesL X) rfl rfl 42 _ r14 iX zX oX ?_
                have hbx := Below.row hbw (bytesL X) hg9
                have hSn := rangeAt_keep wr hS HRL.out.2 hbx HRL.out.1
                refine hK.out _ _ (fun _ => hSn) ?_
                clear hK K hS
                have hS := hSn
                clear hSn
                try simp only [Act.put, List.setIfInBounds_toArray, List.set_cons_zero, List.set_cons_succ]
                refine' wpAnyD_take (i := 16) (v := _) rfl (by kernel_rfl) (by kernel_rfl) (by kernel_rfl) (by kernel_rfl) (fun _ _ _ h => h) (Or.inl ⟨by rfl, ?hy31⟩) hS ?re31
                case hy31 => (intro w hSw; (try dsimp only at hSw); go_simp; (try with_reducible rfl))
                simp only [Act.put, List.setIfInBounds_toArray, List.set_cons_zero, List.set_cons_succ]
                refine wpAnyD_done (by kernel_rfl) ?_ _
                go_wp2_with fail
                go_meet
                case rel => exact ⟨g9, rfl, rfl, r14.setRow _, hbx⟩
              refine AllD.cons (i := 14) rfl (by rfl) (fun K hK => ?_) AllD.nil
              go_simp
              rw [zeros32b]
              have hg9 := hbw.size
              have r14 := Row.new wd (bytesL (List.replicate 32 0)) 42 rfl
              try replace HQS : Hid (HsAt (wd.alloc (.cells (bytesL (List.replicate 32 0)) 42)) (.slice pq nq cq) (pathL k false L.length (leafs (M.map rowBy)))) := HQS.out.later (below1 wd (.cells (bytesL (List.replicate 32 0)) 42))
              replace hbw := chainA hbw (.cells (bytesL (List.replicate 32 0)) 42)
              have hSn := rangeAt_keep wr hS HRL.out.2 hbw HRL.out.1
              refine hK.out _ _ (fun _ => hSn) ?_
              clear hK K hS
              have hS := hSn
              clear hSn
              generalize wd.alloc (.cells (bytesL (List.replicate 32 0)) 42) = wn at *
              generalize wd.heap.size = g9 at *
              try clear wd
              obtain ⟨wd, rfl⟩ : ∃ wx, wx = wn := ⟨_, rfl⟩
              try simp only [Act.put, List.setIfInBounds_toArray, List.set_cons_zero, List.set_cons_succ]
              refine wpAnyD_only (i := 9) rfl (by kernel_rfl) (by rfl) (fun K hK => ?_)
              go_simp
              refine (rpath_any gx gx M k wd (by rw [HM.out.1]; exact HK.out) (HX5.out.later (HW.out.trans (hbw.mono HW.out.size))) HM4.out HM.out.2 (HT.out.later (B5.out.trans ((HW.out.trans (hbw.mono HW.out.size)).mono B5.out.size)))).mono ?_
              rintro e wn ⟨q, rfl, hq, hbn⟩
              rw [HLL.out] at hq
              have hqs := hq.hs (path_ok' k L.length _ (leafs_ok _))
              obtain ⟨pq, nq, cq, rfl, hnq⟩ := ownsRowN_form hq
              have HQS : Hid (HsAt wn (.slice pq nq cq) (pathL k false L.length (leafs (M.map rowBy)))) := hqs
              clear hq hqs hnq
              try replace r14 := r14.later hbn
              replace hbw := hbw.trans (hbn.mono hbw.size)
              have hSn := rangeAt_keep wr hS HRL.out.2 hbw HRL.out.1
              refine hK.out _ _ (fun _ => hSn) ?_
              clear hK K hbn hS
              have hS := hSn
              clear hSn
              obtain ⟨wd, rfl⟩ : ∃ wx, wx = wn := ⟨_, rfl⟩
              try simp only [Act.put, List.setIfInBounds_toArray, List.set_cons_zero, List.set_cons_succ]
              refine wpAnyD_only (i := 10) rfl (by kernel_rfl) (by rfl) (fun K hK => ?_)
              go_simp
              refine (climb_any k L.length ((leafs (M.map rowBy)).getD k []) _ (pathL k false L.length (leafs (M.map rowBy))) wd.heap.size (.pointer none) [] wd HK.out (by have := H30.out; omega) H3L.out HQS.out (by have := path_len k false L.length (leafs (M.map rowBy)); exact this) (HT.out.later (B5.out.trans ((HW.out.trans (hbw.mono HW.out.size)).mono B5.out.size))) (Nat.lt_of_lt_of_le HT.out.pos (B5.out.trans ((HW.out.trans (hbw.mono HW.out.size)).mono B5.out.size)).size) (Nat.le_refl _) (TpAt.nil _ _ _) (by simp)).mono ?_
              rintro e wn ⟨rfl, _, hsn⟩
              rw [HCR.out]
              have hbn := TStep.below (Below.refl _ _) hsn
              clear hsn HQS
              try replace r14 := r14.later hbn
              replace hbw := hbw.trans (hbn.mono hbw.size)
              have hSn := rangeAt_keep wr hS HRL.out.2 hbw HRL.out.1
              refine hK.out _ _ (fun _ => hSn) ?_
              clear hK K hbn hS
              have hS := hSn
              clear hSn
              obtain ⟨wd, rfl⟩ : ∃ wx, wx = wn := ⟨_, rfl⟩
              try simp only [Act.put, List.setIfInBounds_toArray, List.set_cons_zero, List.set_cons_succ]
              refine' wpAnyD_take (i := 11) (v := _) rfl (by kernel_rfl) (by kernel_rfl) (by kernel_rfl) (by kernel_rfl) (fun _ _ _ h => h) (Or.inl ⟨by rfl, ?hy32⟩) hS ?re32
              case hy32 => (intro w hSw; (try dsimp only at hSw); go_simp; (try with_reducible rfl))
              simp only [Act.put, List.setIfInBounds_toArray, List.set_cons_zero, List.set_cons_succ]
              refine' wpAnyD_take (i := 12) (v := _) rfl (by kernel_rfl) (by kernel_rfl) (by kernel_rfl) (by kernel_rfl) (fun _ _ _ h => h) (Or.inl ⟨by rfl, ?hy33⟩) hS ?re33
              case hy33 => (intro w hSw; (try dsimp only at hSw); go_simp; (try with_reducible rfl))
              simp only [Act.put, List.setIfInBounds_toArray, List.set_cons_zero, List.set_cons_succ]
              refine' wpAnyD_take (i := 13) (v := _) rfl (by kernel_rfl) (by kernel_rfl) (by kernel_rfl) (by kernel_rfl) (fun _ _ _ h => h) (Or.inl ⟨by rfl, ?hy34⟩) hS ?re34
              case hy34 => (intro w hSw; (try dsimp only at hSw); go_simp; (try with_reducible rfl))
              simp only [Act.put, List.setIfInBounds_toArray, List.set_cons_zero, List.set_cons_succ]
              refine wpAnyD_only (i := 15) rfl (by kernel_rfl) (by rfl) (fun K hK => ?_)
              refine wp_store_row 42 _ _ rfl g9 (bytesL X) rfl rfl 42 _ r14 iX zX oX ?_
              have hbx := Below.row hbw (bytesL X) hg9
              have hSn := rangeAt_keep wr hS HRL.out.2 hbx HRL.out.1
              refine hK.out _ _ (fun _ => hSn) ?_
              clear hK K hS
              have hS := hSn
              clear hSn
              try simp only [Act.put, List.setIfInBounds_toArray, List.set_cons_zero, List.set_cons_succ]
              refine' wpAnyD_take (i := 16) (v := _) rfl (by kernel_rfl) (by kernel_rfl) (by kernel_rfl) (by kernel_rfl) (fun _ _ _ h => h) (Or.inl ⟨by rfl, ?hy35⟩) hS ?re35
              case hy35 => (intro w hSw; (try dsimp only at hSw); go_simp; (try with_reducible rfl))
              simp only [Act.put, List.setIfInBounds_toArray, List.set_cons_zero, List.set_cons_succ]
              refine wpAnyD_done (by kernel_rfl) ?_ _
              go_wp2_with fail
              go_meet
              case rel => exact ⟨g9, rfl, rfl, r14.setRow _, hbx⟩
            case rest =>
              obtain ⟨g9, rfl, rfl, r9, hb9⟩ := hcut
              have HR9 : Hid (Row wc g9 (bytesL X) 42) := r9
              have HB9 : Hid (Below wr.heap.size wr wc) := hb9
              have HR5 : Hid (Row wc g5 (bytesL X) 42) := R5.out.later (HW.out.trans (hb9.mono HW.out.size))
              have IX : Hid ((Tryd.prog.info? 42).map (·.size) = some (bytesL X).size) := iX
              have hfin : Below wg2.heap.size wg2 wc := HBR.out.trans (hb9.mono HBR.out.size)
              clear r9 hb9 iX zX oX
              go_wp2_with (first | refine wpList_wr rfl (wp_load_row 42 _ rfl g9 rfl 42 (bytesL X) (0, 0) _ HR9.out Tryd.underlying42 rfl IX.out ?_) | refine wpList_wr rfl (wp_load_row 42 _ rfl g5 rfl 42 (bytesL X) (0, 0) _ HR5.out Tryd.underlying42 rfl IX.out ?_))
              go_roundw
              case rel => exact ⟨k + 1, HK.out, by go_num, hfin⟩
              case measure => simp [intOf]; have := HK.out; omega
          · obtain rfl : k = L.length := by omega
            go_wp2
            go_ret
            exact ⟨rfl, B5.out.trans ((HBg.out.trans (HBR.out.mono HBg.out.size)).mono B5.out.size)⟩
  · have n30 : (30 : Int) < (L.length : Int) := by omega
    go_wp2
    go_ret
    exact ⟨rfl, B1.out⟩
end Go.Proofs.YtcahmldgkkcheaaDoor
