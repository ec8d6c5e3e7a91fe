
/-
  history's Growth with no tape. For at most 64 leaves.
-/
import Derived.Test.YtepohpniflmblaaDoorHiH
namespace Go.Proofs.YtepohpniflmblaaDoor
open Go.RowKit
set_option maxRecDepth 100000
set_option linter.unusedVariables false
set_option linter.unusedSimpArgs false

/-- What shows that the first m were there ahead of all. -/
noncomputable def growL (m n : Nat) (L : List (List Nat)) : List (List Nat) :=
  (if 0 < (wayL (m - 1) true 0 n).1 then [rootL ((L.drop (wayL (m - 1) true 0 n).1).take (m - (wayL (m - 1) true 0 n).1))] else []) ++ pathL (m - 1) true n L
set_option maxHeartbeats 4000000 in
theorem growth_any (m : Nat) (v : Value) (L : List (List Nat)) (w : World) (hm0 : 0 < m) (hm : m < L.length) (h64 : L.length ≤ 64) (hv : HsAt w v L) (ht : Tab w) :
    Calls Tryd.prog 22 #[.pointer none, .int .i64 (m : Nat), v] w fun e w' => ∃ u, e = .returned (.tuple #[u, .bool true]) ∧ OwnH w' w.heap.size u (growL m L.length L) ∧ Below w.heap.size w w' := by
  obtain ⟨p, c, rfl, hc1, hc2⟩ := hv.form
  have hwo := wayL_ok _ (m - 1) true 0 L.length (Nat.le_refl _) (Nat.zero_le _) (by omega)
  have hok := hv.ok
  have HV : Hid (HsAt w (.slice p L.length c) L) := hv
  have HT : Hid (Tab w) := ht
  have H64 : Hid (L.length ≤ 64) := h64
  have HI : Hid (0 < m ∧ m < L.length) := ⟨hm0, hm⟩
  have i0 : (0 : Int) < (m : Int) := by omega
  have i1 : (m : Int) < (L.length : Int) := by omega
  have i2 : (L.length : Int) ≤ 64 := by omega
  have i3 : ((m : Int) == 0) = false := by rw [beq_eq_false_iff_ne]; omega
  have i4 : ((m : Int) == (L.length : Int)) = false := by rw [beq_eq_false_iff_ne]; omega
  have em : (m : Int) - 1 = ((m - 1 : Nat) : Int) := by omega
  have HEM : Hid ((m : Int) - 1 = ((m - 1 : Nat) : Int)) := em
  have hS : Hid (∃ S, S = (wayL (m - 1) true 0 L.length).2) := ⟨_, rfl⟩
  obtain ⟨S, hS⟩ := hS.out
  have hF : Hid (∃ F, F = (wayL (m - 1) true 0 L.length).1) := ⟨_, rfl⟩
  obtain ⟨F, hF⟩ := hF.out
  have HP0 : Hid (growL m L.length L = (if 0 < F then [rootL ((L.drop F).take (m - F))] else []) ++ S.map fun x => rootL (sideOf L x)) := by rw [hS, hF]; rfl
  rw [← hS, ← hF] at hwo
  have HW : Hid (∀ x ∈ S, x.f < x.t ∧ x.t ≤ L.length) := fun x hx => (hwo.1 x hx).2
  have HSL : Hid (S.length ≤ 63) := by have := hwo.2.1; show _ ≤ _; omega
  have HFM : Hid (F < m) := by have := hwo.2.2.2; show _ < _; omega
  have HSE : Hid ((wayL (m - 1) true 0 L.length).2 = S) := hS.symm
  have HFE : Hid ((wayL (m - 1) true 0 L.length).1 = F) := hF.symm
  clear hv ht hm0 hm h64 hwo hS hF em
  go_enter Tryd.func22, Tryd.ntmps22
  go_wp2_with (go_at_call 28; refine stop ?_)
  rw [HEM.out]
  refine (way_any (m - 1) L.length true w (by have := HI.out; omega) H64.out).mono ?_
  rintro e w1 ⟨us, rfl, hus, hb1⟩
  rw [HSE.out] at hus
  rw [HFE.out]
  obtain ⟨ps, ns, cs, rfl, hns⟩ := ownsRowN_form hus
  subst hns
  have hv1 := HV.out.later hb1
  have ht1 := HT.out.later hb1
  have s0 : (0 : Int) ≤ (S.length : Int) := by omega
  have s1 : (S.length : Int) ≤ 63 := by have := HSL.out; omega
  have HUS : Hid (w1.ownsRow w.heap.size 56 3 (.slice ps S.length cs) S.length (sdC S)) := hus
  have HV1 : Hid (HsAt w1 (.slice p L.length c) L) := hv1
  have HT1 : Hid (Tab w1) := ht1
  have HB1 : Hid (Below w.heap.size w w1) := hb1
  clear hus hv1 ht1 hb1
  by_cases hf0 : 0 < F
  · have f0 : (0 : Int) < (F : Int) := by omega
    obtain ⟨PRE, hPRE⟩ : ∃ P : List (List Nat), P = [rootL ((L.drop F).take (m - F))] := ⟨_, rfl⟩
    have HP : Hid (growL m L.length L = PRE ++ S.map fun x => rootL (sideOf L x)) := by rw [HP0.out, if_pos hf0, hPRE]; rfl
    have HPRE : Hid (PRE.length ≤ 1) := by rw [hPRE]; exact Nat.le_refl _
    have f1 : (F : Int) ≤ (m : Int) := by have := HFM.out; omega
    have hcm : c ≤ 9223372036854775807 := by unfold maxLen at hc2; omega
    have f2 : (m : Int) ≤ (c : Int) := by omega
    have f3 : ¬ c = F := by have := HFM.out; have := HI.out; omega
    have hd := ((HV1.out.drop F (by have := HFM.out; have := HI.out; omega)).take (m - F) (by rw [List.length_drop]; have := HFM.out; have := HI.out; omega))
    rw [if_neg f3] at hd
    have hdl : ((L.drop F).take (m - F)).length ≤ 64 := by rw [List.length_take]; have := HI.out; have := H64.out; omega
    have h32 : H32 (rootL ((L.drop F).take (m - F))) := root_32 _ _ (Nat.le_refl _) hd.ok
    generalize (L.drop F).take (m - F) = M at *
    clear hf0
    go_wp2_with (go_at_call 15; refine stop ?_)
    refine (root_nil _ M w1 hdl hd HT1.out).mono ?_
    rintro e w5 ⟨rfl, hb5⟩
    have hcs : (bytesL (rootL M)).size = 32 := by rw [bytesL_size, h32.1]
    obtain ⟨v', w6, run6, own6, gr6⟩ := (OwnH.nil w5 w1.heap.size).put h32 (by simp) hb5.size _ rfl
    have hb6 : Below w1.heap.size w1 w6 := below_grown (chainA hb5 _) (by have := hb5.size; simp; omega) gr6 (fun j hj => by cases hj)
    have hR0 : OwnH w6 w1.heap.size v' (PRE ++ (S.take 0).map fun x => rootL (sideOf L x)) ∧ Below w1.heap.size w1 w6 := ⟨by rw [hPRE]; simpa using own6, hb6⟩
    obtain ⟨pv, nv, cv, rfl, hnv⟩ := ownsRowN_form own6
    clear own6 gr6 hb6 hb5 hnv h32 hd hPRE
    generalize bytesL (rootL M) = ra at *
    go_wp2_with (at_builtin; refine stop ?_)
    unfold Stop
    rw [lay_all _ ra 32 hcs rfl]
    go_wp2_with (at_builtin; refine Lib.wpList_append_run _ rfl _ _ _ _ rfl _ _ rfl rfl _ _ run6 ?_)
    clear run6 hcs
    go_loopw [50, 10] (fun a b wr => ∃ (k : Nat) (u : Value), k ≤ S.length ∧ a = .int .i64 k ∧ b = u ∧ OwnH wr w1.heap.size u (PRE ++ (S.take k).map fun x => rootL (sideOf L x)) ∧ Below w1.heap.size w1 wr) (fun a _ _ => S.length - (intOf a).toNat)
    case atStart => exact ⟨0, _, Nat.zero_le _, rfl, rfl, hR0⟩
    case round =>
      clear hR0
      obtain ⟨k, u, hk, rfl, rfl, hu, hbr⟩ := hrel
      obtain ⟨pu, nu, cu, rfl, hnu⟩ := ownsRowN_form hu
      have HNU := (show Hid _ from hnu)
      clear hnu
      have k0 : (0 : Int) ≤ (k : Int) := by omega
      by_cases hlt : k < S.length
      · have k1 : (k : Int) < (S.length : Int) := by omega
        obtain ⟨g, c2, hps, hg, hrg⟩ := own_side (ownsRowN_later HUS.out hbr) hlt
        cases hps
        have hx : S.getD k Sd.z ∈ S := by simp only [List.getD]; rw [List.getElem?_eq_getElem hlt]; exact List.getElem_mem _
        have hxo := HW.out _ hx
        have HSU := (show Hid _ from take_map_succ S (fun x => rootL (sideOf L x)) k Sd.z hlt)
        have HK : Hid (k < S.length) := hlt
        have hxi : (Tryd.prog.info? 56).map (·.size) = some (S.getD k Sd.z).v.toList.length := by rw [Array.length_toList]; exact info_sd _
        have hxj := info_sd (S.getD k Sd.z)
        have hxo1 := sd_one (S.getD k Sd.z)
        have hok32 : H32 (rootL (sideOf L (S.getD k Sd.z))) := root_32 _ _ (Nat.le_refl _) (fun l hl => hok l (sideOf_mem hl))
        clear hlt hx
        generalize S.getD k Sd.z = x at *
        have HXO : Hid (x.f < x.t ∧ x.t ≤ L.length) := hxo
        clear hxo
        generalize hxv : x.v = xv at *
        have HXV : Hid (x.v = xv) := hxv
        clear hxv
        have hsz3 : xv.size = 3 := by rw [← HXV.out]; rfl
        go_wp2_with (first | refine wpList_load_mid rfl 56 _ rfl g (k * 3) rfl xv.toList _ hrg Tryd.underlying56 rfl hxi ?_ | (refine wpList_store_row rfl 56 _ _ rfl wr.heap.size xv rfl rfl 56 _ (heap_alloc_new wr _) hxj (by rw [hsz3]; rfl) hxo1 ?_; refine stop ?_))
        unfold Stop
        have rg := (Row.new wr #[.int .i64 0, .int .i64 0, .bool false] 56 rfl).setRow xv
        have b2 : Below wr.heap.size wr ((wr.alloc (.cells #[.int .i64 0, .int .i64 0, .bool false] 56)).setRow wr.heap.size xv) := Below.row (below1 wr _) _ (Nat.le_refl _)
        generalize (wr.alloc (.cells #[.int .i64 0, .int .i64 0, .bool false] 56)).setRow wr.heap.size xv = w4 at *
        have hb4 := hbr.trans (b2.mono hbr.size)
        have hu4 := hu.later b2
        clear hrg hxi hu b2 hxo1 hsz3
        go_wp2_with (first | (refine wpList_load_row rfl 56 _ rfl wr.heap.size rfl 56 xv (0, 0) _ rg Tryd.underlying56 rfl hxj ?_) | (go_at_call 29; refine stop ?_))
        rw [← HXV.out]
        refine (sroot_any x _ L w4 HXO.out.1 HXO.out.2 H64.out (HV1.out.later hb4) (HT1.out.later hb4)).mono ?_
        rintro e w5 ⟨rfl, hb5⟩
        have hb5' := hb4.trans (hb5.mono hb4.size)
        have hu5 := hu4.later hb5
        have hcs : (bytesL (rootL (sideOf L x))).size = 32 := by rw [bytesL_size, hok32.1]
        obtain ⟨v', w6, run6, own6, gr6⟩ := hu5.put hok32 (by rw [List.length_append, List.length_map, List.length_take]; have := HSL.out; have := HPRE.out; omega) hb5'.size _ rfl
        have hb6 : Below w1.heap.size w1 w6 := below_grown (chainA hb5' _) (by have := hb5'.size; simp; omega) gr6 (fun j hj => (hu5.lt j hj).1)
        have hR : OwnH w6 w1.heap.size v' (PRE ++ (S.take (k + 1)).map fun x => rootL (sideOf L x)) ∧ Below w1.heap.size w1 w6 := ⟨by rw [HSU.out, ← List.append_assoc]; exact own6, hb6⟩
        obtain ⟨pv, nv, cv, rfl, hnv⟩ := ownsRowN_form own6
        clear own6 gr6 hb6 hu5 hb5' hu4 hb5 rg hb4 hnv hok32
        generalize bytesL (rootL (sideOf L x)) = ra at *
        go_wp2_with (at_builtin; refine stop ?_)
        unfold Stop
        rw [lay_all _ ra 32 hcs rfl]
        go_wp2_with (at_builtin; refine Lib.wpList_append_run _ rfl _ _ _ _ rfl _ _ rfl rfl _ _ run6 ?_)
        go_roundw
        case rel => first | exact ⟨k + 1, _, HK.out, by go_num, rfl, hR⟩ | exact ⟨_, k + 1, HK.out, by go_num, rfl, hR⟩ | ((repeat apply Exists.intro); refine ⟨⟨k + 1, _, HK.out, by go_num, rfl, hR⟩, rfl⟩)
        case measure => simp [intOf]; have := HK.out; omega
      · obtain rfl : k = S.length := by omega
        have hB := HB1.out.trans (hbr.mono HB1.out.size)
        have hO : OwnH wr w.heap.size (.slice pu nu cu) (growL m L.length L) := by
          rw [HP.out, ← List.take_length (l := S)]
          exact hu.base HB1.out.size
        clear hu hbr
        go_wp2
        go_ret2
        exact ⟨_, rfl, hO, hB⟩
  · obtain rfl : F = 0 := by omega
    obtain ⟨PRE, hPRE⟩ : ∃ P : List (List Nat), P = [] := ⟨_, rfl⟩
    have HP : Hid (growL m L.length L = PRE ++ S.map fun x => rootL (sideOf L x)) := by rw [HP0.out, if_neg hf0, hPRE]; rfl
    have HPRE : Hid (PRE.length ≤ 1) := by rw [hPRE]; exact Nat.zero_le _
    have hR0 : OwnH w1 w1.heap.size (.slice none 0 0) (PRE ++ (S.take 0).map fun x => rootL (sideOf L x)) ∧ Below w1.heap.size w1 w1 := ⟨by rw [hPRE]; exact OwnH.nil _ _, Below.refl _ _⟩
    clear hf0 hPRE
    go_wp2
    go_loopw [50, 10] (fun a b wr => ∃ (k : Nat) (u : Value), k ≤ S.length ∧ a = .int .i64 k ∧ b = u ∧ OwnH wr w1.heap.size u (PRE ++ (S.take k).map fun x => rootL (sideOf L x)) ∧ Below w1.heap.size w1 wr) (fun a _ _ => S.length - (intOf a).toNat)
    case atStart => exact ⟨0, _, Nat.zero_le _, rfl, rfl, hR0⟩
    case round =>
      clear hR0
      obtain ⟨k, u, hk, rfl, rfl, hu, hbr⟩ := hrel
      obtain ⟨pu, nu, cu, rfl, hnu⟩ := ownsRowN_form hu
      have HNU := (show Hid _ from hnu)
      clear hnu
      have k0 : (0 : Int) ≤ (k : Int) := by omega
      by_cases hlt : k < S.length
      · have k1 : (k : Int) < (S.length : Int) := by omega
        obtain ⟨g, c2, hps, hg, hrg⟩ := own_side (ownsRowN_later HUS.out hbr) hlt
        cases hps
        have hx : S.getD k Sd.z ∈ S := by simp only [List.getD]; rw [List.getElem?_eq_getElem hlt]; exact List.getElem_mem _
        have hxo := HW.out _ hx
        have HSU := (show Hid _ from take_map_succ S (fun x => rootL (sideOf L x)) k Sd.z hlt)
        have HK : Hid (k < S.length) := hlt
        have hxi : (Tryd.prog.info? 56).map (·.size) = some (S.getD k Sd.z).v.toList.length := by rw [Array.length_toList]; exact info_sd _
        have hxj := info_sd (S.getD k Sd.z)
        have hxo1 := sd_one (S.getD k Sd.z)
        have hok32 : H32 (rootL (sideOf L (S.getD k Sd.z))) := root_32 _ _ (Nat.le_refl _) (fun l hl => hok l (sideOf_mem hl))
        clear hlt hx
        generalize S.getD k Sd.z = x at *
        have HXO : Hid (x.f < x.t ∧ x.t ≤ L.length) := hxo
        clear hxo
        generalize hxv : x.v = xv at *
        have HXV : Hid (x.v = xv) := hxv
        clear hxv
        have hsz3 : xv.size = 3 := by rw [← HXV.out]; rfl
        go_wp2_with (first | refine wpList_load_mid rfl 56 _ rfl g (k * 3) rfl xv.toList _ hrg Tryd.underlying56 rfl hxi ?_ | (refine wpList_store_row rfl 56 _ _ rfl wr.heap.size xv rfl rfl 56 _ (heap_alloc_new wr _) hxj (by rw [hsz3]; rfl) hxo1 ?_; refine stop ?_))
        unfold Stop
        have rg := (Row.new wr #[.int .i64 0, .int .i64 0, .bool false] 56 rfl).setRow xv
        have b2 : Below wr.heap.size wr ((wr.alloc (.cells #[.int .i64 0, .int .i64 0, .bool false] 56)).setRow wr.heap.size xv) := Below.row (below1 wr _) _ (Nat.le_refl _)
        generalize (wr.alloc (.cells #[.int .i64 0, .int .i64 0, .bool false] 56)).setRow wr.heap.size xv = w4 at *
        have hb4 := hbr.trans (b2.mono hbr.size)
        have hu4 := hu.later b2
        clear hrg hxi hu b2 hxo1 hsz3
        go_wp2_with (first | (refine wpList_load_row rfl 56 _ rfl wr.heap.size rfl 56 xv (0, 0) _ rg Tryd.underlying56 rfl hxj ?_) | (go_at_call 29; refine stop ?_))
        rw [← HXV.out]
        refine (sroot_any x _ L w4 HXO.out.1 HXO.out.2 H64.out (HV1.out.later hb4) (HT1.out.later hb4)).mono ?_
        rintro e w5 ⟨rfl, hb5⟩
        have hb5' := hb4.trans (hb5.mono hb4.size)
        have hu5 := hu4.later hb5
        have hcs : (bytesL (rootL (sideOf L x))).size = 32 := by rw [bytesL_size, hok32.1]
        obtain ⟨v', w6, run6, own6, gr6⟩ := hu5.put hok32 (by rw [List.length_append, List.length_map, List.length_take]; have := HSL.out; have := HPRE.out; omega) hb5'.size _ rfl
        have hb6 : Below w1.heap.size w1 w6 := below_grown (chainA hb5' _) (by have := hb5'.size; simp; omega) gr6 (fun j hj => (hu5.lt j hj).1)
        have hR : OwnH w6 w1.heap.size v' (PRE ++ (S.take (k + 1)).map fun x => rootL (sideOf L x)) ∧ Below w1.heap.size w1 w6 := ⟨by rw [HSU.out, ← List.append_assoc]; exact own6, hb6⟩
        obtain ⟨pv, nv, cv, rfl, hnv⟩ := ownsRowN_form own6
        clear own6 gr6 hb6 hu5 hb5' hu4 hb5 rg hb4 hnv hok32
        generalize bytesL (rootL (sideOf L x)) = ra at *
        go_wp2_with (at_builtin; refine stop ?_)
        unfold Stop
        rw [lay_all _ ra 32 hcs rfl]
        go_wp2_with (at_builtin; refine Lib.wpList_append_run _ rfl _ _ _ _ rfl _ _ rfl rfl _ _ run6 ?_)
        go_roundw
        case rel => first | exact ⟨k + 1, _, HK.out, by go_num, rfl, hR⟩ | exact ⟨_, k + 1, HK.out, by go_num, rfl, hR⟩ | ((repeat apply Exists.intro); refine ⟨⟨k + 1, _, HK.out, by go_num, rfl, hR⟩, rfl⟩)
        case measure => simp [intOf]; have := HK.out; omega
      · obtain rfl : k = S.length := by omega
        have hB := HB1.out.trans (hbr.mono HB1.out.size)
        have hO : OwnH wr w.heap.size (.slice pu nu cu) (growL m L.length L) := by
          rw [HP.out, ← List.take_length (l := S)]
          exact hu.base HB1.out.size
        clear hu hbr
        go_wp2
        go_ret2
        exact ⟨_, rfl, hO, hB⟩
theorem growth_none (v : Value) (L : List (List Nat)) (w : World) (m : Nat) (hm : m = 0 ∨ m = L.length) (hl : L.length ≤ 64) (hv : HsAt w v L) :
    Calls Tryd.prog 22 #[.pointer none, .int .i64 (m : Nat), v] w fun e w' => e = .returned (.tuple #[.slice none 0 0, .bool true]) ∧ w' = w := by
  obtain ⟨p, c, rfl, hc1, hc2⟩ := hv.form
  clear hv
  have l0 : (0 : Int) ≤ (L.length : Int) := by omega
  rcases hm with rfl | rfl
  · go_enter Tryd.func22, Tryd.ntmps22
    go_wp2
    go_ret2
    exact ⟨rfl, rfl⟩
  · by_cases h0 : L.length = 0
    · have h0' : (L.length : Int) = 0 := by omega
      go_enter Tryd.func22, Tryd.ntmps22
      go_wp2
      go_ret2
      exact ⟨rfl, rfl⟩
    · have h0' : ((L.length : Int) == 0) = false := by rw [beq_eq_false_iff_ne]; omega
      go_enter Tryd.func22, Tryd.ntmps22
      go_wp2
      go_ret2
      exact ⟨rfl, rfl⟩
end Go.Proofs.YtepohpniflmblaaDoor
