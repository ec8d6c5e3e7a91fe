
/-
  Package rows: the leaves of a list, with a tape or none; its Root.
-/
import Derived.Test.YtcahmldgkkcheaaDoorRoG
import Derived.Test.YtcahmldgkkcheaaDoorClN
set_option maxRecDepth 100000
namespace Go.Proofs.YtcahmldgkkcheaaDoor
open Go.RowKit
set_option linter.unusedVariables false
set_option linter.unusedSimpArgs false

theorem LsV.tstep {w w' : World} {base bx b : Nat} {v : Value} {L : List Rc} (h : LsV w bx b v L) (hs : TStep base w w') : LsV w' bx b v L :=
  ⟨h.row.tstep hs (by decide) (by decide), ownsRow_tstep h.own hs (by decide) (by decide), h.ge⟩
theorem LsAt.tstep {w w' : World} {base bx b : Nat} {L : List Rc} (h : LsAt w bx b L) (hs : TStep base w w') : LsAt w' bx b L := let ⟨v, h⟩ := h; ⟨v, h.tstep hs⟩
theorem map_getD {L : List Rc} {k : Nat} (h : k < L.length) : (L.map rowBy).getD k [] = rowBy (L.getD k Rc.z) := by simp [List.getD, h]
theorem getD_rc {L : List Rc} {k : Nat} (h : k < L.length) : L.getD k Rc.z ∈ L := by simp [List.getD, h]
set_option maxHeartbeats 4000000 in
theorem rleaves_any (bx b : Nat) (L : List Rc) (base : Nat) (tv : Value) (N : List (List Nat)) (w : World) (h : LsAt w bx b L) (hl : L.length ≤ 40) (hT : ∀ a ∈ L, Tame a) (ht : Tab w) (h0 : 0 < base) (hbw : base ≤ w.heap.size) (htp : TpAt w base tv N) (hN : N.length + 40 ≤ 1000) :
    Calls Tryd.prog 25 #[.pointer (some ⟨b, 0, none⟩), tv] w fun e w' => ∃ u, e = .returned u ∧ OwnH w' w.heap.size u (leafs (L.map rowBy)) ∧ TpAt w' base tv (N ++ (L.map rowBy).map msgL) ∧ TStep base w w' := by
  obtain ⟨v, h⟩ := h
  obtain ⟨p, c, rfl⟩ := h.form
  obtain ⟨pt, rfl⟩ := htp.form
  have HV : Hid (LsV w bx b (.slice p L.length c) L) := h
  have cb := h.row.cell 0
  simp only [List.getElem?_toArray, List.getElem?_cons_zero] at cb
  have l0 : (0 : Int) ≤ (L.length : Int) := by omega
  have l1 : (L.length : Int) ≤ 40 := by omega
  have HT : Hid (Tab w) := ht
  have HTA : Hid (∀ a ∈ L, Tame a) := hT
  have HL40 : Hid (L.length ≤ 40) := hl
  have HNN : Hid (N.length + 40 ≤ 1000) := hN
  have HBW : Hid (base ≤ w.heap.size) := hbw
  have H00 : Hid (0 < base) := h0
  have HBL : Hid ((L.map rowBy).length = L.length) := List.length_map ..
  have hR0 : OwnH w w.heap.size (.slice none 0 0) (leafs ((L.map rowBy).take 0)) ∧ TpAt w base (.pointer pt) (N ++ ((L.map rowBy).take 0).map msgL) ∧ TStep base w w := ⟨OwnH.nil _ _, by simpa using htp, TStep.refl _ _⟩
  clear h hl hT ht hN hbw h0 htp
  go_enter Tryd.func25, Tryd.ntmps25
  go_wp2
  go_loopw [13, 5] (fun a bb wr => ∃ (k : Nat) (u : Value), k ≤ L.length ∧ a = .int .i64 k ∧ bb = u ∧ OwnH wr w.heap.size u (leafs ((L.map rowBy).take k)) ∧ TpAt wr base (.pointer pt) (N ++ ((L.map rowBy).take k).map msgL) ∧ TStep base w wr) (fun a _ _ => L.length - (intOf a).toNat)
  case atStart => exact ⟨0, _, Nat.zero_le _, rfl, rfl, hR0⟩
  case round =>
    clear hR0 cb
    obtain ⟨k, u, hk, rfl, rfl, hu, htp, hbr⟩ := hrel
    obtain ⟨pu, nu, cu, rfl, hnu⟩ := ownsRowN_form hu
    have HNU := (show Hid _ from hnu)
    clear hnu
    have k0 : (0 : Int) ≤ (k : Int) := by omega
    by_cases hlt : k < L.length
    · have k1 : (k : Int) < (L.length : Int) := by omega
      obtain ⟨g, rfl, hg, hnc, hrg⟩ := (HV.out.tstep hbr).at hlt
      have hltB : k < (L.map rowBy).length := by rw [HBL.out]; exact hlt
      have HSU := (show Hid _ from leafs_succ hltB)
      have HMU : Hid (((L.map rowBy).take (k + 1)).map msgL = ((L.map rowBy).take k).map msgL ++ [msgL ((L.map rowBy).getD k [])]) := by
        show _ = _
        rw [List.take_succ_eq_append_getElem hltB, List.map_append]
        simp [List.getD, hlt]
      have HK : Hid (k < L.length) := hlt
      have HTM : Hid (Tame (L.getD k Rc.z)) := HTA.out _ (getD_rc hlt)
      have HGD : Hid ((L.map rowBy).getD k [] = rowBy (L.getD k Rc.z)) := map_getD hlt
      generalize L.getD k Rc.z = a at *
      have hgd := HGD.out
      have hsu := HSU.out
      have hmu := HMU.out
      rw [hgd] at hsu hmu
      have HSU2 := (show Hid _ from hsu)
      have HMU2 := (show Hid _ from hmu)
      have ia := info_rc a
      have ial := info_rcl a
      have oa := a.one
      have za : Hid ((14 : Nat) = a.cs.size) := rfl
      have HU : Hid (OwnH wr w.heap.size (.slice pu nu cu) (leafs ((L.map rowBy).take k))) := hu
      have HTP : Hid (TpAt wr base (.pointer pt) (N ++ ((L.map rowBy).take k).map msgL)) := htp
      have HBR : Hid (TStep base w wr) := hbr
      clear hgd hsu hmu HGD HSU HMU hlt hltB hu htp hbr
      go_wp2_with (first | (refine wpList_load_mid rfl 34 _ rfl g (k * 14) rfl a.cs.toList _ hrg Tryd.underlying34 rfl ial ?_) | (refine wpList_store_row rfl 34 _ _ rfl wr.heap.size a.cs rfl rfl 34 _ (heap_alloc_new wr _) ia za.out oa ?_; refine stop ?_))
      unfold Stop
      have r7 := (Row.new wr #[.int .u64 0, .int .u64 0, .int .i64 0, .int .i64 0, .int .u64 0, .int .u64 0, .int .u64 0, .int .u64 0, .int .u64 0, .int .u64 0, .int .u64 0, .int .u64 0, .int .u64 0, .int .u64 0] 34 rfl).setRow a.cs
      have b5 := Below.row (below1 wr (.cells #[.int .u64 0, .int .u64 0, .int .i64 0, .int .i64 0, .int .u64 0, .int .u64 0, .int .u64 0, .int .u64 0, .int .u64 0, .int .u64 0, .int .u64 0, .int .u64 0, .int .u64 0, .int .u64 0] 34)) a.cs (Nat.le_refl _)
      generalize (wr.alloc (.cells #[.int .u64 0, .int .u64 0, .int .i64 0, .int .i64 0, .int .u64 0, .int .u64 0, .int .u64 0, .int .u64 0, .int .u64 0, .int .u64 0, .int .u64 0, .int .u64 0, .int .u64 0, .int .u64 0] 34)).setRow wr.heap.size a.cs = wq at *
      have HU2 : Hid (OwnH wq w.heap.size (.slice pu nu cu) (leafs ((L.map rowBy).take k))) := HU.out.later b5
      have HTP2 : Hid (TpAt wq base (.pointer pt) (N ++ ((L.map rowBy).take k).map msgL)) := HTP.out.later b5
      have HBR2 : Hid (TStep base w wq) := HBR.out.trans (TStep.of b5)
      have R7 : Hid (Row wq wr.heap.size a.cs 34) := r7
      clear r7 b5 hrg HU HTP HBR
      generalize wr.heap.size = g7 at *
      go_wp2_with (first | (refine wpList_load_row rfl 34 _ rfl g7 rfl 34 a.cs (0, 0) _ R7.out Tryd.underlying34 rfl ia ?_) | (go_at_call 15; refine stop ?_))
      refine (rleaf_any a HTM.out base _ _ wq (HT.out.tstep H00.out HBR2.out) H00.out (by have := HBW.out; have := HBR2.out.size; omega) HTP2.out (by have := HNN.out; have := HL40.out; have := HK.out; simp; omega)).mono ?_
      rintro e w5 ⟨rfl, htp5, hs5⟩
      have h32 := hsh_32 (msgL (rowBy a))
      have hcs : (bytesL (hsh (msgL (rowBy a)))).size = 32 := by rw [bytesL_size, h32.1]
      have hs5' := HBR2.out.trans hs5
      have hu5 := HU2.out.tstep hs5
      obtain ⟨v', w6, run6, own6, gr6⟩ := hu5.put h32 (by rw [leafs_len, List.length_take]; have := HL40.out; have := HK.out; omega) hs5'.size _ rfl
      have hb6 : Below w.heap.size w5 w6 := below_grown ((below1 w5 _).mono hs5'.size) (by have := hs5'.size; simp; omega) gr6 (fun j hj => (hu5.lt j hj).1)
      have hR : OwnH w6 w.heap.size v' (leafs ((L.map rowBy).take (k + 1))) ∧ TpAt w6 base (.pointer pt) (N ++ ((L.map rowBy).take (k + 1)).map msgL) ∧ TStep base w w6 :=
        ⟨by rw [HSU2.out]; exact own6, by rw [HMU2.out, ← List.append_assoc]; exact (htp5.later (below1 w5 _)).nh (Nh.grown (hu5.later (below1 w5 _)) gr6), hs5'.grown hb6⟩
      obtain ⟨pv, nv, cv, rfl, hnv⟩ := ownsRowN_form own6
      clear own6 gr6 hb6 hu5 hs5' hs5 hnv h32 htp5
      generalize bytesL (hsh (msgL (rowBy a))) = ra at *
      go_wp2_with (at_builtin; refine stop ?_)
      unfold Stop
      rw [lay_all _ ra 32 hcs rfl]
      go_wp2_with (at_builtin; refine Lib.wpList_append_run _ rfl _ _ _ _ rfl _ _ rfl rfl _ _ run6 ?_)
      go_roundw
      case rel => exact ⟨k + 1, _, HK.out, by go_num, rfl, hR⟩
      case measure => simp [intOf]; have := HK.out; omega
    · obtain rfl : k = L.length := by omega
      have e : (L.map rowBy).take L.length = L.map rowBy := by rw [← HBL.out, List.take_length]
      rw [e] at hu htp
      go_wp2
      go_ret
      exact ⟨_, rfl, hu, htp, hbr⟩
set_option maxHeartbeats 2000000 in
theorem rroot_any (bx b : Nat) (L : List Rc) (base : Nat) (tv : Value) (N : List (List Nat)) (w : World) (h : LsAt w bx b L) (hl : L.length ≤ 40) (hT : ∀ a ∈ L, Tame a) (ht : Tab w) (h0 : 0 < base) (hbw : base ≤ w.heap.size) (htp : TpAt w base tv N) (hN : N.length + 80 ≤ 1000) :
    Calls Tryd.prog 14 #[.pointer (some ⟨b, 0, none⟩), tv] w fun e w' => e = .returned (.agg (bytesL (rootL (leafs (L.map rowBy))))) ∧ TpAt w' base tv (N ++ (L.map rowBy).map msgL ++ rootN (leafs (L.map rowBy))) ∧ TStep base w w' := by
  obtain ⟨pt, rfl⟩ := htp.form
  have h32 := root_32 _ (leafs (L.map rowBy)) (Nat.le_refl _) (leafs_ok _)
  obtain ⟨H, hH⟩ : ∃ H, rootL (leafs (L.map rowBy)) = H := ⟨_, rfl⟩
  rw [hH] at h32 ⊢
  have HH : Hid (rootL (leafs (L.map rowBy)) = H) := hH
  clear hH
  have hsz := info_h32 h32
  have hzz := z32_size h32
  have b1 := below1 w (.cells (bytesL (List.replicate 32 0)) 42)
  have r4 := Row.new w (bytesL (List.replicate 32 0)) 42 rfl
  have HLS : Hid (LsAt w bx b L) := h
  have HL4 : Hid (L.length ≤ 40) := hl
  have HTT : Hid (∀ a ∈ L, Tame a) := hT
  have HTB : Hid (Tab w) := ht
  have H00 : Hid (0 < base) := h0
  have HBW : Hid (base ≤ w.heap.size) := hbw
  have HTP : Hid (TpAt w base (.pointer pt) N) := htp
  have HNN : Hid (N.length + 80 ≤ 1000) := hN
  clear h hl hT ht h0 hbw htp hN
  go_enter Tryd.func14, Tryd.ntmps14
  go_wp2_with (go_at_call 25; refine stop ?_)
  rw [zeros32b]
  have HB1 : Hid (base ≤ (w.alloc (.cells (bytesL (List.replicate 32 0)) 42)).heap.size) := by have := HBW.out; show _ ≤ _; simp; omega
  generalize w.alloc (.cells (bytesL (List.replicate 32 0)) 42) = w1 at *
  refine (rleaves_any bx b L base _ N w1 (HLS.out.later b1) HL4.out HTT.out (HTB.out.later b1) H00.out HB1.out (HTP.out.later b1) (by have := HNN.out; omega)).mono ?_
  rintro e w2 ⟨u, rfl, hu, htp2, hs2⟩
  have HHS := hu.hs (leafs_ok _)
  obtain ⟨pu, nu, cu, rfl, hnu⟩ := ownsRowN_form hu
  have r42 := r4.tstep hs2 (by decide) (by decide)
  have hs02 := (TStep.of b1).trans hs2
  have HB : Hid (base ≤ w2.heap.size) := by have := hs02.size; have := HBW.out; show _ ≤ _; omega
  have HR42 := (show Hid (Row w2 w.heap.size (bytesL (List.replicate 32 0)) 42) from r42)
  have HS02 := (show Hid (TStep base w w2) from hs02)
  have HTP2 : Hid (TpAt w2 base (.pointer pt) (N ++ (L.map rowBy).map msgL)) := htp2
  have HHS2 : Hid (HsAt w2 (.slice pu nu cu) (leafs (L.map rowBy))) := HHS
  clear hu r4 hs2 r42 hs02 htp2 HHS hnu b1
  go_wp2_with (go_at_call 16; refine stop ?_)
  refine (root_any _ _ (leafs (L.map rowBy)) base _ _ w2 (Nat.le_refl _) (by rw [leafs_len, List.length_map]; have := HL4.out; omega) HHS2.out (HTB.out.tstep H00.out HS02.out) H00.out HB.out HTP2.out (by rw [leafs_len, List.length_append, List.length_map, List.length_map]; have := HL4.out; have := HNN.out; omega)).mono ?_
  rintro e w3 ⟨rfl, htp3, hs3⟩
  rw [HH.out]
  have r43 := HR42.out.tstep hs3 (by decide) (by decide)
  have hs03 := HS02.out.trans hs3
  clear hs3
  go_wp2_with (refine wpList_store_row rfl 42 _ _ rfl w.heap.size (bytesL H) rfl rfl 42 _ r43 hsz hzz (bytesL_one _) ?_)
  refine bodyPost_ret (v := .agg (bytesL H)) (results_cell_row Tryd.results14 _ _ w.heap.size 42 (bytesL H) (0, 0) _ ?hp ?hg Tryd.underlying42 rfl hsz) rfl ⟨rfl, ?_, ?_⟩
  case hp => rfl
  case hg => exact r43.setRow _
  · exact htp3.setNew r43 (by decide) (by decide) (by decide) _
  · exact hs03.setNew (Nat.le_refl _) _
end Go.Proofs.YtcahmldgkkcheaaDoor
