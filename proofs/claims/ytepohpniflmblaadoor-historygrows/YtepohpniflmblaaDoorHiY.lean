
/-
  The walk of HistoryGrows: it returns true, for any leaves and place, and turns nothing that was there.
-/
import Derived.Test.YtepohpniflmblaaDoorHiY0
import Derived.Test.YtepohpniflmblaaDoorClZ
set_option maxRecDepth 100000
namespace Go.Proofs.YtepohpniflmblaaDoor
open Go.RowKit
set_option linter.unusedVariables false
set_option linter.unusedSimpArgs false
theorem growth_bad (i : Int) (v : Value) (L : List (List Nat)) (w : World) (lo : -9223372036854775808 ≤ i) (hi9 : i ≤ 9223372036854775807) (hi : i < 0 ∨ (L.length : Int) < i) (hv : HsAt w v L) :
    Calls Tryd.prog 22 #[.pointer none, .int .i64 i, v] w fun e w' => e = .returned (.tuple #[.slice none 0 0, .bool false]) ∧ w' = w := by
  obtain ⟨p, c, rfl, hc1, hc2⟩ := hv.form
  have l0 : (0 : Int) ≤ (L.length : Int) := by omega
  clear hv
  by_cases h0 : i < 0
  · clear hi
    go_enter Tryd.func22, Tryd.ntmps22
    go_wp2
    go_ret2
    exact ⟨rfl, rfl⟩
  · have h1 : (L.length : Int) < i := by omega
    have h2 : (0 : Int) ≤ i := by omega
    clear hi h0
    go_enter Tryd.func22, Tryd.ntmps22
    go_wp2
    go_ret2
    exact ⟨rfl, rfl⟩
/-- What holds between the rounds. -/
def GwI (w wr : World) (T gr : Nat) (pu : Option Addr) (n cu : Nat) (A : List (List Nat)) (R : List Nat) (k : Nat) (wb : Bool) : Prop :=
  ∃ N, Below w.heap.size w wr ∧ TpAt wr T (.pointer (some ⟨T, 0, none⟩)) N ∧ T ≤ wr.heap.size ∧ HsAt wr (.slice pu n cu) A ∧ Row wr gr (bytesL R) 28 ∧
    (∀ x ∈ rootN A, x ∈ N) ∧ N.length ≤ 120 + 12 * k ∧ (∀ l ∈ N, l.length ≤ 1000) ∧ (wb = true → ClN N)
set_option maxHeartbeats 4000000 in
theorem grows_walk (v0 : Value) (L : List (List Nat)) (x : Int) (w : World) (hL : PartsAt w v0 L) (hcap0 : ∀ q n c, v0 = .slice q n c → n ≤ c) (lo : -9223372036854775808 ≤ x) (hi : x ≤ 9223372036854775807) (ht : Tab w) :
    Calls Tryd.prog 5 #[v0, .int .i64 x] w fun e w' => e = .returned (.bool true) ∧ Below w.heap.size w w' := by
  obtain ⟨hlm, p0, c0, rfl, hcells⟩ := id hL
  have HL : Hid (PartsAt w (.slice p0 L.length c0) L) := hL
  have HT : Hid (Tab w) := ht
  clear hcells hcap0
  unfold maxLen at hlm
  have l0 : (0 : Int) ≤ (L.length : Int) := by omega
  have l1 : (L.length : Int) ≤ 9223372036854775807 := by omega
  go_enter Tryd.func5, Tryd.ntmps5
  go_wp2_with (go_at_call 12; refine stop ?_)
  refine (fit6_any w HT.out).mono ?_
  rintro e w1 ⟨rfl, hb1⟩
  go_wp2_with (go_at_call 13; refine stop ?_)
  refine (light_any _ L w1 (HL.out.later hb1)).mono ?_
  rintro e w1' ⟨lb, rfl, hli, hw1⟩
  obtain rfl := hw1.symm
  clear hw1
  cases lb with
  | false =>
    go_wp2
    go_ret
    exact ⟨rfl, hb1⟩
  | true =>
      have hli := hli rfl
      have HLI : Hid (Light L ∧ True) := ⟨hli, trivial⟩
      have l40 : (L.length : Int) ≤ 40 := by have := hli.1; omega
      have B1 : Hid (Below w.heap.size w w1) := hb1
      clear hli l1 hb1
      go_wp2_with (go_at_call 19; refine stop ?_)
      have B3 : Hid (Below w.heap.size w (w1.alloc (.cells #[.slice none 0 0] 40))) := B1.out.alloc B1.out.size _
      have r7 := Row.new w1 #[.slice none 0 0] 40 rfl
      have G2 : Hid (w.heap.size ≤ w1.heap.size ∧ 0 < w1.heap.size) := ⟨B1.out.size, Nat.lt_of_lt_of_le HT.out.pos B1.out.size⟩
      have htp0 : TpAt (w1.alloc (.cells #[.slice none 0 0] 40)) w1.heap.size (.pointer (some ⟨w1.heap.size, 0, none⟩)) [] := TpAt.new (w := w1.alloc (.cells #[.slice none 0 0] 40)) (w' := w1.alloc (.cells #[.slice none 0 0] 40)) r7 (Nat.le_refl _)
      have HSZ : Hid (w1.heap.size < (w1.alloc (.cells #[.slice none 0 0] 40)).heap.size) := by show _ < _; simp
      clear r7
      generalize w1.alloc (.cells #[.slice none 0 0] 40) = w3 at *
      clear B1
      generalize w1.heap.size = T at *
      refine (noted_any _ L T _ [] w3 (fun wr hs => HL.out.low B3.out G2.out.1 hs) HLI.out.1 (HT.out.later B3.out) G2.out.2 (Nat.le_of_lt HSZ.out) htp0 (by simp)).mono ?_
      rintro e w4 ⟨u, rfl, hu, htp4, hs4⟩
      rw [List.nil_append] at htp4
      obtain ⟨pu, nu, cu, rfl, hnu⟩ := ownsRowN_form hu
      rw [leafs_len] at hnu
      subst hnu
      have HU4 : Hid (OwnH w4 w3.heap.size (.slice pu L.length cu) (leafs L)) := hu
      have nL := leafs_len L
      have HHS : Hid (HsAt w4 (.slice pu L.length cu) (leafs L)) := hu.hs (leafs_ok L)
      have B4 : Hid (Below w.heap.size w w4) := TStep.below B3.out (TStep.mk hs4.os hs4.tape hs4.output hs4.size (fun k o hk hs => hs4.block k o hk (hs.imp (fun h => Nat.lt_of_lt_of_le h G2.out.1) id)))
      have HTP4 : Hid (TpAt w4 T (.pointer (some ⟨T, 0, none⟩)) (L.map msgL)) := htp4
      have G4 : Hid (T ≤ w4.heap.size) := Nat.le_trans (Nat.le_of_lt HSZ.out) hs4.size
      clear hu htp4 hs4 htp0 B3 HSZ
      generalize w3.heap.size = T3 at *
      go_wp2_with (go_at_call 15; refine stop ?_)
      refine (root_any _ _ (leafs L) T _ (L.map msgL) w4 (Nat.le_refl _) (by rw [leafs_len]; have := HLI.out.1.1; omega) HHS.out (HT.out.later B4.out) G2.out.2 G4.out HTP4.out (by rw [leafs_len, List.length_map]; have := HLI.out.1.1; omega)).mono ?_
      rintro e w5 ⟨rfl, htp5, hs5⟩
      have h32 := root_32 _ (leafs L) (Nat.le_refl _) (leafs_ok L)
      obtain ⟨R, hR⟩ : ∃ R, rootL (leafs L) = R := ⟨_, rfl⟩
      rw [hR] at h32 ⊢
      have HR : Hid (rootL (leafs L) = R) := hR
      have H32R : Hid (H32 R) := h32
      have HU5 : Hid (OwnH w5 T3 (.slice pu L.length cu) (leafs L)) := HU4.out.tstep hs5
      have B5 : Hid (Below w.heap.size w w5) := TStep.below B4.out (TStep.mk hs5.os hs5.tape hs5.output hs5.size (fun k o hk hs => hs5.block k o hk (hs.imp (fun h => Nat.lt_of_lt_of_le h G2.out.1) id)))
      have HTP5 : Hid (TpAt w5 T (.pointer (some ⟨T, 0, none⟩)) (L.map msgL ++ rootN (leafs L))) := htp5
      have G5 : Hid (T ≤ w5.heap.size) := Nat.le_trans G4.out hs5.size
      have iR := info_h32 h32
      have zR := z32_size h32
      have oR := bytesL_one R
      clear htp5 hs5 HHS HTP4 B4 G4 hR h32 HU4
      go_wp2_with (refine wpList_store_row rfl 28 _ _ rfl w5.heap.size (bytesL R) rfl rfl 28 _ (heap_alloc_new w5 _) iR zR oR ?_; refine stop ?_)
      unfold Stop
      rw [zeros32b]
      have r9 := (Row.new w5 (bytesL (List.replicate 32 0)) 28 rfl).setRow (bytesL R)
      have bz : Below w5.heap.size w5 ((w5.alloc (.cells (bytesL (List.replicate 32 0)) 28)).setRow w5.heap.size (bytesL R)) := Below.row (below1 w5 _) _ (Nat.le_refl _)
      have hgz : w5.heap.size < ((w5.alloc (.cells (bytesL (List.replicate 32 0)) 28)).setRow w5.heap.size (bytesL R)).heap.size := r9.lt
      generalize (w5.alloc (.cells (bytesL (List.replicate 32 0)) 28)).setRow w5.heap.size (bytesL R) = w6 at *
      have HU6 : Hid (OwnH w6 T3 (.slice pu L.length cu) (leafs L)) := HU5.out.later bz
      have B6 : Hid (Below w.heap.size w w6) := B5.out.trans (bz.mono B5.out.size)
      have HTP6 : Hid (TpAt w6 T (.pointer (some ⟨T, 0, none⟩)) (L.map msgL ++ rootN (leafs L))) := HTP5.out.later bz
      have G6 : Hid (T ≤ w6.heap.size ∧ w5.heap.size < w6.heap.size) := ⟨Nat.le_trans G5.out bz.size, hgz⟩
      have R9 : Hid (Row w6 w5.heap.size (bytesL R) 28) := r9
      clear bz HU5 B5 HTP5 G5 r9 hgz iR zR oR
      generalize w5.heap.size = g9 at *
      have HA : Hid ((∀ x ∈ leafs L, H32 x) ∧ (leafs L).length = L.length) := ⟨leafs_ok L, nL⟩
      have HHS6 : HsAt w6 (.slice pu L.length cu) (leafs L) := HU6.out.hs HA.out.1
      have hI0 : GwI w w6 T g9 pu L.length cu (leafs L) R 0 false := by
        refine ⟨_, B6.out, HTP6.out, G6.out.1, HHS6, R9.out, fun x hx => List.mem_append_right _ hx, ?_, ?_, fun h => by cases h⟩
        · have h1 := (rootN_len _ (leafs L) (Nat.le_refl _)).1
          rw [nL] at h1
          rw [List.length_append, List.length_map]
          have := HLI.out.1.1
          split at h1 <;> omega
        · intro l hl
          rcases List.mem_append.1 hl with hl | hl
          · obtain ⟨b, hb, rfl⟩ := List.mem_map.1 hl
            have := HLI.out.1.2 b hb
            simp [msgL]; omega
          · exact rootN_short HA.out.1 l hl
      have HTT : Hid (∀ {wr : World}, Below w.heap.size w wr → Tab wr) := fun h => HT.out.later h
      have HG0 : Hid (0 < T ∧ w.heap.size ≤ T) := ⟨G2.out.2, G2.out.1⟩
      have h40 : Hid (L.length ≤ 40) := HLI.out.1.1
      clear HHS6 HU6 B6 HTP6 G6 R9 HLI nL G2
      generalize leafs L = A at *
      go_wp2
      go_loopw [33, 8] (fun a b wr => ∃ (k : Nat) (wb : Bool), k ≤ L.length + 1 ∧ a = .int .i64 k ∧ b = .bool wb ∧ GwI w wr T g9 pu L.length cu A R k wb) (fun a _ _ => L.length + 1 - (intOf a).toNat)
      case atStart => exact ⟨0, false, Nat.zero_le _, rfl, rfl, hI0⟩
      case round =>
        clear hI0
        obtain ⟨k, wb, hk, rfl, rfl, N, hbw, htp, hsz, hhs, hrr, hmem, hlen, hshort, hcl⟩ := hrel
        have k0 : (0 : Int) ≤ (k : Int) := by omega
        by_cases hlt : k < L.length + 1
        · have k1 : (k : Int) < (L.length : Int) + 1 := by omega
          have HK : Hid (k < L.length + 1) := hlt
          have HBW : Hid (Below w.heap.size w wr) := hbw
          have HTP : Hid (TpAt wr T (.pointer (some ⟨T, 0, none⟩)) N) := htp
          have HHS : Hid (HsAt wr (.slice pu L.length cu) A) := hhs
          have HRR : Hid (Row wr g9 (bytesL R) 28) := hrr
          have HNN : Hid ((∀ x ∈ rootN A, x ∈ N) ∧ N.length ≤ 120 + 12 * k ∧ (∀ l ∈ N, l.length ≤ 1000) ∧ (wb = true → ClN N)) := ⟨hmem, hlen, hshort, hcl⟩
          have HSZ : Hid (T ≤ wr.heap.size) := hsz
          clear hlt hbw htp hsz hhs hrr hmem hlen hshort hcl hk
          go_wp2_with (go_at_call 22; refine stop ?_)
          have hgg := grows_growth k A _ wr HA.out.1 (by rw [HA.out.2]; have := h40.out; omega) (by rw [HA.out.2]; have := HK.out; omega) HHS.out (HTT.out HBW.out)
          rw [HA.out.2, HR.out] at hgg
          refine hgg.mono ?_
          rintro e wa ⟨p1, n1, d1, P1, rfl, hp1, hba, hg1, hg2⟩
          have HP1 : Hid (HsAt wa (.slice p1 n1 d1) P1) := hp1
          have HGA : Hid (∀ wr, HsAt wr (.slice p1 n1 d1) P1 → Tab wr → 0 < wr.heap.size → Calls Tryd.prog 23 #[.pointer none, .int .i64 (k : Nat), .int .i64 (L.length : Nat), .agg (bytesL (rootL (A.take k))), .agg (bytesL R), .slice p1 n1 d1] wr fun e w' => e = .returned (.bool true) ∧ Below wr.heap.size wr w') := hg1
          have HGB : Hid (∀ wr old base tv N, H32 old → HsAt wr (.slice p1 n1 d1) P1 → Tab wr → 0 < base → base ≤ wr.heap.size → TpAt wr base tv N → N.length + 128 ≤ 1000 →
              Calls Tryd.prog 23 #[tv, .int .i64 (k : Nat), .int .i64 (L.length : Nat), .agg (bytesL old), .agg (bytesL R), .slice p1 n1 d1] wr (GrAny k L.length (rootL (A.take k)) R (rootN A) old base tv N wr)) := hg2
          have BWa : Hid (Below w.heap.size w wa) := HBW.out.trans (hba.mono HBW.out.size)
          have HTPa : Hid (TpAt wa T (.pointer (some ⟨T, 0, none⟩)) N) := HTP.out.later hba
          have HHSa : Hid (HsAt wa (.slice pu L.length cu) A) := HHS.out.later hba
          have HRRa : Hid (Row wa g9 (bytesL R) 28) := HRR.out.later hba
          have HSZa : Hid (T ≤ wa.heap.size) := Nat.le_trans HSZ.out hba.size
          clear hgg hp1 hg1 hg2 hba HBW HTP HHS HRR HSZ
          have k2 : (k : Int) ≤ (L.length : Int) := by omega
          obtain ⟨_, _, e, hcu1, hcu2⟩ := HHSa.out.form
          rw [HA.out.2] at e hcu1
          cases e
          unfold maxLen at hcu2
          have k3 : (L.length : Int) ≤ (cu : Int) := by omega
          have k4 : (k : Int) ≤ (cu : Int) := by omega
          go_wp2_with (go_at_call 15; refine stop ?_)
          refine (root_nil _ (A.take k) wa (by rw [List.length_take, HA.out.2]; have := h40.out; omega) (HHSa.out.take k (by rw [HA.out.2]; have := HK.out; omega)) (HTT.out BWa.out)).mono ?_
          rintro e wb' ⟨rfl, hbb⟩
          have h32 := root_32 _ (A.take k) (Nat.le_refl _) (fun z hz => HA.out.1 z (List.mem_of_mem_take hz))
          obtain ⟨O, hO⟩ : ∃ O, rootL (A.take k) = O := ⟨_, rfl⟩
          rw [hO] at h32 ⊢
          have HGA2 := HGA.out
          have HGB2 := HGB.out
          rw [hO] at HGA2 HGB2
          have HGA3 := (show Hid _ from HGA2)
          have HGB3 := (show Hid _ from HGB2)
          have H32O : Hid (H32 O) := h32
          have iR := info_h32 h32
          have zR := z32_size h32
          have oR := bytesL_one O
          clear hO h32 HGA HGB HGA2 HGB2
          go_wp2_with (refine wpList_store_row rfl 28 _ _ rfl wb'.heap.size (bytesL O) rfl rfl 28 _ (heap_alloc_new wb' _) iR zR oR ?_; refine stop ?_)
          unfold Stop
          rw [zeros32b]
          have r9 := (Row.new wb' (bytesL (List.replicate 32 0)) 28 rfl).setRow (bytesL O)
          have bz : Below wb'.heap.size wb' ((wb'.alloc (.cells (bytesL (List.replicate 32 0)) 28)).setRow wb'.heap.size (bytesL O)) := Below.row (below1 wb' _) _ (Nat.le_refl _)
          generalize (wb'.alloc (.cells (bytesL (List.replicate 32 0)) 28)).setRow wb'.heap.size (bytesL O) = wc at *
          have bac : Below wa.heap.size wa wc := hbb.trans (bz.mono hbb.size)
          have BWc : Hid (Below w.heap.size w wc) := BWa.out.trans (bac.mono BWa.out.size)
          have HTPc : Hid (TpAt wc T (.pointer (some ⟨T, 0, none⟩)) N) := HTPa.out.later bac
          have HHSc : Hid (HsAt wc (.slice pu L.length cu) A) := HHSa.out.later bac
          have HRRc : Hid (Row wc g9 (bytesL R) 28) := HRRa.out.later bac
          have HP1c : Hid (HsAt wc (.slice p1 n1 d1) P1) := HP1.out.later bac
          have ROc : Hid (Row wc wb'.heap.size (bytesL O) 28) := r9
          have HSZc : Hid (T ≤ wb'.heap.size ∧ g9 < wb'.heap.size ∧ w.heap.size ≤ wb'.heap.size) := ⟨Nat.le_trans HSZa.out hbb.size, Nat.lt_of_lt_of_le HRRa.out.lt hbb.size, Nat.le_trans BWa.out.size hbb.size⟩
          have HBAC : Hid (Below wa.heap.size wa wc ∧ wa.heap.size ≤ wb'.heap.size) := ⟨bac, hbb.size⟩
          clear bz hbb bac r9 iR zR oR
          generalize wb'.heap.size = gO at *
          go_wp2_with (first | refine wpList_w (by rfl) (wp_load_row 28 _ rfl g9 rfl 28 (bytesL R) (0, 0) _ HRRc.out Tryd.underlying28 rfl (info_h32 H32R.out) ?_) | refine wpList_w (by rfl) (wp_load_row 28 _ rfl gO rfl 28 (bytesL O) (0, 0) _ ROc.out Tryd.underlying28 rfl (info_h32 H32O.out) ?_) | (go_at_call 23; refine stop ?_))
          refine (HGA3.out wc HP1c.out (HTT.out BWc.out) (Nat.lt_of_le_of_lt (Nat.zero_le _) HRRc.out.lt)).mono ?_
          rintro e wd ⟨rfl, hbd⟩
          have BWd : Hid (Below w.heap.size w wd) := BWc.out.trans (hbd.mono BWc.out.size)
          have HTPd : Hid (TpAt wd T (.pointer (some ⟨T, 0, none⟩)) N) := HTPc.out.later hbd
          have HHSd : Hid (HsAt wd (.slice pu L.length cu) A) := HHSc.out.later hbd
          have HRRd : Hid (Row wd g9 (bytesL R) 28) := HRRc.out.later hbd
          have HP1d : Hid (HsAt wd (.slice p1 n1 d1) P1) := HP1c.out.later hbd
          have ROd : Hid (Row wd gO (bytesL O) 28) := ROc.out.later hbd
          obtain ⟨X3, hX3⟩ : ∃ X, X = O.getD 3 0 := ⟨_, rfl⟩
          have HX3 : Hid (X3 = O.getD 3 0) := hX3
          have hX8 : X3 < 256 := by rw [hX3]; exact H32O.out.2.at 3
          have hc3 : wd.cell? ⟨gO, 3, none⟩ = some (.int .u8 (X3 : Nat)) := by rw [ROd.out.cell, bytesL_at _ _ (by rw [H32O.out.1]; decide), hX3]
          have hf3 : wd.frozen? ⟨gO, 3, none⟩ = false := ROd.out.frozen 3
          have HWR : Hid (((X3 : Int) + 1) % 256 = (((X3 + 1) % 256 : Nat) : Int)) := by show _ = _; omega
          have HBD : Hid (Below wc.heap.size wc wd) := hbd
          clear hX3 hbd BWc HTPc HHSc HRRc HP1c ROc HGA3
          go_upto_region 17 with fail
          try simp only [IntKind.wrap_u8]
          rw [HWR.out]
          have rO := heap_setCell_same wd gO 3 _ _ (.int .u8 (((X3 + 1) % 256 : Nat) : Int)) ROd.out
          have BAe : Below wa.heap.size wa (wd.setCell ⟨gO, 3, none⟩ (.int .u8 (((X3 + 1) % 256 : Nat) : Int))) := (HBAC.out.1.trans (HBD.out.mono HBAC.out.1.size)).setCell (p := ⟨gO, 3, none⟩) HBAC.out.2 _
          rw [HX3.out, ← inc_bytes] at rO
          rw [← HX3.out] at rO
          have hne := inc_ne H32O.out (k := 3) (by decide)
          have h3i := inc_32 H32O.out 3
          generalize wd.setCell ⟨gO, 3, none⟩ (.int .u8 (((X3 + 1) % 256 : Nat) : Int)) = we at *
          generalize incH O 3 = O' at *
          have BWe : Hid (Below w.heap.size w we) := BWa.out.trans (BAe.mono BWa.out.size)
          have HTPe : Hid (TpAt we T (.pointer (some ⟨T, 0, none⟩)) N) := HTPa.out.later BAe
          have HHSe : Hid (HsAt we (.slice pu L.length cu) A) := HHSa.out.later BAe
          have HRRe : Hid (Row we g9 (bytesL R) 28) := HRRa.out.later BAe
          have HP1e : Hid (HsAt we (.slice p1 n1 d1) P1) := HP1.out.later BAe
          have ROe : Hid (Row we gO (bytesL O') 28) := rO
          have HSZe : Hid (T ≤ we.heap.size) := Nat.le_trans HSZa.out BAe.size
          have HNE : Hid (O' ≠ O) := hne
          have H32O' : Hid (H32 O') := h3i
          clear BAe rO hne h3i hc3 hf3 BWd HTPd HHSd HRRd HP1d ROd BWa HTPa HHSa HRRa HP1 HBAC HBD HX3
          cases wb with
          | true =>
            go_wp2
            go_roundw
            case rel => exact ⟨k + 1, true, HK.out, by go_num, rfl, N, BWe.out, HTPe.out, HSZe.out, HHSe.out, HRRe.out, HNN.out.1, by have := HNN.out.2.1; omega, HNN.out.2.2.1, HNN.out.2.2.2⟩
            case measure => simp [intOf]; have := HK.out; omega
          | false =>
            go_wp2_with (first | refine wpList_w (by rfl) (wp_load_row 28 _ rfl g9 rfl 28 (bytesL R) (0, 0) _ HRRe.out Tryd.underlying28 rfl (info_h32 H32R.out) ?_) | refine wpList_w (by rfl) (wp_load_row 28 _ rfl gO rfl 28 (bytesL O') (0, 0) _ ROe.out Tryd.underlying28 rfl (info_h32 H32O'.out) ?_) | (go_at_call 23; refine stop ?_))
            refine (HGB3.out we O' T _ N H32O'.out HP1e.out (HTT.out BWe.out) HG0.out.1 HSZe.out HTPe.out (by have := HNN.out.2.1; have := HK.out; have := h40.out; omega)).mono ?_
            rintro e wf ⟨r, M, rfl, hr, hM1, hM2, htpf, hsf⟩
            have hI : GwI w wf T g9 pu L.length cu A R (k + 1) r := ⟨N ++ M, hsf.low BWe.out HG0.out.2, htpf, Nat.le_trans HSZe.out hsf.size, HHSe.out.tstep hsf, HRRe.out.tstep hsf (by decide) (by decide), fun z hz => List.mem_append_left _ (HNN.out.1 z hz), by rw [List.length_append]; have := HNN.out.2.1; omega, by
              intro l hl
              rcases List.mem_append.1 hl with hl | hl
              · exact HNN.out.2.2.1 l hl
              · exact hM2 l hl, fun hrt => (hr hrt HNE.out).mono (by
                intro z hz
                rcases List.mem_append.1 hz with hz | hz
                · exact List.mem_append_right _ hz
                · exact List.mem_append_left _ (HNN.out.1 z hz))⟩
            clear hr hM1 hM2 htpf hsf
            go_wp2
            go_roundw
            case rel => exact ⟨k + 1, r, HK.out, by go_num, rfl, hI⟩
            case measure => simp [intOf]; have := HK.out; omega
        · obtain rfl : k = L.length + 1 := by omega
          have HBW : Hid (Below w.heap.size w wr) := hbw
          have HTP : Hid (TpAt wr T (.pointer (some ⟨T, 0, none⟩)) N) := htp
          have HHS : Hid (HsAt wr (.slice pu L.length cu) A) := hhs
          have HNL : Hid (N.length ≤ 1000) := by have := h40.out; show _ ≤ _; omega
          have HNS : Hid (∀ l ∈ N, l.length ≤ 1000) := hshort
          have HCL : Hid (wb = true → ClN N) := hcl
          have k1 : ((L.length : Int) + 1) ≤ ((L.length + 1 : Nat) : Int) := by omega
          have k2 : ¬ ((L.length + 1 : Nat) : Int) < (L.length : Int) + 1 := by omega
          clear hbw htp hsz hhs hrr hmem hlen hshort hcl hlt
          go_wp2_with (go_at_call 22; refine stop ?_)
          refine (growth_bad ((L.length : Int) + 1) _ A wr (by omega) (by omega) (Or.inr (by rw [HA.out.2]; omega)) HHS.out).mono ?_
          rintro e wx ⟨rfl, hwx⟩
          obtain rfl := hwx.symm
          clear hwx
          go_wp2_with (go_at_call 22; refine stop ?_)
          refine (growth_bad (-1) _ A wr (by omega) (by omega) (Or.inl (by omega)) HHS.out).mono ?_
          rintro e wx ⟨rfl, hwx⟩
          obtain rfl := hwx.symm
          clear hwx
          cases wb with
          | false =>
            go_wp2
            go_ret
            exact ⟨rfl, HBW.out⟩
          | true =>
            have HCL2 : Hid (ClN N) := HCL.out rfl
            go_wp2_with (go_at_call 21; refine stop ?_)
            refine (clash_tp T T _ wr HTP.out (HTT.out HBW.out) HNL.out HNS.out (HTP.out.w8)).mono ?_
            rintro e wj ⟨bb, rfl, hbb, hbj⟩
            obtain rfl := hbb HCL2.out
            go_wp2
            go_ret
            exact ⟨rfl, HBW.out.trans (hbj.mono HBW.out.size)⟩
end Go.Proofs.YtepohpniflmblaaDoor
