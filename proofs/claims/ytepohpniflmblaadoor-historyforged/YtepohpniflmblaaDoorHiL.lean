
/-
  history's Climb, with a tape or none. For at most 64 leaves.
-/
import Derived.Test.YtepohpniflmblaaDoorHiK
namespace Go.Proofs.YtepohpniflmblaaDoor
open Go.RowKit
set_option maxRecDepth 100000
set_option linter.unusedVariables false
set_option linter.unusedSimpArgs false

/-- The hash behind k sides; what was hashed till then. -/
noncomputable def climbS (S : List Sd) (P : List (List Nat)) (h : List Nat) : Nat → List Nat
  | 0 => h
  | k + 1 => hsh (joinL (S.getD k Sd.z) (climbS S P h k) (P.getD k []))
noncomputable def climbN (S : List Sd) (P : List (List Nat)) (h : List Nat) : Nat → List (List Nat)
  | 0 => []
  | k + 1 => climbN S P h k ++ [joinL (S.getD k Sd.z) (climbS S P h k) (P.getD k [])]
theorem climbS_32 {S : List Sd} {P : List (List Nat)} {h : List Nat} (hh : H32 h) : ∀ k, H32 (climbS S P h k)
  | 0 => hh
  | k + 1 => hsh_32 _
theorem climbN_len (S : List Sd) (P : List (List Nat)) (h : List Nat) : ∀ k, (climbN S P h k).length = k
  | 0 => rfl
  | k + 1 => by show (climbN S P h k ++ [_]).length = _; rw [List.length_append, climbN_len S P h k]; rfl
/-- What Climb's loop holds behind k sides: w1: the world behind way. -/
structure ClR (w1 wr : World) (base b10 b14 : Nat) (tv : Value) (N : List (List Nat)) (S : List Sd) (P : List (List Nat)) (h : List Nat) (k : Nat) : Prop where
  r10 : Row wr b10 (bytesL (List.replicate 32 0)) 28
  r14 : Row wr b14 (bytesL (climbS S P h k)) 28
  tp : TpAt wr base tv (N ++ climbN S P h k)
  st : TStep base w1 wr
theorem results_cell_row2 {fn : Func} {p u : Tmp} {ty : TypeId} (h : fn.results = #[.cell p ty, .tmp u]) (tmps : Array Value) (w : World) (g : Nat) (v : Value)
    (hp : tmps.getD p undef = .pointer (some ⟨g, 0, none⟩)) (hl : (loadVar ty ⟨g, 0, none⟩).run Tryd.prog w = .ok v w) :
    (results fn tmps).run Tryd.prog w = .ok (.tuple #[v, tmps.getD u undef]) w := by
  rw [results_cell_tmp h, hp]
  simp [asAddr, Result.andThen, hl]
theorem row_range0 {w : World} {g : Nat} {cs : Array Value} {t : TypeId} (h : Row w g cs t) : w.rangeAt g 0 cs.toList := fun j x hx => by rw [h.cell, Nat.zero_add, ← hx, Array.getElem?_toList]
set_option maxHeartbeats 4000000 in
theorem climb_any (i n : Nat) (h : List Nat) (v : Value) (P : List (List Nat)) (base : Nat) (tv : Value) (N : List (List Nat)) (w : World) (hi : i < n) (h64 : n ≤ 64) (hh : H32 h) (hv : HsAt w v P) (hP : P.length = (wayL i false 0 n).2.length) (ht : Tab w) (h0 : 0 < base) (hbw : base ≤ w.heap.size) (htp : TpAt w base tv N) (hN : N.length + 64 ≤ 1000) :
    Calls Tryd.prog 18 #[tv, .agg (bytesL h), .int .i64 (i : Nat), .int .i64 (n : Nat), v] w fun e w' => e = .returned (.tuple #[.agg (bytesL (climbS (wayL i false 0 n).2 P h P.length)), .bool true]) ∧ TpAt w' base tv (N ++ climbN (wayL i false 0 n).2 P h P.length) ∧ TStep base w w' := by
  obtain ⟨pt, rfl⟩ := htp.form
  obtain ⟨pp, cp, rfl, hc1, hc2⟩ := hv.form
  have hwo := wayL_ok _ i false 0 n (Nat.le_refl _) (Nat.zero_le _) hi
  have HI : Hid (i < n ∧ n ≤ 64) := ⟨hi, h64⟩
  have i0 : (0 : Int) ≤ (i : Int) := by omega
  have i1 : (i : Int) < (n : Int) := by omega
  obtain ⟨S, hS⟩ : ∃ S, S = (wayL i false 0 n).2 := ⟨_, rfl⟩
  have HSE : Hid ((wayL i false 0 n).2 = S) := hS.symm
  rw [← hS] at hwo hP ⊢
  have HSL : Hid (S.length ≤ 63) := by have := hwo.2.1; show _ ≤ _; omega
  have HPL : Hid (P.length = S.length) := hP
  have HV : Hid (HsAt w (.slice pp P.length cp) P) := hv
  have HT : Hid (Tab w) := ht
  have HH : Hid (H32 h) := hh
  have HN : Hid (N.length + 64 ≤ 1000) := hN
  have HBW : Hid (base ≤ w.heap.size) := hbw
  have p0 : (P.length : Int) = (S.length : Int) := by omega
  have iH := info_h32 hh
  have oH := bytesL_one h
  have zH := z32_size hh
  have r6 := Row.new w (bytesL h) 28 rfl
  have r10 := Row.new (w.alloc (.cells (bytesL h) 28)) (bytesL (List.replicate 32 0)) 28 rfl
  have r6 := r6.alloc (.cells (bytesL (List.replicate 32 0)) 28)
  have s1 : (w.alloc (.cells (bytesL h) 28)).heap.size = w.heap.size + 1 := by simp
  rw [s1] at r10
  have b2 := below2 w (.cells (bytesL h) 28) (.cells (bytesL (List.replicate 32 0)) 28)
  have hsH : (bytesL h).size = 32 := by rw [bytesL_size, hh.1]
  clear hv hP ht hi h64 hwo hS hh hN hbw s1
  generalize hrh : bytesL h = ch at *
  have HRH : Hid (bytesL h = ch) := hrh
  clear hrh
  go_enter Tryd.func18, Tryd.ntmps18
  go_wp2_with (go_at_call 28; refine stop ?_)
  rw [zeros32b]
  refine (way_any i n false _ HI.out.1 HI.out.2).mono ?_
  rintro e w1 ⟨us, rfl, hus, hb1⟩
  rw [HSE.out] at hus
  obtain ⟨ps, ns, cs, rfl, hns⟩ := ownsRowN_form hus
  subst hns
  have r61 := r6.later hb1
  have r101 := r10.later hb1
  have hb2 := chain b2 hb1
  have htp1 := htp.later hb2
  have hlt10 := r101.lt
  have HUS : Hid (w1.ownsRow ((w.alloc (.cells ch 28)).alloc (.cells (bytesL (List.replicate 32 0)) 28)).heap.size 56 3 (.slice ps S.length cs) S.length (sdC S)) := hus
  have HB2 : Hid (Below w.heap.size w w1) := hb2
  have HV1 : Hid (HsAt w1 (.slice pp P.length cp) P) := HV.out.later hb2
  have HT1 : Hid (Tab w1) := HT.out.later hb2
  have s0 : (0 : Int) ≤ (S.length : Int) := by omega
  have s1 : (S.length : Int) ≤ 63 := by have := HSL.out; omega
  clear hus hb1 b2 r6 r10 hb2 htp
  generalize hw0 : ((w.alloc (.cells ch 28)).alloc (.cells (bytesL (List.replicate 32 0)) 28)).heap.size = bs at *
  clear hw0
  go_wp2_with (first | (refine wpList_load_row rfl 28 _ rfl w.heap.size rfl 28 ch (0, 0) _ r61 Tryd.underlying28 rfl iH ?_) | (refine wpList_store_row rfl 28 _ _ rfl w1.heap.size ch rfl rfl 28 _ (heap_alloc_new w1 _) iH zH oH ?_; refine stop ?_))
  unfold Stop
  rw [zeros32b]
  have r14 := (Row.new w1 (bytesL (List.replicate 32 0)) 28 rfl).setRow ch
  have bz : Below w1.heap.size w1 ((w1.alloc (.cells (bytesL (List.replicate 32 0)) 28)).setRow w1.heap.size ch) := Below.row (below1 w1 _) _ (Nat.le_refl _)
  generalize (w1.alloc (.cells (bytesL (List.replicate 32 0)) 28)).setRow w1.heap.size ch = w2 at *
  have hR0 : ClR w1 w2 base (w.heap.size + 1) w1.heap.size (.pointer pt) N S P h 0 := ⟨r101.later bz, by show Row _ _ (bytesL h) _; rw [HRH.out]; exact r14, by simpa [climbN] using htp1.later bz, .of bz⟩
  clear r14 bz r61 r101 htp1 iH oH zH
  go_wp2
  go_loopw [40] (fun a wr => ∃ k : Nat, k ≤ S.length ∧ a = .int .i64 k ∧ ClR w1 wr base (w.heap.size + 1) w1.heap.size (.pointer pt) N S P h k) (fun a _ => S.length - (intOf a).toNat)
  case atStart => exact ⟨0, Nat.zero_le _, rfl, hR0⟩
  case round =>
    clear hR0
    obtain ⟨k, hk, rfl, hR⟩ := hrel
    have k0 : (0 : Int) ≤ (k : Int) := by omega
    by_cases hlt : k < S.length
    · have k1 : (k : Int) < (S.length : Int) := by omega
      have k2 : (k : Int) < (P.length : Int) := by omega
      obtain ⟨g, c2, hps, hg, hrg⟩ := own_side (ownsRow_tstep HUS.out hR.st (by decide) (by decide)) hlt
      cases hps
      have HK : Hid (k < S.length) := hlt
      have hxi : (Tryd.prog.info? 56).map (·.size) = some (S.getD k Sd.z).v.toList.length := by rw [Array.length_toList]; exact info_sd _
      have hxj := info_sd (S.getD k Sd.z)
      have hxo1 := sd_one (S.getD k Sd.z)
      clear hlt
      have HSX : Hid (∃ x, S.getD k Sd.z = x) := ⟨_, rfl⟩
      obtain ⟨x, hx⟩ := HSX.out
      rw [hx] at hrg hxi hxj hxo1
      have HXE : Hid (S.getD k Sd.z = x) := hx
      clear hx
      obtain ⟨xv, hxv⟩ : ∃ xv, x.v = xv := ⟨_, rfl⟩
      rw [hxv] at hrg hxi hxj hxo1
      have HXV : Hid (x.v = xv) := hxv
      have hsz3 : xv.size = 3 := by rw [← hxv]; rfl
      clear hxv
      go_wp2_with (first | refine wpList_load_mid rfl 56 _ rfl g (k * 3) rfl xv.toList _ hrg Tryd.underlying56 rfl hxi ?_ | (refine wpList_store_row rfl 56 _ _ rfl wr.heap.size xv rfl rfl 56 _ (heap_alloc_new wr _) hxj (by rw [hsz3]; rfl) hxo1 ?_; refine stop ?_))
      unfold Stop
      have rg := (Row.new wr #[.int .i64 0, .int .i64 0, .bool false] 56 rfl).setRow xv
      have bz : Below wr.heap.size wr ((wr.alloc (.cells #[.int .i64 0, .int .i64 0, .bool false] 56)).setRow wr.heap.size xv) := Below.row (below1 wr _) _ (Nat.le_refl _)
      generalize (wr.alloc (.cells #[.int .i64 0, .int .i64 0, .bool false] 56)).setRow wr.heap.size xv = w4 at *
      have r10 := hR.r10.later bz
      have r14 := hR.r14.later bz
      have tp4 := hR.tp.later bz
      have st4 := hR.st.trans (TStep.of (base := base) bz)
      have ok14 := climbS_32 (S := S) (P := P) HH.out k
      have HKP : Hid (k < P.length) := by have := HK.out; have := HPL.out; show _ < _; omega
      have hv4 := HV1.out.tstep st4
      obtain ⟨gp, op, hpp, hgp, hrp, okp⟩ := hv4.at HKP.out
      cases hpp
      have HSC : Hid (climbS S P h (k + 1) = hsh (joinL x (climbS S P h k) (P.getD k []))) := by rw [← HXE.out]; rfl
      have HNC : Hid (climbN S P h (k + 1) = climbN S P h k ++ [joinL x (climbS S P h k) (P.getD k [])]) := by rw [← HXE.out]; rfl
      have HNL : Hid ((N ++ climbN S P h k).length ≤ 1000) := by show _ ≤ _; rw [List.length_append, climbN_len]; have := HN.out; have := HSL.out; have := HK.out; omega
      clear hR hv4 bz hxo1 hxi hrg hsz3
      generalize climbS S P h k = hk1 at *
      generalize P.getD k [] = pk at *
      generalize climbN S P h k = nk at *
      have i14 := info_h32 ok14
      have ip := info_h32 okp
      have l14 : (Tryd.prog.info? 28).map (·.size) = some (bytesL hk1).toList.length := by rw [Array.length_toList]; exact i14
      have lp : (Tryd.prog.info? 28).map (·.size) = some (bytesL pk).toList.length := by rw [Array.length_toList]; exact ip
      have lx : (Tryd.prog.info? 56).map (·.size) = some xv.toList.length := by rw [Array.length_toList]; exact hxj
      go_wp2_with fail
      refine wp_region_D (fun i => i != 8 && i != 7) (fun w' : World => (Row w' wr.heap.size xv 56 ∧ Row w' w1.heap.size (bytesL hk1) 28) ∧ w'.rangeAt gp (op + k * 32) (bytesL pk).toList) (by kernel_rfl) ?_
      have hS : (fun w' : World => (Row w' wr.heap.size xv 56 ∧ Row w' w1.heap.size (bytesL hk1) 28) ∧ w'.rangeAt gp (op + k * 32) (bytesL pk).toList) w4.drew := ⟨⟨rg, r14⟩, by simpa using hrp⟩
      have r10d : Row w4.drew (w.heap.size + 1) (bytesL (List.replicate 32 0)) 28 := r10
      have r14d : Row w4.drew w1.heap.size (bytesL hk1) 28 := r14
      have tpd := tp4.later (Below.refl _ w4).drew
      have std := st4.trans (TStep.of (base := base) (Below.refl _ w4).drew)
      have HTd : Hid (Tab w4.drew) := HT1.out.tstep h0 std
      clear rg r10 r14 tp4 st4 hrp
      generalize w4.drew = wd at *
      refine' wpAnyD_take (i := 0) (v := _) rfl (by kernel_rfl) (by kernel_rfl) (by kernel_rfl) (by kernel_rfl) (fun _ _ _ h => h) (Or.inl ⟨by rfl, ?hy1⟩) hS ?re1
      case hy1 => (intro w hSw; (try dsimp only at hSw); go_simp; (try with_reducible rfl))
      simp only [Act.put, List.setIfInBounds_toArray, List.set_cons_zero, List.set_cons_succ]
      refine wpAnyD_take (i := 1) rfl (by kernel_rfl) (by kernel_rfl) (by kernel_rfl) (by kernel_rfl) (fun _ _ _ h => h) (yieldsIf_load_mid (by rfl) 56 _ rfl wr.heap.size 0 rfl xv.toList _ (fun w' hw' => row_range0 hw'.1.1) Tryd.underlying56 rfl lx) hS ?_
      simp only [Act.put, List.setIfInBounds_toArray, List.set_cons_zero, List.set_cons_succ]
      refine wpAnyD_take (i := 2) rfl (by kernel_rfl) (by kernel_rfl) (by kernel_rfl) (by kernel_rfl) (fun _ _ _ h => h) (yieldsIf_load_mid (by rfl) 28 _ rfl w1.heap.size 0 rfl (bytesL hk1).toList _ (fun w' hw' => row_range0 hw'.1.2) Tryd.underlying28 rfl l14) hS ?_
      simp only [Act.put, List.setIfInBounds_toArray, List.set_cons_zero, List.set_cons_succ]
      refine' wpAnyD_take (i := 3) (v := _) rfl (by kernel_rfl) (by kernel_rfl) (by kernel_rfl) (by kernel_rfl) (fun _ _ _ h => h) (Or.inl ⟨by rfl, ?hy2⟩) hS ?re2
      case hy2 => (intro w hSw; (try dsimp only at hSw); go_simp; (try with_reducible rfl))
      simp only [Act.put, List.setIfInBounds_toArray, List.set_cons_zero, List.set_cons_succ]
      refine' wpAnyD_take (i := 4) (v := _) rfl (by kernel_rfl) (by kernel_rfl) (by kernel_rfl) (by kernel_rfl) (fun _ _ _ h => h) (Or.inl ⟨by rfl, ?hy3⟩) hS ?re3
      case hy3 => (intro w hSw; (try dsimp only at hSw); go_simp; (try with_reducible rfl))
      simp only [Act.put, List.setIfInBounds_toArray, List.set_cons_zero, List.set_cons_succ]
      refine' wpAnyD_take (i := 5) (v := _) rfl (by kernel_rfl) (by kernel_rfl) (by kernel_rfl) (by kernel_rfl) (fun _ _ _ h => h) (Or.inl ⟨by rfl, ?hy4⟩) hS ?re4
      case hy4 => (intro w hSw; (try dsimp only at hSw); go_simp; (try with_reducible rfl))
      simp only [Act.put, List.setIfInBounds_toArray, List.set_cons_zero, List.set_cons_succ]
      refine wpAnyD_take (i := 6) rfl (by kernel_rfl) (by kernel_rfl) (by kernel_rfl) (by kernel_rfl) (fun _ _ _ h => h) (yieldsIf_load_mid (by rfl) 28 _ rfl gp (op + k * 32) rfl (bytesL pk).toList _ (fun w' hw' => hw'.2) Tryd.underlying28 rfl lp) hS ?_
      simp only [Act.put, List.setIfInBounds_toArray, List.set_cons_zero, List.set_cons_succ]
      have HR14 : Hid (Row wd w1.heap.size (bytesL hk1) 28) := r14d
      have HR10 : Hid (Row wd (w.heap.size + 1) (bytesL (List.replicate 32 0)) 28) := r10d
      have HTP : Hid (TpAt wd base (.pointer pt) (N ++ nk)) := tpd
      have HST : Hid (TStep base w1 wd) := std
      clear r14d r10d tpd std
      refine wpAnyD_only (i := 7) rfl (by kernel_rfl) (by rfl) (fun K hK => ?_)
      go_simp
      rw [← HXV.out]
      refine (joined_any x hk1 pk ok14 okp base _ (N ++ nk) wd HTd.out h0 (by have := HBW.out; have := HB2.out.size; have := HST.out.size; omega) HTP.out HNL.out).mono ?_
      rintro e w5 ⟨rfl, htp5, hs5⟩
      have r14e := HR14.out.tstep hs5 (by decide) (by decide)
      have r10e := HR10.out.tstep hs5 (by decide) (by decide)
      have st5 := HST.out.trans hs5
      have h32 := hsh_32 (joinL x hk1 pk)
      rw [← HSC.out] at h32 ⊢
      rw [List.append_assoc, ← HNC.out] at htp5
      have zz := (z32_size h32).symm.trans (z32_size ok14)
      refine hK.out _ _ (fun h => by cases h) ?_
      clear hK K hS
      refine wpAnyD_only (i := 8) rfl (by kernel_rfl) (by rfl) (fun K hK => ?_)
      refine wp_store_row 28 _ _ rfl w1.heap.size (bytesL (climbS S P h (k + 1))) rfl rfl 28 _ r14e (info_h32 h32) zz.symm (bytesL_one _) ?_
      refine hK.out _ _ (fun h => by cases h) ?_
      clear hK K
      refine wpAnyD_done (by kernel_rfl) ?_ _
      have hR' : ClR w1 (w5.setRow w1.heap.size (bytesL (climbS S P h (k + 1)))) base (w.heap.size + 1) w1.heap.size (.pointer pt) N S P h (k + 1) := ⟨r10e.setRowOther _ (by omega), r14e.setRow _, htp5.setNew r14e (by decide) (by decide) (by decide) _, st5.setNew (Nat.le_refl _) _⟩
      generalize w5.setRow w1.heap.size (bytesL (climbS S P h (k + 1))) = wz at *
      clear r10e r14e htp5 st5 hs5 zz h32
      go_wp2
      go_roundw
      case rel => exact ⟨k + 1, HK.out, by go_num, hR'⟩
      case measure => simp [intOf]; have := HK.out; omega
    · obtain rfl : k = S.length := by omega
      have r14 := hR.r14
      have r10 := hR.r10
      have h32 := climbS_32 (S := S) (P := P) HH.out S.length
      have i14 := info_h32 h32
      have zz := z32_size h32
      have oo := bytesL_one (climbS S P h S.length)
      have HRR : Hid (ClR w1 wr base (w.heap.size + 1) w1.heap.size (.pointer pt) N S P h S.length) := hR
      clear hR
      generalize hcl : climbS S P h S.length = H at *
      have HCL : Hid (climbS S P h S.length = H) := hcl
      clear hcl
      go_wp2_with (first | (refine wpList_load_row rfl 28 _ rfl w1.heap.size rfl 28 (bytesL H) (0, 0) _ r14 Tryd.underlying28 rfl i14 ?_) | (refine wpList_store_row rfl 28 _ _ rfl (w.heap.size + 1) (bytesL H) rfl rfl 28 _ r10 i14 zz oo ?_))
      refine bodyPost_ret (v := .tuple #[.agg (bytesL H), .bool true]) (results_cell_row2 Tryd.results18 _ _ (w.heap.size + 1) (.agg (bytesL H)) ?hp (run_loadVar_row _ (w.heap.size + 1) 28 28 (bytesL H) (0, 0) _ ?hg Tryd.underlying28 rfl i14)) rfl ⟨by rw [← HCL.out, HPL.out], ?_, ?_⟩
      case hp => rfl
      case hg => exact r10.setRow _
      · have := HRR.out.tp
        rw [HPL.out]
        exact this.setNew r10 (by decide) (by decide) (by decide) _
      · exact ((TStep.of HB2.out).trans HRR.out.st).setNew (by omega) _
end Go.Proofs.YtepohpniflmblaaDoor
