
/-
  Grown's contract, with a tape or none: for 0 < m < n, at most 64 leaves.
-/
import Derived.Test.YtepohpniflmblaaDoorClG
import Derived.Test.YtepohpniflmblaaDoorHiL
import Derived.Test.YtepohpniflmblaaDoorHeld
import Derived.Deep.DeepCutAuto
namespace Go.Proofs.YtepohpniflmblaaDoor
open Go.RowKit
set_option maxRecDepth 100000
set_option linter.unusedVariables false
set_option linter.unusedSimpArgs false

/-- What stands in memory when the first part and the hashes beside are chosen. -/
structure GrS (w0 w1 wc : World) (old young fst : List Nat) (vp : Value) (oth : List (List Nat)) : Prop where
  r9 : Row wc w0.heap.size (bytesL old) 28
  r10 : Row wc (w0.heap.size + 1) (bytesL young) 28
  r15 : Row wc w1.heap.size (bytesL fst) 28
  hs : HsAt wc vp oth
  b : Below w0.heap.size w0 wc
  b1 : Below w1.heap.size w1 wc
/-- An operation whose guard says yes. -/
theorem wpList_wG {ops : Array Oper} {rest : List Oper} {o : Oper} {a : Act} {w : World} {Q : Exit → Act → World → Prop} (hw : Region.wanted o (yielded ops a.tmps) = true) (h : o.wp Tryd.prog a w (wpList Tryd.prog ops Q rest) Q) : wpList Tryd.prog ops Q (o :: rest) a w := by
  unfold wpList
  rw [if_pos hw]
  exact Or.inl h
def GrownQ (m n : Nat) (old young : List Nat) (P : List (List Nat)) (e : Ending) : Prop := ∃ r, e = .returned (.bool r) ∧ (r = true ↔ GrownP m n old young P)
/-- The two hashes that are built up, in blocks of their own. -/
structure GrC (wc wd : World) (gA gB : Nat) (A B : List Nat) : Prop where
  rA : Row wd gA (bytesL A) 28
  rB : Row wd gB (bytesL B) 28
  ne : gA ≠ gB
  bA : wc.heap.size ≤ gA
  bB : wc.heap.size ≤ gB
  b : Below wc.heap.size wc wd
/-- What Grown's loop holds behind k sides. -/
structure GrL (wc wr : World) (base gA gB : Nat) (tv : Value) (N : List (List Nat)) (S : List Sd) (P : List (List Nat)) (h : List Nat) (k : Nat) : Prop where
  rA : Row wr gA (bytesL (befS S P h k)) 28
  rB : Row wr gB (bytesL (climbS S P h k)) 28
  tp : TpAt wr base tv (N ++ grwN S P h k)
  st : TStep base wc wr
/-- Within a round: the side lies in a block of its own. -/
structure GrM (wc wd : World) (base gA gB gs : Nat) (tv : Value) (N : List (List Nat)) (A B : List Nat) (xv : Array Value) : Prop where
  rA : Row wd gA (bytesL A) 28
  rB : Row wd gB (bytesL B) 28
  rg : Row wd gs xv 56
  tp : TpAt wd base tv N
  st : TStep base wc wd
set_option maxHeartbeats 4000000 in
theorem grown_any (m n : Nat) (old young : List Nat) (v : Value) (P : List (List Nat)) (base : Nat) (tv : Value) (N : List (List Nat)) (w : World) (hm : 0 < m) (hmn : m < n) (h64 : n ≤ 64) (ho : H32 old) (hy : H32 young) (hv : HsAt w v P) (ht : Tab w) (h0 : 0 < base) (hbw : base ≤ w.heap.size) (htp : TpAt w base tv N) (hN : N.length + 128 ≤ 1000) :
    Calls Tryd.prog 23 #[tv, .int .i64 (m : Nat), .int .i64 (n : Nat), .agg (bytesL old), .agg (bytesL young), v] w fun e w' => GrownQ m n old young P e ∧ TpAt w' base tv (N ++ grownN m n old P) ∧ TStep base w w' := by
  obtain ⟨pt, rfl⟩ := htp.form
  obtain ⟨pp, cp, rfl, hc1, hc2⟩ := hv.form
  unfold maxLen at hc2
  have HI : Hid (m - 1 < n ∧ n ≤ 64) := ⟨by omega, h64⟩
  have e1 : (m : Int) - 1 = ((m - 1 : Nat) : Int) := by omega
  have i0 : (0 : Int) < (m : Int) := by omega
  have i1 : (m : Int) < (n : Int) := by omega
  have i2 : (n : Int) ≤ 64 := by omega
  have q0 : ((m : Int) == 0) = false := by simp; omega
  have q1 : ((m : Int) == (n : Int)) = false := by simp; omega
  have q2 : decide ((m : Int) < 0) = false := by simp
  have p0 : (0 : Int) ≤ (P.length : Int) := by omega
  have p1 : (P.length : Int) ≤ 9223372036854775807 := by omega
  have HMN : Hid (0 < m ∧ m < n) := ⟨hm, hmn⟩
  have HV : Hid (HsAt w (.slice pp P.length cp) P) := hv
  have HT : Hid (Tab w) := ht
  have HTP : Hid (TpAt w base (.pointer pt) N) := htp
  have HO : Hid (H32 old) := ho
  have HY : Hid (H32 young) := hy
  have HN : Hid (N.length + 128 ≤ 1000) := hN
  have HBW : Hid (base ≤ w.heap.size) := hbw
  have r9 := Row.new w (bytesL old) 28 rfl
  have r10 := Row.new (w.alloc (.cells (bytesL old) 28)) (bytesL young) 28 rfl
  have r9 := r9.alloc (.cells (bytesL young) 28)
  have s1 : (w.alloc (.cells (bytesL old) 28)).heap.size = w.heap.size + 1 := by simp
  rw [s1] at r10
  have b2 := below2 w (.cells (bytesL old) 28) (.cells (bytesL young) 28)
  have hsO : (bytesL old).size = 32 := by rw [bytesL_size, ho.1]
  have hsY : (bytesL young).size = 32 := by rw [bytesL_size, hy.1]
  have iO := info_h32 ho
  have iY := info_h32 hy
  have zO := z32_size ho
  have oO := bytesL_one old
  clear hv ht htp ho hy hN hbw s1 hm hmn h64
  generalize hrO : bytesL old = cO at *
  generalize hrY : bytesL young = cY at *
  have HRO : Hid (bytesL old = cO) := hrO
  have HRY : Hid (bytesL young = cY) := hrY
  clear hrO hrY
  go_enter Tryd.func23, Tryd.ntmps23
  go_wp2_with (go_at_call 28; refine stop ?_)
  try rw [e1]
  refine (way_any (m - 1) n true _ HI.out.1 HI.out.2).mono ?_
  rintro e w1 ⟨us, rfl, hus, hb1⟩
  have hwo := wayL_ok _ (m - 1) true 0 n (Nat.le_refl _) (Nat.zero_le _) HI.out.1
  obtain ⟨F, hF⟩ : ∃ F, (wayL (m - 1) true 0 n).1 = F := ⟨_, rfl⟩
  obtain ⟨S, hS⟩ : ∃ S, (wayL (m - 1) true 0 n).2 = S := ⟨_, rfl⟩
  have HFE : Hid ((wayL (m - 1) true 0 n).1 = F) := hF
  have HSE : Hid ((wayL (m - 1) true 0 n).2 = S) := hS
  rw [hF] at hwo ⊢
  rw [hS] at hwo hus
  have HSL : Hid (S.length ≤ 63) := by have := hwo.2.1; have := HI.out; show _ ≤ _; omega
  have f0 : (0 : Int) ≤ (F : Int) := by omega
  have f1 : (F : Int) ≤ 64 := by have := hwo.2.2; have := HI.out; omega
  obtain ⟨ps, ns, cs, rfl, hns⟩ := ownsRowN_form hus
  subst hns
  clear hF hS hwo
  have r91 := r9.later hb1
  have r101 := r10.later hb1
  have hb2 := chain b2 hb1
  have HUS : Hid (w1.ownsRow ((w.alloc (.cells cO 28)).alloc (.cells cY 28)).heap.size 56 3 (.slice ps S.length cs) S.length (sdC S)) := hus
  have HV1 : Hid (HsAt w1 (.slice pp P.length cp) P) := HV.out.later hb2
  have HT1 : Hid (Tab w1) := HT.out.later hb2
  have s0 : (0 : Int) ≤ (S.length : Int) := by omega
  have s1 : (S.length : Int) ≤ 63 := by have := HSL.out; omega
  clear hus hb1 b2 r9 r10
  generalize hw0 : ((w.alloc (.cells cO 28)).alloc (.cells cY 28)).heap.size = bs at *
  clear hw0
  go_wp2_with (first | (refine wpList_load_row rfl 28 _ rfl w.heap.size rfl 28 cO (0, 0) _ r91 Tryd.underlying28 rfl iO ?_) | (refine wpList_store_row rfl 28 _ _ rfl w1.heap.size cO rfl rfl 28 _ (heap_alloc_new w1 _) iO zO oO ?_; refine stop ?_))
  unfold Stop
  rw [zeros32b]
  have r15 := (Row.new w1 (bytesL (List.replicate 32 0)) 28 rfl).setRow cO
  have bz : Below w1.heap.size w1 ((w1.alloc (.cells (bytesL (List.replicate 32 0)) 28)).setRow w1.heap.size cO) := Below.row (below1 w1 _) _ (Nat.le_refl _)
  generalize (w1.alloc (.cells (bytesL (List.replicate 32 0)) 28)).setRow w1.heap.size cO = w2 at *
  have HG : Hid (w.heap.size + 1 < w1.heap.size) := r101.lt
  have HS2 : Hid (GrS w w1 w2 old young old (.slice pp P.length cp) P) := ⟨by rw [HRO.out]; exact r91.later bz, by rw [HRY.out]; exact r101.later bz, by rw [HRO.out]; exact r15, HV1.out.later bz, hb2.trans (bz.mono hb2.size), bz⟩
  clear r91 r101 r15 bz hb2 HV1
  obtain ⟨bF, hbF⟩ : ∃ b, decide ((0 : Int) < (F : Int)) = b := ⟨_, rfl⟩
  obtain ⟨bP, hbP⟩ : ∃ b, decide ((0 : Int) < (P.length : Int)) = b := ⟨_, rfl⟩
  go_upto_region 7 with fail
  go_cut [61] (fun t wd => t = .bool (bF && bP) ∧ wd = w2)
  case first =>
    cases bF
    · have := of_decide_eq_false hbF
      go_wp2
      go_meet
      case rel => exact ⟨by simp, rfl⟩
    · have := of_decide_eq_true hbF
      go_wp2
      go_meet
      case rel => exact ⟨by rw [← hbP]; simp, rfl⟩
  case rest =>
    obtain ⟨rfl, hwd⟩ := hcut
    have hwd := hwd.symm
    subst hwd
    go_upto_if 61 with fail
    go_cut [16] (fun t wd => GrS w w1 wd old young (fstG F old P) t (othG F P))
    case first =>
      have HC : Hid ((bF && bP) = true ↔ 0 < F ∧ P ≠ []) := by
        show _ ↔ _
        rw [Bool.and_eq_true, ← hbF, ← hbP, decide_eq_true_iff, decide_eq_true_iff, ← List.length_pos_iff]
        omega
      clear hbF hbP
      generalize (bF && bP) = b at *
      cases b with
      | false =>
        go_wp2
        go_meet
        case rel =>
          have hn : ¬ (0 < F ∧ P ≠ []) := fun h => by have := HC.out.2 h; cases this
          unfold fstG othG
          rw [if_neg hn, if_neg hn]
          exact HS2.out
      | true =>
        have hp := HC.out.1 rfl
        have hl : 0 < P.length := List.length_pos_iff.2 hp.2
        have hl1 : (1 : Int) ≤ (P.length : Int) := by omega
        obtain ⟨gp, op, hpp, hgp, hrp, okp⟩ := HS2.out.hs.at hl
        cases hpp
        by_cases hcp : cp = 1
        · subst hcp
          rw [Nat.zero_mul, Nat.add_zero] at hrp
          obtain ⟨pk, hpk⟩ : ∃ x, P.getD 0 [] = x := ⟨_, rfl⟩
          rw [hpk] at hrp okp
          have HPK : Hid (P.getD 0 [] = pk) := hpk
          have lp : (Tryd.prog.info? 28).map (·.size) = some (bytesL pk).toList.length := by rw [Array.length_toList]; exact info_h32 okp
          have ip := info_h32 okp
          clear hpk
          go_upto_region 8 with fail
          refine wp_region_D (fun i => i == 0 || i == 1 || i == 2) (fun w' : World => w'.rangeAt gp op (bytesL pk).toList) (by kernel_rfl) ?_
          have hS : (fun w' : World => w'.rangeAt gp op (bytesL pk).toList) w2.drew := hrp
          have bd : Below w2.heap.size w2 w2.drew := (Below.refl _ w2).drew
          clear hrp
          generalize w2.drew = wd at *
          refine' wpAnyD_free (i := 3) (v := _) rfl (by kernel_rfl) (by kernel_rfl) (by rfl) (by kernel_rfl) (fun _ _ _ h => h) (Or.inl ⟨by rfl, ?hy1⟩) ?re1
          case hy1 => (intro w hSw; clear hSw; go_simp; (try with_reducible rfl))
          simp only [Act.put, List.setIfInBounds_toArray, List.set_cons_zero, List.set_cons_succ]
          refine' wpAnyD_free (i := 4) (v := _) rfl (by kernel_rfl) (by kernel_rfl) (by rfl) (by kernel_rfl) (fun _ _ _ h => h) (Or.inl ⟨by rfl, ?hy2⟩) ?re2
          case hy2 => (intro w hSw; clear hSw; go_simp; (try with_reducible rfl))
          simp only [Act.put, List.setIfInBounds_toArray, List.set_cons_zero, List.set_cons_succ]
          refine' wpAnyD_take (i := 0) (v := _) rfl (by kernel_rfl) (by kernel_rfl) (by kernel_rfl) (by kernel_rfl) (fun _ _ _ h => h) (Or.inl ⟨by rfl, ?hy3⟩) hS ?re3
          case hy3 => (intro w hSw; (try dsimp only at hSw); go_simp; (try with_reducible rfl))
          simp only [Act.put, List.setIfInBounds_toArray, List.set_cons_zero, List.set_cons_succ]
          refine' wpAnyD_take (i := 1) (v := _) rfl (by kernel_rfl) (by kernel_rfl) (by kernel_rfl) (by kernel_rfl) (fun _ _ _ h => h) (Or.inl ⟨by rfl, ?hy4⟩) hS ?re4
          case hy4 => (intro w hSw; (try dsimp only at hSw); go_simp; (try with_reducible rfl))
          simp only [Act.put, List.setIfInBounds_toArray, List.set_cons_zero, List.set_cons_succ]
          refine wpAnyD_take (i := 2) rfl (by kernel_rfl) (by kernel_rfl) (by kernel_rfl) (by kernel_rfl) (fun _ _ _ h => h) (yieldsIf_load_mid (by rfl) 28 _ rfl gp op rfl (bytesL pk).toList _ (fun w' hw' => hw') Tryd.underlying28 rfl lp) hS ?_
          simp only [Act.put, List.setIfInBounds_toArray, List.set_cons_zero, List.set_cons_succ]
          have HS3 : Hid (GrS w w1 wd old young old (.slice (some ⟨gp, op, none⟩) P.length 1) P) := ⟨HS2.out.r9.later bd, HS2.out.r10.later bd, HS2.out.r15.later bd, HS2.out.hs.later bd, HS2.out.b.trans (bd.mono HS2.out.b.size), HS2.out.b1.trans (bd.mono HS2.out.b1.size)⟩
          refine wpAnyD_only (i := 5) rfl (by kernel_rfl) (by rfl) (fun K hK => ?_)
          refine wp_store_row 28 _ _ rfl w1.heap.size (bytesL pk) rfl rfl 28 _ HS3.out.r15 ip (by rw [bytesL_size, bytesL_size, HO.out.1, okp.1]) (bytesL_one _) ?_
          refine hK.out _ _ (fun h => by cases h) ?_
          clear hK K hS
          refine wpAnyD_only (i := 6) rfl (by kernel_rfl) (by rfl) (fun K hK => ?_)
          go_simp
          refine hK.out _ _ (fun h => by cases h) ?_
          clear hK K
          refine wpAnyD_done (by kernel_rfl) ?_ _
          go_wp2_with fail
          go_meet
          case rel =>
            have hg := HG.out
            have bf := Below.row HS3.out.b (bytesL pk) (show w.heap.size ≤ w1.heap.size by omega)
            have hd := (HV.out.later bf).drop 1 (show 1 ≤ P.length by omega)
            have hf : fstG F old P = pk := by rw [fstG, if_pos hp, HPK.out]
            have ho' : othG F P = P.drop 1 := by rw [othG, if_pos hp]
            rw [hf, ho']
            refine ⟨HS3.out.r9.setRowOther _ (by omega), HS3.out.r10.setRowOther _ (by omega), HS3.out.r15.setRow _, ?_, bf, Below.row HS3.out.b1 _ (Nat.le_refl _)⟩
            first
              | (rw [if_neg hcp] at hd; exact hd)
              | (rw [show P.length - 1 = 0 by omega, if_pos rfl] at hd; exact hd)
        · skip
          rw [Nat.zero_mul, Nat.add_zero] at hrp
          obtain ⟨pk, hpk⟩ : ∃ x, P.getD 0 [] = x := ⟨_, rfl⟩
          rw [hpk] at hrp okp
          have HPK : Hid (P.getD 0 [] = pk) := hpk
          have lp : (Tryd.prog.info? 28).map (·.size) = some (bytesL pk).toList.length := by rw [Array.length_toList]; exact info_h32 okp
          have ip := info_h32 okp
          clear hpk
          go_upto_region 8 with fail
          refine wp_region_D (fun i => i == 0 || i == 1 || i == 2) (fun w' : World => w'.rangeAt gp op (bytesL pk).toList) (by kernel_rfl) ?_
          have hS : (fun w' : World => w'.rangeAt gp op (bytesL pk).toList) w2.drew := hrp
          have bd : Below w2.heap.size w2 w2.drew := (Below.refl _ w2).drew
          clear hrp
          generalize w2.drew = wd at *
          refine' wpAnyD_free (i := 3) (v := _) rfl (by kernel_rfl) (by kernel_rfl) (by rfl) (by kernel_rfl) (fun _ _ _ h => h) (Or.inl ⟨by rfl, ?hy5⟩) ?re5
          case hy5 => (intro w hSw; clear hSw; go_simp; (try with_reducible rfl))
          simp only [Act.put, List.setIfInBounds_toArray, List.set_cons_zero, List.set_cons_succ]
          refine' wpAnyD_free (i := 4) (v := _) rfl (by kernel_rfl) (by kernel_rfl) (by rfl) (by kernel_rfl) (fun _ _ _ h => h) (Or.inl ⟨by rfl, ?hy6⟩) ?re6
          case hy6 => (intro w hSw; clear hSw; go_simp; (try with_reducible rfl))
          simp only [Act.put, List.setIfInBounds_toArray, List.set_cons_zero, List.set_cons_succ]
          refine' wpAnyD_take (i := 0) (v := _) rfl (by kernel_rfl) (by kernel_rfl) (by kernel_rfl) (by kernel_rfl) (fun _ _ _ h => h) (Or.inl ⟨by rfl, ?hy7⟩) hS ?re7
          case hy7 => (intro w hSw; (try dsimp only at hSw); go_simp; (try with_reducible rfl))
          simp only [Act.put, List.setIfInBounds_toArray, List.set_cons_zero, List.set_cons_succ]
          refine' wpAnyD_take (i := 1) (v := _) rfl (by kernel_rfl) (by kernel_rfl) (by kernel_rfl) (by kernel_rfl) (fun _ _ _ h => h) (Or.inl ⟨by rfl, ?hy8⟩) hS ?re8
          case hy8 => (intro w hSw; (try dsimp only at hSw); go_simp; (try with_reducible rfl))
          simp only [Act.put, List.setIfInBounds_toArray, List.set_cons_zero, List.set_cons_succ]
          refine wpAnyD_take (i := 2) rfl (by kernel_rfl) (by kernel_rfl) (by kernel_rfl) (by kernel_rfl) (fun _ _ _ h => h) (yieldsIf_load_mid (by rfl) 28 _ rfl gp op rfl (bytesL pk).toList _ (fun w' hw' => hw') Tryd.underlying28 rfl lp) hS ?_
          simp only [Act.put, List.setIfInBounds_toArray, List.set_cons_zero, List.set_cons_succ]
          have HS3 : Hid (GrS w w1 wd old young old (.slice (some ⟨gp, op, none⟩) P.length cp) P) := ⟨HS2.out.r9.later bd, HS2.out.r10.later bd, HS2.out.r15.later bd, HS2.out.hs.later bd, HS2.out.b.trans (bd.mono HS2.out.b.size), HS2.out.b1.trans (bd.mono HS2.out.b1.size)⟩
          refine wpAnyD_only (i := 5) rfl (by kernel_rfl) (by rfl) (fun K hK => ?_)
          refine wp_store_row 28 _ _ rfl w1.heap.size (bytesL pk) rfl rfl 28 _ HS3.out.r15 ip (by rw [bytesL_size, bytesL_size, HO.out.1, okp.1]) (bytesL_one _) ?_
          refine hK.out _ _ (fun h => by cases h) ?_
          clear hK K hS
          refine wpAnyD_only (i := 6) rfl (by kernel_rfl) (by rfl) (fun K hK => ?_)
          go_simp
          refine hK.out _ _ (fun h => by cases h) ?_
          clear hK K
          refine wpAnyD_done (by kernel_rfl) ?_ _
          go_wp2_with fail
          go_meet
          case rel =>
            have hg := HG.out
            have bf := Below.row HS3.out.b (bytesL pk) (show w.heap.size ≤ w1.heap.size by omega)
            have hd := (HV.out.later bf).drop 1 (show 1 ≤ P.length by omega)
            have hf : fstG F old P = pk := by rw [fstG, if_pos hp, HPK.out]
            have ho' : othG F P = P.drop 1 := by rw [othG, if_pos hp]
            rw [hf, ho']
            refine ⟨HS3.out.r9.setRowOther _ (by omega), HS3.out.r10.setRowOther _ (by omega), HS3.out.r15.setRow _, ?_, bf, Below.row HS3.out.b1 _ (Nat.le_refl _)⟩
            first
              | (rw [if_neg hcp] at hd; exact hd)
              | (rw [show P.length - 1 = 0 by omega, if_pos rfl] at hd; exact hd)
    case rest =>
      clear HS2 hbF hbP
      have HS3 : Hid (GrS w w1 wc old young (fstG F old P) u16 (othG F P)) := hcut
      obtain ⟨po, co, hpo, hco1, hco2⟩ := hcut.hs.form
      subst hpo
      clear hcut
      have HFO : Hid (H32 (fstG F old P)) := fstG_32 HO.out (fun x hx => HV.out.ok x hx)
      obtain ⟨X, hX⟩ : ∃ X, fstG F old P = X := ⟨_, rfl⟩
      obtain ⟨O, hO⟩ : ∃ O, othG F P = O := ⟨_, rfl⟩
      have HXE : Hid (fstG F old P = X) := hX
      have HOE : Hid (othG F P = O) := hO
      rw [hX] at HS3 HFO
      rw [hO] at HS3 hco1 ⊢
      clear hX hO
      unfold maxLen at hco2
      have o0 : (0 : Int) ≤ (O.length : Int) := by omega
      have o1 : (O.length : Int) ≤ 9223372036854775807 := by omega
      have HCO : Hid (O.length ≤ co) := hco1
      clear hco1 hco2
      have hne := HS3.out.b
      by_cases hlen : O.length = S.length
      · have hq : ((O.length : Int) == (S.length : Int)) = true := by rw [hlen]; simp
        have iX := info_h32 HFO.out
        have zX := z32_size HFO.out
        have oX := bytesL_one X
        have lX : (Tryd.prog.info? 28).map (·.size) = some (bytesL X).toList.length := by rw [Array.length_toList]; exact iX
        have HLN : Hid (O.length = S.length) := hlen
        clear hlen
        go_upto_region 11 with fail
        go_cut [17, 18] (fun u v wd => ∃ gA gB, u = .pointer (some ⟨gA, 0, none⟩) ∧ v = .pointer (some ⟨gB, 0, none⟩) ∧ GrC wc wd gA gB X X)
        case first =>
          refine wp_region_D (fun _ => true) (fun w' : World => Row w' w1.heap.size (bytesL X) 28) (by kernel_rfl) ?_
          have hS : (fun w' : World => Row w' w1.heap.size (bytesL X) 28) wc.drew := HS3.out.r15
          have B0 : Below wc.heap.size wc wc.drew := (Below.refl _ wc).drew
          have hg1 : w1.heap.size < wc.drew.heap.size := Row.lt hS
          have hg2 : wc.heap.size ≤ wc.drew.heap.size := B0.size
          generalize wc.drew = v0 at *
          refine wpAnyD_take (i := 0) rfl (by kernel_rfl) (by kernel_rfl) (by kernel_rfl) (by kernel_rfl) (fun _ _ _ h => h) (yieldsIf_load_mid (by rfl) 28 _ rfl w1.heap.size 0 rfl (bytesL X).toList _ (fun w' hw' => row_range0 hw') Tryd.underlying28 rfl lX) hS ?_
          simp only [Act.put, List.setIfInBounds_toArray, List.set_cons_zero, List.set_cons_succ]
          refine wpAnyD_take (i := 1) rfl (by kernel_rfl) (by kernel_rfl) (by kernel_rfl) (by kernel_rfl) (fun _ _ _ h => h) (yieldsIf_load_mid (by rfl) 28 _ rfl w1.heap.size 0 rfl (bytesL X).toList _ (fun w' hw' => row_range0 hw') Tryd.underlying28 rfl lX) hS ?_
          simp only [Act.put, List.setIfInBounds_toArray, List.set_cons_zero, List.set_cons_succ]
          refine wpAnyD_all (rs := [2, 3]) (by kernel_rfl) (by simp) ?_
          refine AllD.cons (i := 2) rfl (by rfl) (fun K hK => ?_) ?_
          · skip
            try go_simp
            rw [zeros32b]
            have hSn : Row (v0.alloc (.cells (bytesL (List.replicate 32 0)) 28)) w1.heap.size (bytesL X) 28 := Row.alloc hS _
            refine hK.out _ _ (fun _ => hSn) ?_
            clear hK K hS
            try simp only [Act.put, List.setIfInBounds_toArray, List.set_cons_zero, List.set_cons_succ]
            have R1 := Row.new v0 (bytesL (List.replicate 32 0)) 28 rfl
            have B0' := B0.alloc B0.size (.cells (bytesL (List.replicate 32 0)) 28)
            have hS := hSn
            clear hSn
            generalize hv1 : v0.alloc (.cells (bytesL (List.replicate 32 0)) 28) = v1 at *
            have HS1 : Hid (v0.heap.size < v1.heap.size) := by show _ < _; rw [← hv1]; simp
            clear hv1
            refine wpAnyD_only (i := 3) rfl (by kernel_rfl) (by rfl) (fun K hK => ?_)
            try go_simp
            rw [zeros32b]
            have hSn : Row (v1.alloc (.cells (bytesL (List.replicate 32 0)) 28)) w1.heap.size (bytesL X) 28 := Row.alloc hS _
            refine hK.out _ _ (fun _ => hSn) ?_
            clear hK K hS
            try simp only [Act.put, List.setIfInBounds_toArray, List.set_cons_zero, List.set_cons_succ]
            have R2 := Row.new v1 (bytesL (List.replicate 32 0)) 28 rfl
            have B0'' := B0'.alloc B0'.size (.cells (bytesL (List.replicate 32 0)) 28)
            have hS := hSn
            clear hSn
            have R1' := R1.alloc (.cells (bytesL (List.replicate 32 0)) 28)
            clear R1 B0'
            generalize v1.alloc (.cells (bytesL (List.replicate 32 0)) 28) = v2 at *
            generalize v1.heap.size = g2 at *
            generalize v0.heap.size = g1 at *
            have hs1 := HS1.out
            refine wpAnyD_only (i := 4) rfl (by kernel_rfl) (by rfl) (fun K hK => ?_)
            refine wp_store_row 28 _ _ rfl g1 (bytesL X) rfl rfl 28 _ R1' iX zX oX ?_
            have hSn : Row (v2.setRow g1 (bytesL X)) w1.heap.size (bytesL X) 28 := Row.setRowOther hS _ (by omega)
            refine hK.out _ _ (fun _ => hSn) ?_
            clear hK K hS
            try simp only [Act.put, List.setIfInBounds_toArray, List.set_cons_zero, List.set_cons_succ]
            have R1'' := R1'.setRow (bytesL X)
            have R2' := R2.setRowOther (bytesL X) (show g2 ≠ g1 by omega)
            have B0''' := Below.row B0'' (bytesL X) (show wc.heap.size ≤ g1 by omega)
            have hS := hSn
            clear hSn R1' R2 B0''
            generalize v2.setRow g1 (bytesL X) = v3 at *
            refine wpAnyD_only (i := 5) rfl (by kernel_rfl) (by rfl) (fun K hK => ?_)
            refine wp_store_row 28 _ _ rfl g2 (bytesL X) rfl rfl 28 _ R2' iX zX oX ?_
            have hSn : Row (v3.setRow g2 (bytesL X)) w1.heap.size (bytesL X) 28 := Row.setRowOther hS _ (by omega)
            refine hK.out _ _ (fun _ => hSn) ?_
            clear hK K hS
            try simp only [Act.put, List.setIfInBounds_toArray, List.set_cons_zero, List.set_cons_succ]
            have R2'' := R2'.setRow (bytesL X)
            have R1''' := R1''.setRowOther (bytesL X) (show g1 ≠ g2 by omega)
            have B0'''' := Below.row B0''' (bytesL X) (show wc.heap.size ≤ g2 by omega)
            have hS := hSn
            clear hSn R2' R1'' B0'''
            generalize v3.setRow g2 (bytesL X) = v4 at *
            refine wpAnyD_done (by kernel_rfl) ?_ _
            go_wp2_with fail
            go_meet
            case rel => exact ⟨g1, g2, rfl, rfl, by assumption, by assumption, by omega, by omega, by omega, by assumption⟩
          refine AllD.cons (i := 3) rfl (by rfl) (fun K hK => ?_) AllD.nil
          try go_simp
          rw [zeros32b]
          have hSn : Row (v0.alloc (.cells (bytesL (List.replicate 32 0)) 28)) w1.heap.size (bytesL X) 28 := Row.alloc hS _
          refine hK.out _ _ (fun _ => hSn) ?_
          clear hK K hS
          try simp only [Act.put, List.setIfInBounds_toArray, List.set_cons_zero, List.set_cons_succ]
          have R1 := Row.new v0 (bytesL (List.replicate 32 0)) 28 rfl
          have B0' := B0.alloc B0.size (.cells (bytesL (List.replicate 32 0)) 28)
          have hS := hSn
          clear hSn
          generalize hv1 : v0.alloc (.cells (bytesL (List.replicate 32 0)) 28) = v1 at *
          have HS1 : Hid (v0.heap.size < v1.heap.size) := by show _ < _; rw [← hv1]; simp
          clear hv1
          refine wpAnyD_only (i := 2) rfl (by kernel_rfl) (by rfl) (fun K hK => ?_)
          try go_simp
          rw [zeros32b]
          have hSn : Row (v1.alloc (.cells (bytesL (List.replicate 32 0)) 28)) w1.heap.size (bytesL X) 28 := Row.alloc hS _
          refine hK.out _ _ (fun _ => hSn) ?_
          clear hK K hS
          try simp only [Act.put, List.setIfInBounds_toArray, List.set_cons_zero, List.set_cons_succ]
          have R2 := Row.new v1 (bytesL (List.replicate 32 0)) 28 rfl
          have B0'' := B0'.alloc B0'.size (.cells (bytesL (List.replicate 32 0)) 28)
          have hS := hSn
          clear hSn
          have R1' := R1.alloc (.cells (bytesL (List.replicate 32 0)) 28)
          clear R1 B0'
          generalize v1.alloc (.cells (bytesL (List.replicate 32 0)) 28) = v2 at *
          generalize v1.heap.size = g2 at *
          generalize v0.heap.size = g1 at *
          have hs1 := HS1.out
          refine wpAnyD_only (i := 4) rfl (by kernel_rfl) (by rfl) (fun K hK => ?_)
          refine wp_store_row 28 _ _ rfl g2 (bytesL X) rfl rfl 28 _ R2 iX zX oX ?_
          have hSn : Row (v2.setRow g2 (bytesL X)) w1.heap.size (bytesL X) 28 := Row.setRowOther hS _ (by omega)
          refine hK.out _ _ (fun _ => hSn) ?_
          clear hK K hS
          try simp only [Act.put, List.setIfInBounds_toArray, List.set_cons_zero, List.set_cons_succ]
          have R2' := R2.setRow (bytesL X)
          have R1'' := R1'.setRowOther (bytesL X) (show g1 ≠ g2 by omega)
          have B0''' := Below.row B0'' (bytesL X) (show wc.heap.size ≤ g2 by omega)
          have hS := hSn
          clear hSn R2 R1' B0''
          generalize v2.setRow g2 (bytesL X) = v3 at *
          refine wpAnyD_only (i := 5) rfl (by kernel_rfl) (by rfl) (fun K hK => ?_)
          refine wp_store_row 28 _ _ rfl g1 (bytesL X) rfl rfl 28 _ R1'' iX zX oX ?_
          have hSn : Row (v3.setRow g1 (bytesL X)) w1.heap.size (bytesL X) 28 := Row.setRowOther hS _ (by omega)
          refine hK.out _ _ (fun _ => hSn) ?_
          clear hK K hS
          try simp only [Act.put, List.setIfInBounds_toArray, List.set_cons_zero, List.set_cons_succ]
          have R1''' := R1''.setRow (bytesL X)
          have R2'' := R2'.setRowOther (bytesL X) (show g2 ≠ g1 by omega)
          have B0'''' := Below.row B0''' (bytesL X) (show wc.heap.size ≤ g1 by omega)
          have hS := hSn
          clear hSn R1'' R2' B0'''
          generalize v3.setRow g1 (bytesL X) = v4 at *
          refine wpAnyD_done (by kernel_rfl) ?_ _
          go_wp2_with fail
          go_meet
          case rel => exact ⟨g2, g1, rfl, rfl, by assumption, by assumption, by omega, by omega, by omega, by assumption⟩
        case rest =>
          obtain ⟨gA, gB, rfl, rfl, hC⟩ := hcut
          rename World => wk
          have HC : Hid (GrC wc wk gA gB X X) := hC
          have hk := HS3.out.b.trans (hC.b.mono HS3.out.b.size)
          have HR9 : Hid (Row wc w.heap.size (bytesL old) 28) := HS3.out.r9
          have HR10 : Hid (Row wc (w.heap.size + 1) (bytesL young) 28) := HS3.out.r10
          have HHS : Hid (HsAt wc (.slice po O.length co) O) := HS3.out.hs
          have HUS3 : Hid (wc.ownsRow bs 56 3 (.slice ps S.length cs) S.length (sdC S)) := ownsRowN_later HUS.out HS3.out.b1
          have HTK : Hid (Tab wc) := HT.out.later HS3.out.b
          have HBK : Hid (Below w.heap.size w wc) := HS3.out.b
          have HTPK : Hid (TpAt wk base (.pointer pt) N) := HTP.out.later hk
          have HOK : Hid (∀ x ∈ O, H32 x) := by rw [← HOE.out]; exact othG_32 (fun x hx => HV.out.ok x hx)
          have HBS : Hid (base ≤ wk.heap.size) := Nat.le_trans HBW.out hk.size
          have hAB := hC.ne
          have hA := hC.bA
          have hB := hC.bB
          have HGB : Hid (base ≤ wc.heap.size) := Nat.le_trans HBW.out HS3.out.b.size
          have hR0 : GrL wc wk base gA gB (.pointer pt) N S O X 0 := ⟨hC.rA, hC.rB, by simpa [grwN] using HTPK.out, .of hC.b⟩
          clear hk hC hq iX zX oX lX hne HS3
          go_wp2
          go_loopw [76] (fun a wr => ∃ k : Nat, k ≤ S.length ∧ a = .int .i64 k ∧ GrL wc wr base gA gB (.pointer pt) N S O X k) (fun a _ => S.length - (intOf a).toNat)
          case atStart => exact ⟨0, Nat.zero_le _, rfl, hR0⟩
          case round =>
            clear hR0
            obtain ⟨k, hk, rfl, hR⟩ := hrel
            have k0 : (0 : Int) ≤ (k : Int) := by omega
            by_cases hlt : k < S.length
            · have k1 : (k : Int) < (S.length : Int) := by omega
              have k2 : (k : Int) < (O.length : Int) := by rw [HLN.out]; exact k1
              obtain ⟨g, c2, hps, hg, hrg⟩ := own_side (ownsRow_tstep HUS3.out hR.st (by decide) (by decide)) hlt
              cases hps
              have HK : Hid (k < S.length) := hlt
              have hxi : (Tryd.prog.info? 56).map (·.size) = some (S.getD k Sd.z).v.toList.length := by rw [Array.length_toList]; exact info_sd _
              have hxj := info_sd (S.getD k Sd.z)
              have hxo1 := sd_one (S.getD k Sd.z)
              clear hlt
              have HSX : Hid (∃ x, S.getD k Sd.z = x) := ⟨_, rfl⟩
              obtain ⟨x, hx⟩ := HSX.out
              rw [hx] at hrg hxi hxj hxo1
              have HXE2 : Hid (S.getD k Sd.z = x) := hx
              clear hx
              obtain ⟨xv, hxv⟩ : ∃ xv, x.v = xv := ⟨_, rfl⟩
              rw [hxv] at hrg hxi hxj hxo1
              have HXV : Hid (x.v = xv) := hxv
              have hsz3 : xv.size = 3 := by rw [← hxv]; rfl
              have hx2 : xv[2]? = some (.bool x.l) := by rw [← hxv]; rfl
              clear hxv
              go_wp2_with (first | refine wpList_load_mid rfl 56 _ rfl g (k * 3) rfl xv.toList _ hrg Tryd.underlying56 rfl hxi ?_ | (refine wpList_store_row rfl 56 _ _ rfl wr.heap.size xv rfl rfl 56 _ (heap_alloc_new wr _) hxj (by rw [hsz3]; rfl) hxo1 ?_; refine stop ?_))
              unfold Stop
              have rg := (Row.new wr #[.int .i64 0, .int .i64 0, .bool false] 56 rfl).setRow xv
              have bz : Below wr.heap.size wr ((wr.alloc (.cells #[.int .i64 0, .int .i64 0, .bool false] 56)).setRow wr.heap.size xv) := Below.row (below1 wr _) _ (Nat.le_refl _)
              generalize (wr.alloc (.cells #[.int .i64 0, .int .i64 0, .bool false] 56)).setRow wr.heap.size xv = w4 at *
              have HKP : Hid (k < O.length) := by rw [HLN.out]; exact HK.out
              have st4 := hR.st.trans (TStep.of (base := base) bz)
              have hltA := hR.rA.lt
              have hltB := hR.rB.lt
              obtain ⟨gp, op, hpp, hgp, hrp, okp⟩ := (HHS.out.tstep st4).at HKP.out
              cases hpp
              have okA := befS_32 (S := S) (P := O) HFO.out k
              have okB := climbS_32 (S := S) (P := O) HFO.out k
              have HSB : Hid (befS S O X (k + 1) = if x.l then hsh (joinL x (befS S O X k) (O.getD k [])) else befS S O X k) := by rw [← HXE2.out]; rfl
              have HSC : Hid (climbS S O X (k + 1) = hsh (joinL x (climbS S O X k) (O.getD k []))) := by rw [← HXE2.out]; rfl
              have HNC : Hid (grwN S O X (k + 1) = grwN S O X k ++ (if x.l then [joinL x (befS S O X k) (O.getD k [])] else []) ++ [joinL x (climbS S O X k) (O.getD k [])]) := by rw [← HXE2.out]; rfl
              have HNL : Hid ((N ++ grwN S O X k).length + 1 ≤ 1000) := by show _ ≤ _; rw [List.length_append]; have := grwN_len S O X k; have := HN.out; have := HSL.out; have := HK.out; omega
              have HM : Hid (GrM wc w4 base gA gB wr.heap.size (.pointer pt) (N ++ grwN S O X k) (befS S O X k) (climbS S O X k) xv) := ⟨hR.rA.later bz, hR.rB.later bz, rg, hR.tp.later bz, st4⟩
              clear hR rg bz st4 hxo1 hxi hrg hrp
              generalize befS S O X k = A at *
              generalize climbS S O X k = B at *
              generalize hpk : O.getD k [] = pk at *
              have HPKE : Hid (O.getD k [] = pk) := hpk
              clear hpk
              generalize grwN S O X k = nk at *
              generalize wr.heap.size = gs at *
              have ip := info_h32 okp
              have lA : (Tryd.prog.info? 28).map (·.size) = some (bytesL A).toList.length := by rw [Array.length_toList]; exact info_h32 okA
              have lB : (Tryd.prog.info? 28).map (·.size) = some (bytesL B).toList.length := by rw [Array.length_toList]; exact info_h32 okB
              have lp : (Tryd.prog.info? 28).map (·.size) = some (bytesL pk).toList.length := by rw [Array.length_toList]; exact ip
              have lx : (Tryd.prog.info? 56).map (·.size) = some xv.toList.length := by rw [Array.length_toList]; exact hxj
              have c2 : w4.cell? ⟨gs, 2, none⟩ = some (.bool x.l) := (HM.out.rg.cell 2).trans hx2
              go_upto_if 82 with fail
              go_cut [] (fun wd => GrM wc wd base gA gB gs (.pointer pt) (N ++ nk ++ (if x.l = true then [joinL x A pk] else [])) (if x.l = true then hsh (joinL x A pk) else A) B xv)
              case first =>
                clear HSB HNC HSC
                generalize x.l = xl at *
                cases xl
                · go_wp2_with fail
                  go_meet
                  case rel =>
                    simp only [Bool.false_eq_true, if_false, List.append_nil]
                    exact HM.out
                · skip
                  obtain ⟨gp', op', hpp', _, hrp, _⟩ := (HHS.out.tstep HM.out.st).at HKP.out
                  cases hpp'
                  rw [HPKE.out] at hrp
                  go_upto_region 16 with fail
                  refine wp_region_D (fun i => i != 8 && i != 7) (fun w' : World => (Row w' gs xv 56 ∧ Row w' gA (bytesL A) 28) ∧ w'.rangeAt gp (op + k * 32) (bytesL pk).toList) (by kernel_rfl) ?_
                  have hS : (fun w' : World => (Row w' gs xv 56 ∧ Row w' gA (bytesL A) 28) ∧ w'.rangeAt gp (op + k * 32) (bytesL pk).toList) (World.drew w4) := ⟨⟨HM.out.rg, HM.out.rA⟩, hrp⟩
                  have HD : Hid (GrM wc (World.drew w4) base gA gB gs (.pointer pt) (N ++ nk) A B xv) := ⟨HM.out.rA, HM.out.rB, HM.out.rg, HM.out.tp.later (Below.refl _ w4).drew, HM.out.st.trans (TStep.of (base := base) (Below.refl _ w4).drew)⟩
                  clear hrp HM
                  generalize World.drew w4 = wq at *
                  refine' wpAnyD_take (i := 0) (v := _) rfl (by kernel_rfl) (by kernel_rfl) (by kernel_rfl) (by kernel_rfl) (fun _ _ _ h => h) (Or.inl ⟨by rfl, ?hy9⟩) hS ?re9
                  case hy9 => (intro w hSw; (try dsimp only at hSw); go_simp; (try with_reducible rfl))
                  simp only [Act.put, List.setIfInBounds_toArray, List.set_cons_zero, List.set_cons_succ]
                  refine wpAnyD_take (i := 1) rfl (by kernel_rfl) (by kernel_rfl) (by kernel_rfl) (by kernel_rfl) (fun _ _ _ h => h) (yieldsIf_load_mid (by rfl) 56 _ rfl gs 0 rfl xv.toList _ (fun w' hw' => row_range0 hw'.1.1) Tryd.underlying56 rfl lx) hS ?_
                  simp only [Act.put, List.setIfInBounds_toArray, List.set_cons_zero, List.set_cons_succ]
                  refine wpAnyD_take (i := 2) rfl (by kernel_rfl) (by kernel_rfl) (by kernel_rfl) (by kernel_rfl) (fun _ _ _ h => h) (yieldsIf_load_mid (by rfl) 28 _ rfl gA 0 rfl (bytesL A).toList _ (fun w' hw' => row_range0 hw'.1.2) Tryd.underlying28 rfl lA) hS ?_
                  simp only [Act.put, List.setIfInBounds_toArray, List.set_cons_zero, List.set_cons_succ]
                  refine' wpAnyD_take (i := 3) (v := _) rfl (by kernel_rfl) (by kernel_rfl) (by kernel_rfl) (by kernel_rfl) (fun _ _ _ h => h) (Or.inl ⟨by rfl, ?hy10⟩) hS ?re10
                  case hy10 => (intro w hSw; (try dsimp only at hSw); go_simp; (try with_reducible rfl))
                  simp only [Act.put, List.setIfInBounds_toArray, List.set_cons_zero, List.set_cons_succ]
                  refine' wpAnyD_take (i := 4) (v := _) rfl (by kernel_rfl) (by kernel_rfl) (by kernel_rfl) (by kernel_rfl) (fun _ _ _ h => h) (Or.inl ⟨by rfl, ?hy11⟩) hS ?re11
                  case hy11 => (intro w hSw; (try dsimp only at hSw); go_simp; (try with_reducible rfl))
                  simp only [Act.put, List.setIfInBounds_toArray, List.set_cons_zero, List.set_cons_succ]
                  refine' wpAnyD_take (i := 5) (v := _) rfl (by kernel_rfl) (by kernel_rfl) (by kernel_rfl) (by kernel_rfl) (fun _ _ _ h => h) (Or.inl ⟨by rfl, ?hy12⟩) hS ?re12
                  case hy12 => (intro w hSw; (try dsimp only at hSw); go_simp; (try with_reducible rfl))
                  simp only [Act.put, List.setIfInBounds_toArray, List.set_cons_zero, List.set_cons_succ]
                  refine wpAnyD_take (i := 6) rfl (by kernel_rfl) (by kernel_rfl) (by kernel_rfl) (by kernel_rfl) (fun _ _ _ h => h) (yieldsIf_load_mid (by rfl) 28 _ rfl gp (op + k * 32) rfl (bytesL pk).toList _ (fun w' hw' => hw'.2) Tryd.underlying28 rfl lp) hS ?_
                  simp only [Act.put, List.setIfInBounds_toArray, List.set_cons_zero, List.set_cons_succ]
                  refine wpAnyD_only (i := 7) rfl (by kernel_rfl) (by rfl) (fun K hK => ?_)
                  go_simp
                  rw [← HXV.out]
                  refine (joined_any x A pk okA okp base _ (N ++ nk) wq (HTK.out.tstep h0 HD.out.st) h0 (Nat.le_trans HGB.out HD.out.st.size) HD.out.tp (by have := HNL.out; omega)).mono ?_
                  rintro e w5 ⟨rfl, htp5, hs5⟩
                  have h32 := hsh_32 (joinL x A pk)
                  have zz := (z32_size h32).symm.trans (z32_size okA)
                  refine hK.out _ _ (fun h => by cases h) ?_
                  clear hK K hS
                  generalize hH : hsh (joinL x A pk) = H at *
                  have HH : Hid (hsh (joinL x A pk) = H) := hH
                  clear hH
                  refine wpAnyD_only (i := 8) rfl (by kernel_rfl) (by rfl) (fun K hK => ?_)
                  refine wp_store_row 28 _ _ rfl gA (bytesL H) rfl rfl 28 _ (HD.out.rA.tstep hs5 (by decide) (by decide)) (info_h32 h32) zz.symm (bytesL_one _) ?_
                  refine hK.out _ _ (fun h => by cases h) ?_
                  clear hK K
                  refine wpAnyD_done (by kernel_rfl) ?_ _
                  go_wp2_with fail
                  go_meet
                  case rel =>
                    simp only [if_true]
                    have ra := HD.out.rA.tstep hs5 (by decide) (by decide)
                    exact ⟨ra.setRow _, (HD.out.rB.tstep hs5 (by decide) (by decide)).setRowOther _ (by omega), (HD.out.rg.tstep hs5 (by decide) (by decide)).setRowOther _ (by omega), htp5.setNew ra (by decide) (by decide) (by decide) _, (HD.out.st.trans hs5).setNew hA _⟩
              case rest =>
                rename World => w6
                obtain ⟨A2, hA2⟩ : ∃ y, (if x.l = true then hsh (joinL x A pk) else A) = y := ⟨_, rfl⟩
                obtain ⟨N2, hN2⟩ : ∃ y, N ++ nk ++ (if x.l = true then [joinL x A pk] else []) = y := ⟨_, rfl⟩
                have HN2 : Hid (N ++ grwN S O X (k + 1) = N2 ++ [joinL x B pk]) := by show _ = _; rw [HNC.out, ← hN2]; simp only [List.append_assoc]
                have HNL2 : Hid (N2.length ≤ 1000) := by
                  show _ ≤ _
                  have := HNL.out
                  rw [← hN2, List.length_append]
                  split
                  · simp only [List.length_cons, List.length_nil]; omega
                  · simp only [List.length_nil]; omega
                have hSB := HSB.out
                rw [hA2] at hSB hcut
                rw [hN2] at hcut
                have HA2 : Hid (befS S O X (k + 1) = A2) := hSB
                clear hSB HSB HNC HNL hA2 hN2 HM c2
                have HM : Hid (GrM wc w6 base gA gB gs (.pointer pt) N2 A2 B xv) := hcut
                clear hcut
                obtain ⟨gp', op', hpp', _, hrp, _⟩ := (HHS.out.tstep HM.out.st).at HKP.out
                cases hpp'
                rw [HPKE.out] at hrp
                go_upto_region 17 with fail
                refine wp_region_D (fun i => i != 8 && i != 7) (fun w' : World => (Row w' gs xv 56 ∧ Row w' gB (bytesL B) 28) ∧ w'.rangeAt gp (op + k * 32) (bytesL pk).toList) (by kernel_rfl) ?_
                have hS : (fun w' : World => (Row w' gs xv 56 ∧ Row w' gB (bytesL B) 28) ∧ w'.rangeAt gp (op + k * 32) (bytesL pk).toList) (World.drew w6) := ⟨⟨HM.out.rg, HM.out.rB⟩, hrp⟩
                have HD : Hid (GrM wc (World.drew w6) base gA gB gs (.pointer pt) (N2) A2 B xv) := ⟨HM.out.rA, HM.out.rB, HM.out.rg, HM.out.tp.later (Below.refl _ w6).drew, HM.out.st.trans (TStep.of (base := base) (Below.refl _ w6).drew)⟩
                clear hrp HM
                generalize World.drew w6 = wq at *
                refine' wpAnyD_take (i := 0) (v := _) rfl (by kernel_rfl) (by kernel_rfl) (by kernel_rfl) (by kernel_rfl) (fun _ _ _ h => h) (Or.inl ⟨by rfl, ?hy13⟩) hS ?re13
                case hy13 => (intro w hSw; (try dsimp only at hSw); go_simp; (try with_reducible rfl))
                simp only [Act.put, List.setIfInBounds_toArray, List.set_cons_zero, List.set_cons_succ]
                refine wpAnyD_take (i := 1) rfl (by kernel_rfl) (by kernel_rfl) (by kernel_rfl) (by kernel_rfl) (fun _ _ _ h => h) (yieldsIf_load_mid (by rfl) 56 _ rfl gs 0 rfl xv.toList _ (fun w' hw' => row_range0 hw'.1.1) Tryd.underlying56 rfl lx) hS ?_
                simp only [Act.put, List.setIfInBounds_toArray, List.set_cons_zero, List.set_cons_succ]
                refine wpAnyD_take (i := 2) rfl (by kernel_rfl) (by kernel_rfl) (by kernel_rfl) (by kernel_rfl) (fun _ _ _ h => h) (yieldsIf_load_mid (by rfl) 28 _ rfl gB 0 rfl (bytesL B).toList _ (fun w' hw' => row_range0 hw'.1.2) Tryd.underlying28 rfl lB) hS ?_
                simp only [Act.put, List.setIfInBounds_toArray, List.set_cons_zero, List.set_cons_succ]
                refine' wpAnyD_take (i := 3) (v := _) rfl (by kernel_rfl) (by kernel_rfl) (by kernel_rfl) (by kernel_rfl) (fun _ _ _ h => h) (Or.inl ⟨by rfl, ?hy14⟩) hS ?re14
                case hy14 => (intro w hSw; (try dsimp only at hSw); go_simp; (try with_reducible rfl))
                simp only [Act.put, List.setIfInBounds_toArray, List.set_cons_zero, List.set_cons_succ]
                refine' wpAnyD_take (i := 4) (v := _) rfl (by kernel_rfl) (by kernel_rfl) (by kernel_rfl) (by kernel_rfl) (fun _ _ _ h => h) (Or.inl ⟨by rfl, ?hy15⟩) hS ?re15
                case hy15 => (intro w hSw; (try dsimp only at hSw); go_simp; (try with_reducible rfl))
                simp only [Act.put, List.setIfInBounds_toArray, List.set_cons_zero, List.set_cons_succ]
                refine' wpAnyD_take (i := 5) (v := _) rfl (by kernel_rfl) (by kernel_rfl) (by kernel_rfl) (by kernel_rfl) (fun _ _ _ h => h) (Or.inl ⟨by rfl, ?hy16⟩) hS ?re16
                case hy16 => (intro w hSw; (try dsimp only at hSw); go_simp; (try with_reducible rfl))
                simp only [Act.put, List.setIfInBounds_toArray, List.set_cons_zero, List.set_cons_succ]
                refine wpAnyD_take (i := 6) rfl (by kernel_rfl) (by kernel_rfl) (by kernel_rfl) (by kernel_rfl) (fun _ _ _ h => h) (yieldsIf_load_mid (by rfl) 28 _ rfl gp (op + k * 32) rfl (bytesL pk).toList _ (fun w' hw' => hw'.2) Tryd.underlying28 rfl lp) hS ?_
                simp only [Act.put, List.setIfInBounds_toArray, List.set_cons_zero, List.set_cons_succ]
                refine wpAnyD_only (i := 7) rfl (by kernel_rfl) (by rfl) (fun K hK => ?_)
                go_simp
                rw [← HXV.out]
                refine (joined_any x B pk okB okp base _ (N2) wq (HTK.out.tstep h0 HD.out.st) h0 (Nat.le_trans HGB.out HD.out.st.size) HD.out.tp HNL2.out).mono ?_
                rintro e w5 ⟨rfl, htp5, hs5⟩
                have h32 := hsh_32 (joinL x B pk)
                have zz := (z32_size h32).symm.trans (z32_size okB)
                refine hK.out _ _ (fun h => by cases h) ?_
                clear hK K hS
                generalize hH : hsh (joinL x B pk) = H at *
                have HH : Hid (hsh (joinL x B pk) = H) := hH
                clear hH
                refine wpAnyD_only (i := 8) rfl (by kernel_rfl) (by rfl) (fun K hK => ?_)
                refine wp_store_row 28 _ _ rfl gB (bytesL H) rfl rfl 28 _ (HD.out.rB.tstep hs5 (by decide) (by decide)) (info_h32 h32) zz.symm (bytesL_one _) ?_
                refine hK.out _ _ (fun h => by cases h) ?_
                clear hK K
                refine wpAnyD_done (by kernel_rfl) ?_ _
                have rb := HD.out.rB.tstep hs5 (by decide) (by decide)
                have hR' : GrL wc (w5.setRow gB (bytesL H)) base gA gB (.pointer pt) N S O X (k + 1) := ⟨by rw [HA2.out]; exact (HD.out.rA.tstep hs5 (by decide) (by decide)).setRowOther _ hAB, by rw [HSC.out]; exact rb.setRow _, by rw [HN2.out]; exact htp5.setNew rb (by decide) (by decide) (by decide) _, (HD.out.st.trans hs5).setNew hB _⟩
                generalize w5.setRow gB (bytesL H) = wz at *
                clear rb htp5 hs5 HD
                go_wp2
                go_roundw
                case rel => exact ⟨k + 1, HK.out, by go_num, hR'⟩
                case measure => simp [intOf]; have := HK.out; omega
            · obtain rfl : k = S.length := by omega
              have rA := hR.rA
              have rB := hR.rB
              have r9 := HR9.out.tstep hR.st (by decide) (by decide)
              have r10 := HR10.out.tstep hR.st (by decide) (by decide)
              have okA := befS_32 (S := S) (P := O) HFO.out S.length
              have okB := climbS_32 (S := S) (P := O) HFO.out S.length
              have HRR : Hid (TpAt wr base (.pointer pt) (N ++ grwN S O X S.length) ∧ TStep base wc wr) := ⟨hR.tp, hR.st⟩
              have HGP : Hid (GrownP m n old young P ↔ befS S O X S.length = old ∧ climbS S O X S.length = young) := by
                show _ ↔ _
                unfold GrownP
                rw [HFE.out, HSE.out, HOE.out, HXE.out]
                exact ⟨fun h => h.2, fun h => ⟨HLN.out, h⟩⟩
              have HGN : Hid (grownN m n old P = grwN S O X S.length) := by
                show _ = _
                unfold grownN
                rw [HFE.out, HSE.out, HOE.out, HXE.out, if_pos HLN.out]
              have hfin : TStep base w wr := (TStep.of HBK.out).trans hR.st
              have HFIN : Hid (TStep base w wr) := hfin
              clear hR hfin
              generalize befS S O X S.length = A at *
              generalize climbS S O X S.length = B at *
              have hE1 := hash_eql A old okA.1 HO.out.1
              have hE2 := hash_eql B young okB.1 HY.out.1
              obtain ⟨p, hp⟩ : ∃ p, decide (A = old) = p := ⟨_, rfl⟩
              obtain ⟨q, hq⟩ : ∃ q, decide (B = young) = q := ⟨_, rfl⟩
              rw [hp] at hE1
              rw [hq] at hE2
              have HPQ : Hid ((p && q) = true ↔ GrownP m n old young P) := by
                show _ ↔ _
                rw [HGP.out, ← hp, ← hq]
                simp
              have iA := info_h32 okA
              have iB := info_h32 okB
              have iO := info_h32 HO.out
              have iY := info_h32 HY.out
              clear hp hq
              cases p with
              | false =>
                go_wp2_with (first | (refine wpList_load_row rfl 28 _ rfl gA rfl 28 (bytesL A) (0, 0) _ rA Tryd.underlying28 rfl iA ?_) | (refine wpList_load_row rfl 28 _ rfl w.heap.size rfl 28 (bytesL old) (0, 0) _ r9 Tryd.underlying28 rfl iO ?_))
                go_ret
                refine ⟨⟨false, by rfl, by have := HPQ.out; rw [Bool.false_and] at this; exact this⟩, ?_, HFIN.out⟩
                rw [HGN.out]
                exact HRR.out.1
              | true =>
                go_wp2_with (first | (refine wpList_load_row rfl 28 _ rfl gA rfl 28 (bytesL A) (0, 0) _ rA Tryd.underlying28 rfl iA ?_) | (refine wpList_load_row rfl 28 _ rfl w.heap.size rfl 28 (bytesL old) (0, 0) _ r9 Tryd.underlying28 rfl iO ?_) | refine wpList_wG (by rfl) (wp_load_row 28 _ rfl gB rfl 28 (bytesL B) (0, 0) _ rB Tryd.underlying28 rfl iB ?_) | refine wpList_wG (by rfl) (wp_load_row 28 _ rfl (w.heap.size + 1) rfl 28 (bytesL young) (0, 0) _ r10 Tryd.underlying28 rfl iY ?_))
                go_ret
                refine ⟨⟨q, by rfl, by have := HPQ.out; rw [Bool.true_and] at this; exact this⟩, ?_, HFIN.out⟩
                rw [HGN.out]
                exact HRR.out.1
      · have hq : ((O.length : Int) == (S.length : Int)) = false := by simp; omega
        have hq' : ((O.length : Int) != (S.length : Int)) = true := by simp; omega
        go_wp2
        go_ret
        refine ⟨⟨false, by rfl, by simp only [Bool.false_eq_true, false_iff]; rintro ⟨h, _⟩; rw [HFE.out, HSE.out, HOE.out] at h; exact hlen h⟩, ?_, .of hne⟩
        have : grownN m n old P = [] := by
          unfold grownN
          rw [HFE.out, HSE.out, HOE.out, if_neg hlen]
        rw [this, List.append_nil]
        exact HTP.out.later hne
end Go.Proofs.YtepohpniflmblaaDoor
