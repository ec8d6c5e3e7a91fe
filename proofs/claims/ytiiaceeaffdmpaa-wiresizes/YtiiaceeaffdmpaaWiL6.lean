
/-
  The walk of WireSizes.
-/
import Derived.Test.YtiiaceeaffdmpaaWiL3
import Derived.Test.YtiiaceeaffdmpaaWiMp
namespace Go.Proofs.Ytiiaceeaffdmpaa
open Go.RowKit
set_option maxRecDepth 100000
set_option linter.unusedSimpArgs false
set_option linter.unusedVariables false

theorem intB1 (k : Nat) (h : k < 256) : intB 1 (k : Nat) = [k] := by
  unfold intB
  rw [low64 k (by omega)]
  simp [enc]
  omega
theorem first_byte (k : Nat) (h : k < 256) (m : List Nat) : (intB 1 (k : Nat) ++ m).getD 0 0 = k := by rw [intB1 k h]; rfl

set_option maxHeartbeats 8000000 in
theorem sizes_walk (v : Value) (q : RIn) (w : World) (h : RInAt w v q ∧ (q.acs.length ≤ 1000000000000000 ∧ q.trs.length ≤ 1000000000000000)) :
    Calls Try.prog 8 #[v] w fun e w' => e = .returned (.bool true) ∧ Below w.heap.size w w' := by
  obtain ⟨h, hl1, hl2⟩ := h
  obtain ⟨cs, rfl, hcs⟩ := h.row
  have hinf := info_rq' hcs
  have r0 := Row.new w cs 28 rfl
  clear hcs
  go_enter Try.func8, Try.ntmps8
  go_wp2_with (go_at_call 11; refine stop ?_)
  refine (fit_any _).mono ?_
  rintro e w1 ⟨rfl, hb1⟩
  have r1 := r0.later hb1
  have B1 := chain (below1 w _) hb1
  clear r0 hb1
  go_wp2_with (first | refine wpList_load_row rfl 28 _ rfl w.heap.size rfl 28 cs (0, 0) _ r1 Try.underlying28 rfl hinf ?_ | (go_at_call 12; refine stop ?_))
  refine (light_any (.agg cs) q w1 (h.later B1) hl1 hl2).mono ?_
  rintro e w2 ⟨rfl, hb2⟩
  have r2 := r1.later hb2
  have B2 := chain B1 hb2
  clear r1 hb2
  cases hl : q.light with
  | false =>
    go_wp2
    go_ret
    exact ⟨rfl, B2⟩
  | true =>
    obtain ⟨n1, n2⟩ := light_len hl
    have hgood := tame_good q h.aok h.tok h.w
    go_wp2_with (first | refine wpList_load_row rfl 28 _ rfl w.heap.size rfl 28 cs (0, 0) _ r2 Try.underlying28 rfl hinf ?_ | (go_at_call 13; refine stop ?_))
    refine (tame_any (.agg cs) q w2 (h.later B2) n1 n2).mono ?_
    obtain ⟨t1, t2⟩ := Rq.good_len hgood
    obtain ⟨by1, by2⟩ := Rq.good_bytes hgood
    have hw8 := good_w8 q.tame
    generalize q.tame = Q at *
    rintro e w3 ⟨u3, rfl, hq3, hb3⟩
    obtain ⟨c3, rfl, hs3, ho3⟩ := hq3.row
    have r3 := r2.later hb3
    have B3 := chain B2 hb3
    have zA : w.heap.size < w2.heap.size := r2.lt
    have r4 := r3.setRow c3
    have B4 : Below w.heap.size w (w3.setRow w.heap.size c3) := Below.row B3 _ (Nat.le_refl _)
    have hq4 : RqAt (w3.setRow w.heap.size c3) w2.heap.size (.agg c3) Q := hq3.keep (Nat.le_refl _) (fun k hk _ => setRow_other _ _ _ _ (by omega))
    go_wp2_with (refine wpList_store_row rfl 28 _ _ rfl w.heap.size c3 rfl rfl 28 _ r3 (info_rq' hs3) (by rw [hs3]; simpa using (Option.some.inj (hinf.symm.trans info_rq))) ho3 ?_; refine stop ?_)
    unfold Stop
    have hinf3 := info_rq' hs3
    clear r2 r3 B3 hb3 hq3 hinf h
    generalize w3.setRow w.heap.size c3 = w4 at *
    have zA4 : w.heap.size < w4.heap.size := r4.lt
    obtain ⟨va, vt, hcw, ha, ht⟩ := id hq4
    cases hcw
    obtain ⟨pva, nva, cva, rfl, hnva⟩ := ownsRow_form ha
    obtain ⟨pvt, nvt, cvt, rfl, hnvt⟩ := ownsRow_form ht
    have e0 : w4.cell? ⟨w.heap.size, 0, none⟩ = some (.int .i64 (Q.kind : Nat)) := r4.cell 0
    have e1 : w4.cell? ⟨w.heap.size, 1, none⟩ = some (.slice pva nva cva) := r4.cell 1
    have e2 : w4.cell? ⟨w.heap.size, 2, none⟩ = some (.slice pvt nvt cvt) := r4.cell 2
    have a0 : (0 : Int) ≤ (nva : Int) := by omega
    have a1 : (nva : Int) ≤ 1000 := by omega
    have b0 : (0 : Int) ≤ (nvt : Int) := by omega
    have b1 : (nvt : Int) ≤ 1000 := by omega
    have HN : Hid (nva = Q.acs.length) := hnva
    have HM : Hid (nvt = Q.trs.length) := hnvt
    clear hnva hnvt ha ht
    rcases id hgood with ⟨L, rfl, hL, _⟩ | ⟨L, rfl, hL, _⟩ | ⟨x, rfl, _⟩ | ⟨k, hi, lo, rfl, hk, _⟩ | ⟨k, hi, lo, fr, to, lim, rfl, hk, _⟩ | ⟨fr, to, rfl, _⟩
    ·
      go_wp2_with (first | (refine wpList_makeMap rfl rfl ?_; intro wm hM hB; have d0 := (hB.cell (p := ⟨w.heap.size, 0, none⟩) zA4).trans e0; have d1 := (hB.cell (p := ⟨w.heap.size, 1, none⟩) zA4).trans e1; have d2 := (hB.cell (p := ⟨w.heap.size, 2, none⟩) zA4).trans e2) | (refine wpList_insert rfl _ _ _ rfl w4.heap.size rfl _ hM _ _ rfl rfl (by simp) ?_; intro wn hMn hEn; replace hM := hMn; simp only [List.nil_append, List.cons_append] at hM; replace hB := hB.trans (hEn.below hB.size (Nat.le_refl _)); clear d0 d1 d2 hMn hEn; have d0 := (hB.cell (p := ⟨w.heap.size, 0, none⟩) zA4).trans e0; have d1 := (hB.cell (p := ⟨w.heap.size, 1, none⟩) zA4).trans e1; have d2 := (hB.cell (p := ⟨w.heap.size, 2, none⟩) zA4).trans e2) | (refine wpList_lookup rfl _ _ rfl w4.heap.size rfl _ hM 1 (2 + 22 * (nva : Int)) rfl ⟨0, rfl⟩ ?_; refine stop ?_))
      unfold Stop
      clear hM d0 d1 d2 e0 e1 e2
      have hqn := hq4.keep (Nat.le_refl _) (fun k _ hk => hB.block k hk)
      have rn := r4.later hB
      have Bn := chain B4 hB
      clear r4 hq4 B4
      go_wp2_with (first | refine wpList_load_row rfl 28 _ rfl w.heap.size rfl 28 _ (0, 0) _ rn Try.underlying28 rfl hinf3 ?_ | (go_at_call 14; refine stop ?_))
      refine (request_any _ _ w2.heap.size wn hqn hgood).mono ?_
      rintro e w5 ⟨vb, rfl, ob, hb5⟩
      have r5 := rn.later hb5
      have B5 := chain Bn hb5
      have hby := ob.bytes hw8 (by unfold maxLen; omega)
      clear rn hqn Bn hb5
      obtain ⟨pb, nb, cb, rfl, hnb⟩ := ob.form
      obtain ⟨_, _, p', c', ee, hc⟩ := hby
      injection ee with i1 i2 i3
      subst i1
      clear i2 i3
      obtain ⟨bb, off, rfl, _, c0⟩ := hc 0 (by omega)
      rw [show Rq.bytes _ = _ from rfl] at c0
      unfold Rq.bytes at c0
      dsimp only at c0
      rw [Nat.add_zero, first_byte 1 (by decide)] at c0
      have hN' := HN.out
      have hM' := HM.out
      have hwant : ((nb : Int) == 2 + 22 * (nva : Int)) = true := by
        rw [hnb]
        simp [Rq.bytes, Rq.body, intB_len, flat_len Ac.bytes 22 Ac.bytes_len] at hN' ⊢; omega
      have nb0 : (0 : Int) < (nb : Int) := by omega
      have nb1 : (nb : Int) ≤ 1000 := by omega
      have nbn : 0 < nb := by omega
      clear hc ob hnb hN' hM'
      go_wp2_with fail
      refine wp_region_D (fun _ => true) (fun w' : World => w'.cell? ⟨bb, off, none⟩ = some (.int .u8 1) ∧ w'.cell? ⟨w.heap.size, 0, none⟩ = some (.int .i64 1)) (by kernel_rfl) ?_
      have hS : (fun w' : World => w'.cell? ⟨bb, off, none⟩ = some (.int .u8 1) ∧ w'.cell? ⟨w.heap.size, 0, none⟩ = some (.int .i64 1)) w5.drew := ⟨c0, r5.cell 0⟩
      have Bd : Below w.heap.size w w5.drew := B5.drew
      clear r5 c0 B5
      generalize w5.drew = w6 at *
      refine' wpAnyD_take (i := 0) (v := _) rfl (by kernel_rfl) (by kernel_rfl) (by kernel_rfl) (by kernel_rfl) (fun _ _ _ h => h) (Or.inl ⟨by rfl, ?hy1⟩) hS ?re1
      case hy1 => (intro w hSw; (try dsimp only at hSw); go_simp; (try with_reducible rfl))
      simp only [Act.put, List.setIfInBounds_toArray, List.set_cons_zero, List.set_cons_succ]
      refine' wpAnyD_take (i := 1) (v := _) rfl (by kernel_rfl) (by kernel_rfl) (by kernel_rfl) (by kernel_rfl) (fun _ _ _ h => h) (Or.inl ⟨by rfl, ?hy2⟩) hS ?re2
      case hy2 => (intro w hSw; (try dsimp only at hSw); go_simp; (try with_reducible rfl))
      simp only [Act.put, List.setIfInBounds_toArray, List.set_cons_zero, List.set_cons_succ]
      refine' wpAnyD_take (i := 2) (v := _) rfl (by kernel_rfl) (by kernel_rfl) (by kernel_rfl) (by kernel_rfl) (fun _ _ _ h => h) (Or.inl ⟨by rfl, ?hy3⟩) hS ?re3
      case hy3 => (intro w hSw; (try dsimp only at hSw); go_simp; (try with_reducible rfl))
      simp only [Act.put, List.setIfInBounds_toArray, List.set_cons_zero, List.set_cons_succ]
      refine' wpAnyD_take (i := 3) (v := _) rfl (by kernel_rfl) (by kernel_rfl) (by kernel_rfl) (by kernel_rfl) (fun _ _ _ h => h) (Or.inl ⟨by rfl, ?hy4⟩) hS ?re4
      case hy4 => (intro w hSw; (try dsimp only at hSw); go_simp; (try with_reducible rfl))
      simp only [Act.put, List.setIfInBounds_toArray, List.set_cons_zero, List.set_cons_succ]
      try rw [hwant]
      refine' wpAnyD_take (i := 4) (v := _) rfl (by kernel_rfl) (by kernel_rfl) (by kernel_rfl) (by kernel_rfl) (fun _ _ _ h => h) (Or.inl ⟨by rfl, ?hy5⟩) hS ?re5
      case hy5 => (intro w hSw; (try dsimp only at hSw); go_simp; (try with_reducible rfl))
      simp only [Act.put, List.setIfInBounds_toArray, List.set_cons_zero, List.set_cons_succ]
      refine' wpAnyD_take (i := 5) (v := _) rfl (by kernel_rfl) (by kernel_rfl) (by kernel_rfl) (by kernel_rfl) (fun _ _ _ h => h) (Or.inl ⟨by rfl, ?hy6⟩) hS ?re6
      case hy6 => (intro w hSw; (try dsimp only at hSw); go_simp; (try with_reducible rfl))
      simp only [Act.put, List.setIfInBounds_toArray, List.set_cons_zero, List.set_cons_succ]
      refine' wpAnyD_take (i := 6) (v := _) rfl (by kernel_rfl) (by kernel_rfl) (by kernel_rfl) (by kernel_rfl) (fun _ _ _ h => h) (Or.inl ⟨by rfl, ?hy7⟩) hS ?re7
      case hy7 => (intro w hSw; (try dsimp only at hSw); go_simp; (try with_reducible rfl))
      simp only [Act.put, List.setIfInBounds_toArray, List.set_cons_zero, List.set_cons_succ]
      refine' wpAnyD_take (i := 7) (v := _) rfl (by kernel_rfl) (by kernel_rfl) (by kernel_rfl) (by kernel_rfl) (fun _ _ _ h => h) (Or.inl ⟨by rfl, ?hy8⟩) hS ?re8
      case hy8 => (intro w hSw; (try dsimp only at hSw); go_simp; (try with_reducible rfl))
      simp only [Act.put, List.setIfInBounds_toArray, List.set_cons_zero, List.set_cons_succ]
      refine' wpAnyD_take (i := 8) (v := _) rfl (by kernel_rfl) (by kernel_rfl) (by kernel_rfl) (by kernel_rfl) (fun _ _ _ h => h) (Or.inl ⟨by rfl, ?hy9⟩) hS ?re9
      case hy9 => (intro w hSw; (try dsimp only at hSw); go_simp; (try with_reducible rfl))
      simp only [Act.put, List.setIfInBounds_toArray, List.set_cons_zero, List.set_cons_succ]
      refine' wpAnyD_take (i := 9) (v := _) rfl (by kernel_rfl) (by kernel_rfl) (by kernel_rfl) (by kernel_rfl) (fun _ _ _ h => h) (Or.inl ⟨by rfl, ?hy10⟩) hS ?re10
      case hy10 => (intro w hSw; (try dsimp only at hSw); go_simp; (try with_reducible rfl))
      simp only [Act.put, List.setIfInBounds_toArray, List.set_cons_zero, List.set_cons_succ]
      refine' wpAnyD_take (i := 10) (v := _) rfl (by kernel_rfl) (by kernel_rfl) (by kernel_rfl) (by kernel_rfl) (fun _ _ _ h => h) (Or.inl ⟨by rfl, ?hy11⟩) hS ?re11
      case hy11 => (intro w hSw; (try dsimp only at hSw); go_simp; (try with_reducible rfl))
      simp only [Act.put, List.setIfInBounds_toArray, List.set_cons_zero, List.set_cons_succ]
      refine' wpAnyD_take (i := 11) (v := _) rfl (by kernel_rfl) (by kernel_rfl) (by kernel_rfl) (by kernel_rfl) (fun _ _ _ h => h) (Or.inl ⟨by rfl, ?hy12⟩) hS ?re12
      case hy12 => (intro w hSw; (try dsimp only at hSw); go_simp; (try with_reducible rfl))
      simp only [Act.put, List.setIfInBounds_toArray, List.set_cons_zero, List.set_cons_succ]
      refine' wpAnyD_take (i := 12) (v := _) rfl (by kernel_rfl) (by kernel_rfl) (by kernel_rfl) (by kernel_rfl) (fun _ _ _ h => h) (Or.inl ⟨by rfl, ?hy13⟩) hS ?re13
      case hy13 => (intro w hSw; (try dsimp only at hSw); go_simp; (try with_reducible rfl))
      simp only [Act.put, List.setIfInBounds_toArray, List.set_cons_zero, List.set_cons_succ]
      refine' wpAnyD_take (i := 13) (v := _) rfl (by kernel_rfl) (by kernel_rfl) (by kernel_rfl) (by kernel_rfl) (fun _ _ _ h => h) (Or.inl ⟨by rfl, ?hy14⟩) hS ?re14
      case hy14 => (intro w hSw; (try dsimp only at hSw); go_simp; (try with_reducible rfl))
      simp only [Act.put, List.setIfInBounds_toArray, List.set_cons_zero, List.set_cons_succ]
      refine wpAnyD_done (by kernel_rfl) ?_ _
      go_wp2
      go_ret
      exact ⟨rfl, Bd⟩
    ·
      go_wp2_with (first | (refine wpList_makeMap rfl rfl ?_; intro wm hM hB; have d0 := (hB.cell (p := ⟨w.heap.size, 0, none⟩) zA4).trans e0; have d1 := (hB.cell (p := ⟨w.heap.size, 1, none⟩) zA4).trans e1; have d2 := (hB.cell (p := ⟨w.heap.size, 2, none⟩) zA4).trans e2) | (refine wpList_insert rfl _ _ _ rfl w4.heap.size rfl _ hM _ _ rfl rfl (by simp) ?_; intro wn hMn hEn; replace hM := hMn; simp only [List.nil_append, List.cons_append] at hM; replace hB := hB.trans (hEn.below hB.size (Nat.le_refl _)); clear d0 d1 d2 hMn hEn; have d0 := (hB.cell (p := ⟨w.heap.size, 0, none⟩) zA4).trans e0; have d1 := (hB.cell (p := ⟨w.heap.size, 1, none⟩) zA4).trans e1; have d2 := (hB.cell (p := ⟨w.heap.size, 2, none⟩) zA4).trans e2) | (refine wpList_lookup rfl _ _ rfl w4.heap.size rfl _ hM 2 (2 + 90 * (nvt : Int)) rfl ⟨1, rfl⟩ ?_; refine stop ?_))
      unfold Stop
      clear hM d0 d1 d2 e0 e1 e2
      have hqn := hq4.keep (Nat.le_refl _) (fun k _ hk => hB.block k hk)
      have rn := r4.later hB
      have Bn := chain B4 hB
      clear r4 hq4 B4
      go_wp2_with (first | refine wpList_load_row rfl 28 _ rfl w.heap.size rfl 28 _ (0, 0) _ rn Try.underlying28 rfl hinf3 ?_ | (go_at_call 14; refine stop ?_))
      refine (request_any _ _ w2.heap.size wn hqn hgood).mono ?_
      rintro e w5 ⟨vb, rfl, ob, hb5⟩
      have r5 := rn.later hb5
      have B5 := chain Bn hb5
      have hby := ob.bytes hw8 (by unfold maxLen; omega)
      clear rn hqn Bn hb5
      obtain ⟨pb, nb, cb, rfl, hnb⟩ := ob.form
      obtain ⟨_, _, p', c', ee, hc⟩ := hby
      injection ee with i1 i2 i3
      subst i1
      clear i2 i3
      obtain ⟨bb, off, rfl, _, c0⟩ := hc 0 (by omega)
      rw [show Rq.bytes _ = _ from rfl] at c0
      unfold Rq.bytes at c0
      dsimp only at c0
      rw [Nat.add_zero, first_byte 2 (by decide)] at c0
      have hN' := HN.out
      have hM' := HM.out
      have hwant : ((nb : Int) == 2 + 90 * (nvt : Int)) = true := by
        rw [hnb]
        simp [Rq.bytes, Rq.body, intB_len, flat_len Tr.bytes 90 Tr.bytes_len] at hM' ⊢; omega
      have nb0 : (0 : Int) < (nb : Int) := by omega
      have nb1 : (nb : Int) ≤ 1000 := by omega
      have nbn : 0 < nb := by omega
      clear hc ob hnb hN' hM'
      go_wp2_with fail
      refine wp_region_D (fun _ => true) (fun w' : World => w'.cell? ⟨bb, off, none⟩ = some (.int .u8 2) ∧ w'.cell? ⟨w.heap.size, 0, none⟩ = some (.int .i64 2)) (by kernel_rfl) ?_
      have hS : (fun w' : World => w'.cell? ⟨bb, off, none⟩ = some (.int .u8 2) ∧ w'.cell? ⟨w.heap.size, 0, none⟩ = some (.int .i64 2)) w5.drew := ⟨c0, r5.cell 0⟩
      have Bd : Below w.heap.size w w5.drew := B5.drew
      clear r5 c0 B5
      generalize w5.drew = w6 at *
      refine' wpAnyD_take (i := 0) (v := _) rfl (by kernel_rfl) (by kernel_rfl) (by kernel_rfl) (by kernel_rfl) (fun _ _ _ h => h) (Or.inl ⟨by rfl, ?hy15⟩) hS ?re15
      case hy15 => (intro w hSw; (try dsimp only at hSw); go_simp; (try with_reducible rfl))
      simp only [Act.put, List.setIfInBounds_toArray, List.set_cons_zero, List.set_cons_succ]
      refine' wpAnyD_take (i := 1) (v := _) rfl (by kernel_rfl) (by kernel_rfl) (by kernel_rfl) (by kernel_rfl) (fun _ _ _ h => h) (Or.inl ⟨by rfl, ?hy16⟩) hS ?re16
      case hy16 => (intro w hSw; (try dsimp only at hSw); go_simp; (try with_reducible rfl))
      simp only [Act.put, List.setIfInBounds_toArray, List.set_cons_zero, List.set_cons_succ]
      refine' wpAnyD_take (i := 2) (v := _) rfl (by kernel_rfl) (by kernel_rfl) (by kernel_rfl) (by kernel_rfl) (fun _ _ _ h => h) (Or.inl ⟨by rfl, ?hy17⟩) hS ?re17
      case hy17 => (intro w hSw; (try dsimp only at hSw); go_simp; (try with_reducible rfl))
      simp only [Act.put, List.setIfInBounds_toArray, List.set_cons_zero, List.set_cons_succ]
      refine' wpAnyD_take (i := 3) (v := _) rfl (by kernel_rfl) (by kernel_rfl) (by kernel_rfl) (by kernel_rfl) (fun _ _ _ h => h) (Or.inl ⟨by rfl, ?hy18⟩) hS ?re18
      case hy18 => (intro w hSw; (try dsimp only at hSw); go_simp; (try with_reducible rfl))
      simp only [Act.put, List.setIfInBounds_toArray, List.set_cons_zero, List.set_cons_succ]
      try rw [hwant]
      refine' wpAnyD_take (i := 4) (v := _) rfl (by kernel_rfl) (by kernel_rfl) (by kernel_rfl) (by kernel_rfl) (fun _ _ _ h => h) (Or.inl ⟨by rfl, ?hy19⟩) hS ?re19
      case hy19 => (intro w hSw; (try dsimp only at hSw); go_simp; (try with_reducible rfl))
      simp only [Act.put, List.setIfInBounds_toArray, List.set_cons_zero, List.set_cons_succ]
      refine' wpAnyD_take (i := 5) (v := _) rfl (by kernel_rfl) (by kernel_rfl) (by kernel_rfl) (by kernel_rfl) (fun _ _ _ h => h) (Or.inl ⟨by rfl, ?hy20⟩) hS ?re20
      case hy20 => (intro w hSw; (try dsimp only at hSw); go_simp; (try with_reducible rfl))
      simp only [Act.put, List.setIfInBounds_toArray, List.set_cons_zero, List.set_cons_succ]
      refine' wpAnyD_take (i := 6) (v := _) rfl (by kernel_rfl) (by kernel_rfl) (by kernel_rfl) (by kernel_rfl) (fun _ _ _ h => h) (Or.inl ⟨by rfl, ?hy21⟩) hS ?re21
      case hy21 => (intro w hSw; (try dsimp only at hSw); go_simp; (try with_reducible rfl))
      simp only [Act.put, List.setIfInBounds_toArray, List.set_cons_zero, List.set_cons_succ]
      refine' wpAnyD_take (i := 7) (v := _) rfl (by kernel_rfl) (by kernel_rfl) (by kernel_rfl) (by kernel_rfl) (fun _ _ _ h => h) (Or.inl ⟨by rfl, ?hy22⟩) hS ?re22
      case hy22 => (intro w hSw; (try dsimp only at hSw); go_simp; (try with_reducible rfl))
      simp only [Act.put, List.setIfInBounds_toArray, List.set_cons_zero, List.set_cons_succ]
      refine' wpAnyD_take (i := 8) (v := _) rfl (by kernel_rfl) (by kernel_rfl) (by kernel_rfl) (by kernel_rfl) (fun _ _ _ h => h) (Or.inl ⟨by rfl, ?hy23⟩) hS ?re23
      case hy23 => (intro w hSw; (try dsimp only at hSw); go_simp; (try with_reducible rfl))
      simp only [Act.put, List.setIfInBounds_toArray, List.set_cons_zero, List.set_cons_succ]
      refine' wpAnyD_take (i := 9) (v := _) rfl (by kernel_rfl) (by kernel_rfl) (by kernel_rfl) (by kernel_rfl) (fun _ _ _ h => h) (Or.inl ⟨by rfl, ?hy24⟩) hS ?re24
      case hy24 => (intro w hSw; (try dsimp only at hSw); go_simp; (try with_reducible rfl))
      simp only [Act.put, List.setIfInBounds_toArray, List.set_cons_zero, List.set_cons_succ]
      refine' wpAnyD_take (i := 10) (v := _) rfl (by kernel_rfl) (by kernel_rfl) (by kernel_rfl) (by kernel_rfl) (fun _ _ _ h => h) (Or.inl ⟨by rfl, ?hy25⟩) hS ?re25
      case hy25 => (intro w hSw; (try dsimp only at hSw); go_simp; (try with_reducible rfl))
      simp only [Act.put, List.setIfInBounds_toArray, List.set_cons_zero, List.set_cons_succ]
      refine' wpAnyD_take (i := 11) (v := _) rfl (by kernel_rfl) (by kernel_rfl) (by kernel_rfl) (by kernel_rfl) (fun _ _ _ h => h) (Or.inl ⟨by rfl, ?hy26⟩) hS ?re26
      case hy26 => (intro w hSw; (try dsimp only at hSw); go_simp; (try with_reducible rfl))
      simp only [Act.put, List.setIfInBounds_toArray, List.set_cons_zero, List.set_cons_succ]
      refine' wpAnyD_take (i := 12) (v := _) rfl (by kernel_rfl) (by kernel_rfl) (by kernel_rfl) (by kernel_rfl) (fun _ _ _ h => h) (Or.inl ⟨by rfl, ?hy27⟩) hS ?re27
      case hy27 => (intro w hSw; (try dsimp only at hSw); go_simp; (try with_reducible rfl))
      simp only [Act.put, List.setIfInBounds_toArray, List.set_cons_zero, List.set_cons_succ]
      refine' wpAnyD_take (i := 13) (v := _) rfl (by kernel_rfl) (by kernel_rfl) (by kernel_rfl) (by kernel_rfl) (fun _ _ _ h => h) (Or.inl ⟨by rfl, ?hy28⟩) hS ?re28
      case hy28 => (intro w hSw; (try dsimp only at hSw); go_simp; (try with_reducible rfl))
      simp only [Act.put, List.setIfInBounds_toArray, List.set_cons_zero, List.set_cons_succ]
      refine wpAnyD_done (by kernel_rfl) ?_ _
      go_wp2
      go_ret
      exact ⟨rfl, Bd⟩
    ·
      go_wp2_with (first | (refine wpList_makeMap rfl rfl ?_; intro wm hM hB; have d0 := (hB.cell (p := ⟨w.heap.size, 0, none⟩) zA4).trans e0; have d1 := (hB.cell (p := ⟨w.heap.size, 1, none⟩) zA4).trans e1; have d2 := (hB.cell (p := ⟨w.heap.size, 2, none⟩) zA4).trans e2) | (refine wpList_insert rfl _ _ _ rfl w4.heap.size rfl _ hM _ _ rfl rfl (by simp) ?_; intro wn hMn hEn; replace hM := hMn; simp only [List.nil_append, List.cons_append] at hM; replace hB := hB.trans (hEn.below hB.size (Nat.le_refl _)); clear d0 d1 d2 hMn hEn; have d0 := (hB.cell (p := ⟨w.heap.size, 0, none⟩) zA4).trans e0; have d1 := (hB.cell (p := ⟨w.heap.size, 1, none⟩) zA4).trans e1; have d2 := (hB.cell (p := ⟨w.heap.size, 2, none⟩) zA4).trans e2) | (refine wpList_lookup rfl _ _ rfl w4.heap.size rfl _ hM 3 (5) rfl ⟨2, rfl⟩ ?_; refine stop ?_))
      unfold Stop
      clear hM d0 d1 d2 e0 e1 e2
      have hqn := hq4.keep (Nat.le_refl _) (fun k _ hk => hB.block k hk)
      have rn := r4.later hB
      have Bn := chain B4 hB
      clear r4 hq4 B4
      go_wp2_with (first | refine wpList_load_row rfl 28 _ rfl w.heap.size rfl 28 _ (0, 0) _ rn Try.underlying28 rfl hinf3 ?_ | (go_at_call 14; refine stop ?_))
      refine (request_any _ _ w2.heap.size wn hqn hgood).mono ?_
      rintro e w5 ⟨vb, rfl, ob, hb5⟩
      have r5 := rn.later hb5
      have B5 := chain Bn hb5
      have hby := ob.bytes hw8 (by unfold maxLen; omega)
      clear rn hqn Bn hb5
      obtain ⟨pb, nb, cb, rfl, hnb⟩ := ob.form
      obtain ⟨_, _, p', c', ee, hc⟩ := hby
      injection ee with i1 i2 i3
      subst i1
      clear i2 i3
      obtain ⟨bb, off, rfl, _, c0⟩ := hc 0 (by omega)
      rw [show Rq.bytes _ = _ from rfl] at c0
      unfold Rq.bytes at c0
      dsimp only at c0
      rw [Nat.add_zero, first_byte 3 (by decide)] at c0
      have hN' := HN.out
      have hM' := HM.out
      have hwant : ((nb : Int) == 5) = true := by
        rw [hnb]
        simp [Rq.bytes, Rq.body, intB_len]
      have nb0 : (0 : Int) < (nb : Int) := by omega
      have nb1 : (nb : Int) ≤ 1000 := by omega
      have nbn : 0 < nb := by omega
      clear hc ob hnb hN' hM'
      go_wp2_with fail
      refine wp_region_D (fun _ => true) (fun w' : World => w'.cell? ⟨bb, off, none⟩ = some (.int .u8 3) ∧ w'.cell? ⟨w.heap.size, 0, none⟩ = some (.int .i64 3)) (by kernel_rfl) ?_
      have hS : (fun w' : World => w'.cell? ⟨bb, off, none⟩ = some (.int .u8 3) ∧ w'.cell? ⟨w.heap.size, 0, none⟩ = some (.int .i64 3)) w5.drew := ⟨c0, r5.cell 0⟩
      have Bd : Below w.heap.size w w5.drew := B5.drew
      clear r5 c0 B5
      generalize w5.drew = w6 at *
      refine' wpAnyD_take (i := 0) (v := _) rfl (by kernel_rfl) (by kernel_rfl) (by kernel_rfl) (by kernel_rfl) (fun _ _ _ h => h) (Or.inl ⟨by rfl, ?hy29⟩) hS ?re29
      case hy29 => (intro w hSw; (try dsimp only at hSw); go_simp; (try with_reducible rfl))
      simp only [Act.put, List.setIfInBounds_toArray, List.set_cons_zero, List.set_cons_succ]
      refine' wpAnyD_take (i := 1) (v := _) rfl (by kernel_rfl) (by kernel_rfl) (by kernel_rfl) (by kernel_rfl) (fun _ _ _ h => h) (Or.inl ⟨by rfl, ?hy30⟩) hS ?re30
      case hy30 => (intro w hSw; (try dsimp only at hSw); go_simp; (try with_reducible rfl))
      simp only [Act.put, List.setIfInBounds_toArray, List.set_cons_zero, List.set_cons_succ]
      refine' wpAnyD_take (i := 2) (v := _) rfl (by kernel_rfl) (by kernel_rfl) (by kernel_rfl) (by kernel_rfl) (fun _ _ _ h => h) (Or.inl ⟨by rfl, ?hy31⟩) hS ?re31
      case hy31 => (intro w hSw; (try dsimp only at hSw); go_simp; (try with_reducible rfl))
      simp only [Act.put, List.setIfInBounds_toArray, List.set_cons_zero, List.set_cons_succ]
      refine' wpAnyD_take (i := 3) (v := _) rfl (by kernel_rfl) (by kernel_rfl) (by kernel_rfl) (by kernel_rfl) (fun _ _ _ h => h) (Or.inl ⟨by rfl, ?hy32⟩) hS ?re32
      case hy32 => (intro w hSw; (try dsimp only at hSw); go_simp; (try with_reducible rfl))
      simp only [Act.put, List.setIfInBounds_toArray, List.set_cons_zero, List.set_cons_succ]
      try rw [hwant]
      refine' wpAnyD_take (i := 4) (v := _) rfl (by kernel_rfl) (by kernel_rfl) (by kernel_rfl) (by kernel_rfl) (fun _ _ _ h => h) (Or.inl ⟨by rfl, ?hy33⟩) hS ?re33
      case hy33 => (intro w hSw; (try dsimp only at hSw); go_simp; (try with_reducible rfl))
      simp only [Act.put, List.setIfInBounds_toArray, List.set_cons_zero, List.set_cons_succ]
      refine' wpAnyD_take (i := 5) (v := _) rfl (by kernel_rfl) (by kernel_rfl) (by kernel_rfl) (by kernel_rfl) (fun _ _ _ h => h) (Or.inl ⟨by rfl, ?hy34⟩) hS ?re34
      case hy34 => (intro w hSw; (try dsimp only at hSw); go_simp; (try with_reducible rfl))
      simp only [Act.put, List.setIfInBounds_toArray, List.set_cons_zero, List.set_cons_succ]
      refine' wpAnyD_take (i := 6) (v := _) rfl (by kernel_rfl) (by kernel_rfl) (by kernel_rfl) (by kernel_rfl) (fun _ _ _ h => h) (Or.inl ⟨by rfl, ?hy35⟩) hS ?re35
      case hy35 => (intro w hSw; (try dsimp only at hSw); go_simp; (try with_reducible rfl))
      simp only [Act.put, List.setIfInBounds_toArray, List.set_cons_zero, List.set_cons_succ]
      refine' wpAnyD_take (i := 7) (v := _) rfl (by kernel_rfl) (by kernel_rfl) (by kernel_rfl) (by kernel_rfl) (fun _ _ _ h => h) (Or.inl ⟨by rfl, ?hy36⟩) hS ?re36
      case hy36 => (intro w hSw; (try dsimp only at hSw); go_simp; (try with_reducible rfl))
      simp only [Act.put, List.setIfInBounds_toArray, List.set_cons_zero, List.set_cons_succ]
      refine' wpAnyD_take (i := 8) (v := _) rfl (by kernel_rfl) (by kernel_rfl) (by kernel_rfl) (by kernel_rfl) (fun _ _ _ h => h) (Or.inl ⟨by rfl, ?hy37⟩) hS ?re37
      case hy37 => (intro w hSw; (try dsimp only at hSw); go_simp; (try with_reducible rfl))
      simp only [Act.put, List.setIfInBounds_toArray, List.set_cons_zero, List.set_cons_succ]
      refine' wpAnyD_take (i := 9) (v := _) rfl (by kernel_rfl) (by kernel_rfl) (by kernel_rfl) (by kernel_rfl) (fun _ _ _ h => h) (Or.inl ⟨by rfl, ?hy38⟩) hS ?re38
      case hy38 => (intro w hSw; (try dsimp only at hSw); go_simp; (try with_reducible rfl))
      simp only [Act.put, List.setIfInBounds_toArray, List.set_cons_zero, List.set_cons_succ]
      refine' wpAnyD_take (i := 10) (v := _) rfl (by kernel_rfl) (by kernel_rfl) (by kernel_rfl) (by kernel_rfl) (fun _ _ _ h => h) (Or.inl ⟨by rfl, ?hy39⟩) hS ?re39
      case hy39 => (intro w hSw; (try dsimp only at hSw); go_simp; (try with_reducible rfl))
      simp only [Act.put, List.setIfInBounds_toArray, List.set_cons_zero, List.set_cons_succ]
      refine' wpAnyD_take (i := 11) (v := _) rfl (by kernel_rfl) (by kernel_rfl) (by kernel_rfl) (by kernel_rfl) (fun _ _ _ h => h) (Or.inl ⟨by rfl, ?hy40⟩) hS ?re40
      case hy40 => (intro w hSw; (try dsimp only at hSw); go_simp; (try with_reducible rfl))
      simp only [Act.put, List.setIfInBounds_toArray, List.set_cons_zero, List.set_cons_succ]
      refine' wpAnyD_take (i := 12) (v := _) rfl (by kernel_rfl) (by kernel_rfl) (by kernel_rfl) (by kernel_rfl) (fun _ _ _ h => h) (Or.inl ⟨by rfl, ?hy41⟩) hS ?re41
      case hy41 => (intro w hSw; (try dsimp only at hSw); go_simp; (try with_reducible rfl))
      simp only [Act.put, List.setIfInBounds_toArray, List.set_cons_zero, List.set_cons_succ]
      refine' wpAnyD_take (i := 13) (v := _) rfl (by kernel_rfl) (by kernel_rfl) (by kernel_rfl) (by kernel_rfl) (fun _ _ _ h => h) (Or.inl ⟨by rfl, ?hy42⟩) hS ?re42
      case hy42 => (intro w hSw; (try dsimp only at hSw); go_simp; (try with_reducible rfl))
      simp only [Act.put, List.setIfInBounds_toArray, List.set_cons_zero, List.set_cons_succ]
      refine wpAnyD_done (by kernel_rfl) ?_ _
      go_wp2
      go_ret
      exact ⟨rfl, Bd⟩
    · rcases hk with rfl | rfl | rfl
      ·
        go_wp2_with (first | (refine wpList_makeMap rfl rfl ?_; intro wm hM hB; have d0 := (hB.cell (p := ⟨w.heap.size, 0, none⟩) zA4).trans e0; have d1 := (hB.cell (p := ⟨w.heap.size, 1, none⟩) zA4).trans e1; have d2 := (hB.cell (p := ⟨w.heap.size, 2, none⟩) zA4).trans e2) | (refine wpList_insert rfl _ _ _ rfl w4.heap.size rfl _ hM _ _ rfl rfl (by simp) ?_; intro wn hMn hEn; replace hM := hMn; simp only [List.nil_append, List.cons_append] at hM; replace hB := hB.trans (hEn.below hB.size (Nat.le_refl _)); clear d0 d1 d2 hMn hEn; have d0 := (hB.cell (p := ⟨w.heap.size, 0, none⟩) zA4).trans e0; have d1 := (hB.cell (p := ⟨w.heap.size, 1, none⟩) zA4).trans e1; have d2 := (hB.cell (p := ⟨w.heap.size, 2, none⟩) zA4).trans e2) | (refine wpList_lookup rfl _ _ rfl w4.heap.size rfl _ hM 4 (17) rfl ⟨3, rfl⟩ ?_; refine stop ?_))
        unfold Stop
        clear hM d0 d1 d2 e0 e1 e2
        have hqn := hq4.keep (Nat.le_refl _) (fun k _ hk => hB.block k hk)
        have rn := r4.later hB
        have Bn := chain B4 hB
        clear r4 hq4 B4
        go_wp2_with (first | refine wpList_load_row rfl 28 _ rfl w.heap.size rfl 28 _ (0, 0) _ rn Try.underlying28 rfl hinf3 ?_ | (go_at_call 14; refine stop ?_))
        refine (request_any _ _ w2.heap.size wn hqn hgood).mono ?_
        rintro e w5 ⟨vb, rfl, ob, hb5⟩
        have r5 := rn.later hb5
        have B5 := chain Bn hb5
        have hby := ob.bytes hw8 (by unfold maxLen; omega)
        clear rn hqn Bn hb5
        obtain ⟨pb, nb, cb, rfl, hnb⟩ := ob.form
        obtain ⟨_, _, p', c', ee, hc⟩ := hby
        injection ee with i1 i2 i3
        subst i1
        clear i2 i3
        obtain ⟨bb, off, rfl, _, c0⟩ := hc 0 (by omega)
        rw [show Rq.bytes _ = _ from rfl] at c0
        unfold Rq.bytes at c0
        dsimp only at c0
        rw [Nat.add_zero, first_byte 4 (by decide)] at c0
        have hN' := HN.out
        have hM' := HM.out
        have hwant : ((nb : Int) == 17) = true := by
          rw [hnb]
          simp [Rq.bytes, Rq.body, intB_len, numB_len]
        have nb0 : (0 : Int) < (nb : Int) := by omega
        have nb1 : (nb : Int) ≤ 1000 := by omega
        have nbn : 0 < nb := by omega
        clear hc ob hnb hN' hM'
        go_wp2_with fail
        refine wp_region_D (fun _ => true) (fun w' : World => w'.cell? ⟨bb, off, none⟩ = some (.int .u8 4) ∧ w'.cell? ⟨w.heap.size, 0, none⟩ = some (.int .i64 4)) (by kernel_rfl) ?_
        have hS : (fun w' : World => w'.cell? ⟨bb, off, none⟩ = some (.int .u8 4) ∧ w'.cell? ⟨w.heap.size, 0, none⟩ = some (.int .i64 4)) w5.drew := ⟨c0, r5.cell 0⟩
        have Bd : Below w.heap.size w w5.drew := B5.drew
        clear r5 c0 B5
        generalize w5.drew = w6 at *
        refine' wpAnyD_take (i := 0) (v := _) rfl (by kernel_rfl) (by kernel_rfl) (by kernel_rfl) (by kernel_rfl) (fun _ _ _ h => h) (Or.inl ⟨by rfl, ?hy43⟩) hS ?re43
        case hy43 => (intro w hSw; (try dsimp only at hSw); go_simp; (try with_reducible rfl))
        simp only [Act.put, List.setIfInBounds_toArray, List.set_cons_zero, List.set_cons_succ]
        refine' wpAnyD_take (i := 1) (v := _) rfl (by kernel_rfl) (by kernel_rfl) (by kernel_rfl) (by kernel_rfl) (fun _ _ _ h => h) (Or.inl ⟨by rfl, ?hy44⟩) hS ?re44
        case hy44 => (intro w hSw; (try dsimp only at hSw); go_simp; (try with_reducible rfl))
        simp only [Act.put, List.setIfInBounds_toArray, List.set_cons_zero, List.set_cons_succ]
        refine' wpAnyD_take (i := 2) (v := _) rfl (by kernel_rfl) (by kernel_rfl) (by kernel_rfl) (by kernel_rfl) (fun _ _ _ h => h) (Or.inl ⟨by rfl, ?hy45⟩) hS ?re45
        case hy45 => (intro w hSw; (try dsimp only at hSw); go_simp; (try with_reducible rfl))
        simp only [Act.put, List.setIfInBounds_toArray, List.set_cons_zero, List.set_cons_succ]
        refine' wpAnyD_take (i := 3) (v := _) rfl (by kernel_rfl) (by kernel_rfl) (by kernel_rfl) (by kernel_rfl) (fun _ _ _ h => h) (Or.inl ⟨by rfl, ?hy46⟩) hS ?re46
        case hy46 => (intro w hSw; (try dsimp only at hSw); go_simp; (try with_reducible rfl))
        simp only [Act.put, List.setIfInBounds_toArray, List.set_cons_zero, List.set_cons_succ]
        try rw [hwant]
        refine' wpAnyD_take (i := 4) (v := _) rfl (by kernel_rfl) (by kernel_rfl) (by kernel_rfl) (by kernel_rfl) (fun _ _ _ h => h) (Or.inl ⟨by rfl, ?hy47⟩) hS ?re47
        case hy47 => (intro w hSw; (try dsimp only at hSw); go_simp; (try with_reducible rfl))
        simp only [Act.put, List.setIfInBounds_toArray, List.set_cons_zero, List.set_cons_succ]
        refine' wpAnyD_take (i := 5) (v := _) rfl (by kernel_rfl) (by kernel_rfl) (by kernel_rfl) (by kernel_rfl) (fun _ _ _ h => h) (Or.inl ⟨by rfl, ?hy48⟩) hS ?re48
        case hy48 => (intro w hSw; (try dsimp only at hSw); go_simp; (try with_reducible rfl))
        simp only [Act.put, List.setIfInBounds_toArray, List.set_cons_zero, List.set_cons_succ]
        refine' wpAnyD_take (i := 6) (v := _) rfl (by kernel_rfl) (by kernel_rfl) (by kernel_rfl) (by kernel_rfl) (fun _ _ _ h => h) (Or.inl ⟨by rfl, ?hy49⟩) hS ?re49
        case hy49 => (intro w hSw; (try dsimp only at hSw); go_simp; (try with_reducible rfl))
        simp only [Act.put, List.setIfInBounds_toArray, List.set_cons_zero, List.set_cons_succ]
        refine' wpAnyD_take (i := 7) (v := _) rfl (by kernel_rfl) (by kernel_rfl) (by kernel_rfl) (by kernel_rfl) (fun _ _ _ h => h) (Or.inl ⟨by rfl, ?hy50⟩) hS ?re50
        case hy50 => (intro w hSw; (try dsimp only at hSw); go_simp; (try with_reducible rfl))
        simp only [Act.put, List.setIfInBounds_toArray, List.set_cons_zero, List.set_cons_succ]
        refine' wpAnyD_take (i := 8) (v := _) rfl (by kernel_rfl) (by kernel_rfl) (by kernel_rfl) (by kernel_rfl) (fun _ _ _ h => h) (Or.inl ⟨by rfl, ?hy51⟩) hS ?re51
        case hy51 => (intro w hSw; (try dsimp only at hSw); go_simp; (try with_reducible rfl))
        simp only [Act.put, List.setIfInBounds_toArray, List.set_cons_zero, List.set_cons_succ]
        refine' wpAnyD_take (i := 9) (v := _) rfl (by kernel_rfl) (by kernel_rfl) (by kernel_rfl) (by kernel_rfl) (fun _ _ _ h => h) (Or.inl ⟨by rfl, ?hy52⟩) hS ?re52
        case hy52 => (intro w hSw; (try dsimp only at hSw); go_simp; (try with_reducible rfl))
        simp only [Act.put, List.setIfInBounds_toArray, List.set_cons_zero, List.set_cons_succ]
        refine' wpAnyD_take (i := 10) (v := _) rfl (by kernel_rfl) (by kernel_rfl) (by kernel_rfl) (by kernel_rfl) (fun _ _ _ h => h) (Or.inl ⟨by rfl, ?hy53⟩) hS ?re53
        case hy53 => (intro w hSw; (try dsimp only at hSw); go_simp; (try with_reducible rfl))
        simp only [Act.put, List.setIfInBounds_toArray, List.set_cons_zero, List.set_cons_succ]
        refine' wpAnyD_take (i := 11) (v := _) rfl (by kernel_rfl) (by kernel_rfl) (by kernel_rfl) (by kernel_rfl) (fun _ _ _ h => h) (Or.inl ⟨by rfl, ?hy54⟩) hS ?re54
        case hy54 => (intro w hSw; (try dsimp only at hSw); go_simp; (try with_reducible rfl))
        simp only [Act.put, List.setIfInBounds_toArray, List.set_cons_zero, List.set_cons_succ]
        refine' wpAnyD_take (i := 12) (v := _) rfl (by kernel_rfl) (by kernel_rfl) (by kernel_rfl) (by kernel_rfl) (fun _ _ _ h => h) (Or.inl ⟨by rfl, ?hy55⟩) hS ?re55
        case hy55 => (intro w hSw; (try dsimp only at hSw); go_simp; (try with_reducible rfl))
        simp only [Act.put, List.setIfInBounds_toArray, List.set_cons_zero, List.set_cons_succ]
        refine' wpAnyD_take (i := 13) (v := _) rfl (by kernel_rfl) (by kernel_rfl) (by kernel_rfl) (by kernel_rfl) (fun _ _ _ h => h) (Or.inl ⟨by rfl, ?hy56⟩) hS ?re56
        case hy56 => (intro w hSw; (try dsimp only at hSw); go_simp; (try with_reducible rfl))
        simp only [Act.put, List.setIfInBounds_toArray, List.set_cons_zero, List.set_cons_succ]
        refine wpAnyD_done (by kernel_rfl) ?_ _
        go_wp2
        go_ret
        exact ⟨rfl, Bd⟩
      ·
        go_wp2_with (first | (refine wpList_makeMap rfl rfl ?_; intro wm hM hB; have d0 := (hB.cell (p := ⟨w.heap.size, 0, none⟩) zA4).trans e0; have d1 := (hB.cell (p := ⟨w.heap.size, 1, none⟩) zA4).trans e1; have d2 := (hB.cell (p := ⟨w.heap.size, 2, none⟩) zA4).trans e2) | (refine wpList_insert rfl _ _ _ rfl w4.heap.size rfl _ hM _ _ rfl rfl (by simp) ?_; intro wn hMn hEn; replace hM := hMn; simp only [List.nil_append, List.cons_append] at hM; replace hB := hB.trans (hEn.below hB.size (Nat.le_refl _)); clear d0 d1 d2 hMn hEn; have d0 := (hB.cell (p := ⟨w.heap.size, 0, none⟩) zA4).trans e0; have d1 := (hB.cell (p := ⟨w.heap.size, 1, none⟩) zA4).trans e1; have d2 := (hB.cell (p := ⟨w.heap.size, 2, none⟩) zA4).trans e2) | (refine wpList_lookup rfl _ _ rfl w4.heap.size rfl _ hM 5 (17) rfl ⟨4, rfl⟩ ?_; refine stop ?_))
        unfold Stop
        clear hM d0 d1 d2 e0 e1 e2
        have hqn := hq4.keep (Nat.le_refl _) (fun k _ hk => hB.block k hk)
        have rn := r4.later hB
        have Bn := chain B4 hB
        clear r4 hq4 B4
        go_wp2_with (first | refine wpList_load_row rfl 28 _ rfl w.heap.size rfl 28 _ (0, 0) _ rn Try.underlying28 rfl hinf3 ?_ | (go_at_call 14; refine stop ?_))
        refine (request_any _ _ w2.heap.size wn hqn hgood).mono ?_
        rintro e w5 ⟨vb, rfl, ob, hb5⟩
        have r5 := rn.later hb5
        have B5 := chain Bn hb5
        have hby := ob.bytes hw8 (by unfold maxLen; omega)
        clear rn hqn Bn hb5
        obtain ⟨pb, nb, cb, rfl, hnb⟩ := ob.form
        obtain ⟨_, _, p', c', ee, hc⟩ := hby
        injection ee with i1 i2 i3
        subst i1
        clear i2 i3
        obtain ⟨bb, off, rfl, _, c0⟩ := hc 0 (by omega)
        rw [show Rq.bytes _ = _ from rfl] at c0
        unfold Rq.bytes at c0
        dsimp only at c0
        rw [Nat.add_zero, first_byte 5 (by decide)] at c0
        have hN' := HN.out
        have hM' := HM.out
        have hwant : ((nb : Int) == 17) = true := by
          rw [hnb]
          simp [Rq.bytes, Rq.body, intB_len, numB_len]
        have nb0 : (0 : Int) < (nb : Int) := by omega
        have nb1 : (nb : Int) ≤ 1000 := by omega
        have nbn : 0 < nb := by omega
        clear hc ob hnb hN' hM'
        go_wp2_with fail
        refine wp_region_D (fun _ => true) (fun w' : World => w'.cell? ⟨bb, off, none⟩ = some (.int .u8 5) ∧ w'.cell? ⟨w.heap.size, 0, none⟩ = some (.int .i64 5)) (by kernel_rfl) ?_
        have hS : (fun w' : World => w'.cell? ⟨bb, off, none⟩ = some (.int .u8 5) ∧ w'.cell? ⟨w.heap.size, 0, none⟩ = some (.int .i64 5)) w5.drew := ⟨c0, r5.cell 0⟩
        have Bd : Below w.heap.size w w5.drew := B5.drew
        clear r5 c0 B5
        generalize w5.drew = w6 at *
        refine' wpAnyD_take (i := 0) (v := _) rfl (by kernel_rfl) (by kernel_rfl) (by kernel_rfl) (by kernel_rfl) (fun _ _ _ h => h) (Or.inl ⟨by rfl, ?hy57⟩) hS ?re57
        case hy57 => (intro w hSw; (try dsimp only at hSw); go_simp; (try with_reducible rfl))
        simp only [Act.put, List.setIfInBounds_toArray, List.set_cons_zero, List.set_cons_succ]
        refine' wpAnyD_take (i := 1) (v := _) rfl (by kernel_rfl) (by kernel_rfl) (by kernel_rfl) (by kernel_rfl) (fun _ _ _ h => h) (Or.inl ⟨by rfl, ?hy58⟩) hS ?re58
        case hy58 => (intro w hSw; (try dsimp only at hSw); go_simp; (try with_reducible rfl))
        simp only [Act.put, List.setIfInBounds_toArray, List.set_cons_zero, List.set_cons_succ]
        refine' wpAnyD_take (i := 2) (v := _) rfl (by kernel_rfl) (by kernel_rfl) (by kernel_rfl) (by kernel_rfl) (fun _ _ _ h => h) (Or.inl ⟨by rfl, ?hy59⟩) hS ?re59
        case hy59 => (intro w hSw; (try dsimp only at hSw); go_simp; (try with_reducible rfl))
        simp only [Act.put, List.setIfInBounds_toArray, List.set_cons_zero, List.set_cons_succ]
        refine' wpAnyD_take (i := 3) (v := _) rfl (by kernel_rfl) (by kernel_rfl) (by kernel_rfl) (by kernel_rfl) (fun _ _ _ h => h) (Or.inl ⟨by rfl, ?hy60⟩) hS ?re60
        case hy60 => (intro w hSw; (try dsimp only at hSw); go_simp; (try with_reducible rfl))
        simp only [Act.put, List.setIfInBounds_toArray, List.set_cons_zero, List.set_cons_succ]
        try rw [hwant]
        refine' wpAnyD_take (i := 4) (v := _) rfl (by kernel_rfl) (by kernel_rfl) (by kernel_rfl) (by kernel_rfl) (fun _ _ _ h => h) (Or.inl ⟨by rfl, ?hy61⟩) hS ?re61
        case hy61 => (intro w hSw; (try dsimp only at hSw); go_simp; (try with_reducible rfl))
        simp only [Act.put, List.setIfInBounds_toArray, List.set_cons_zero, List.set_cons_succ]
        refine' wpAnyD_take (i := 5) (v := _) rfl (by kernel_rfl) (by kernel_rfl) (by kernel_rfl) (by kernel_rfl) (fun _ _ _ h => h) (Or.inl ⟨by rfl, ?hy62⟩) hS ?re62
        case hy62 => (intro w hSw; (try dsimp only at hSw); go_simp; (try with_reducible rfl))
        simp only [Act.put, List.setIfInBounds_toArray, List.set_cons_zero, List.set_cons_succ]
        refine' wpAnyD_take (i := 6) (v := _) rfl (by kernel_rfl) (by kernel_rfl) (by kernel_rfl) (by kernel_rfl) (fun _ _ _ h => h) (Or.inl ⟨by rfl, ?hy63⟩) hS ?re63
        case hy63 => (intro w hSw; (try dsimp only at hSw); go_simp; (try with_reducible rfl))
        simp only [Act.put, List.setIfInBounds_toArray, List.set_cons_zero, List.set_cons_succ]
        refine' wpAnyD_take (i := 7) (v := _) rfl (by kernel_rfl) (by kernel_rfl) (by kernel_rfl) (by kernel_rfl) (fun _ _ _ h => h) (Or.inl ⟨by rfl, ?hy64⟩) hS ?re64
        case hy64 => (intro w hSw; (try dsimp only at hSw); go_simp; (try with_reducible rfl))
        simp only [Act.put, List.setIfInBounds_toArray, List.set_cons_zero, List.set_cons_succ]
        refine' wpAnyD_take (i := 8) (v := _) rfl (by kernel_rfl) (by kernel_rfl) (by kernel_rfl) (by kernel_rfl) (fun _ _ _ h => h) (Or.inl ⟨by rfl, ?hy65⟩) hS ?re65
        case hy65 => (intro w hSw; (try dsimp only at hSw); go_simp; (try with_reducible rfl))
        simp only [Act.put, List.setIfInBounds_toArray, List.set_cons_zero, List.set_cons_succ]
        refine' wpAnyD_take (i := 9) (v := _) rfl (by kernel_rfl) (by kernel_rfl) (by kernel_rfl) (by kernel_rfl) (fun _ _ _ h => h) (Or.inl ⟨by rfl, ?hy66⟩) hS ?re66
        case hy66 => (intro w hSw; (try dsimp only at hSw); go_simp; (try with_reducible rfl))
        simp only [Act.put, List.setIfInBounds_toArray, List.set_cons_zero, List.set_cons_succ]
        refine' wpAnyD_take (i := 10) (v := _) rfl (by kernel_rfl) (by kernel_rfl) (by kernel_rfl) (by kernel_rfl) (fun _ _ _ h => h) (Or.inl ⟨by rfl, ?hy67⟩) hS ?re67
        case hy67 => (intro w hSw; (try dsimp only at hSw); go_simp; (try with_reducible rfl))
        simp only [Act.put, List.setIfInBounds_toArray, List.set_cons_zero, List.set_cons_succ]
        refine' wpAnyD_take (i := 11) (v := _) rfl (by kernel_rfl) (by kernel_rfl) (by kernel_rfl) (by kernel_rfl) (fun _ _ _ h => h) (Or.inl ⟨by rfl, ?hy68⟩) hS ?re68
        case hy68 => (intro w hSw; (try dsimp only at hSw); go_simp; (try with_reducible rfl))
        simp only [Act.put, List.setIfInBounds_toArray, List.set_cons_zero, List.set_cons_succ]
        refine' wpAnyD_take (i := 12) (v := _) rfl (by kernel_rfl) (by kernel_rfl) (by kernel_rfl) (by kernel_rfl) (fun _ _ _ h => h) (Or.inl ⟨by rfl, ?hy69⟩) hS ?re69
        case hy69 => (intro w hSw; (try dsimp only at hSw); go_simp; (try with_reducible rfl))
        simp only [Act.put, List.setIfInBounds_toArray, List.set_cons_zero, List.set_cons_succ]
        refine' wpAnyD_take (i := 13) (v := _) rfl (by kernel_rfl) (by kernel_rfl) (by kernel_rfl) (by kernel_rfl) (fun _ _ _ h => h) (Or.inl ⟨by rfl, ?hy70⟩) hS ?re70
        case hy70 => (intro w hSw; (try dsimp only at hSw); go_simp; (try with_reducible rfl))
        simp only [Act.put, List.setIfInBounds_toArray, List.set_cons_zero, List.set_cons_succ]
        refine wpAnyD_done (by kernel_rfl) ?_ _
        go_wp2
        go_ret
        exact ⟨rfl, Bd⟩
      ·
        go_wp2_with (first | (refine wpList_makeMap rfl rfl ?_; intro wm hM hB; have d0 := (hB.cell (p := ⟨w.heap.size, 0, none⟩) zA4).trans e0; have d1 := (hB.cell (p := ⟨w.heap.size, 1, none⟩) zA4).trans e1; have d2 := (hB.cell (p := ⟨w.heap.size, 2, none⟩) zA4).trans e2) | (refine wpList_insert rfl _ _ _ rfl w4.heap.size rfl _ hM _ _ rfl rfl (by simp) ?_; intro wn hMn hEn; replace hM := hMn; simp only [List.nil_append, List.cons_append] at hM; replace hB := hB.trans (hEn.below hB.size (Nat.le_refl _)); clear d0 d1 d2 hMn hEn; have d0 := (hB.cell (p := ⟨w.heap.size, 0, none⟩) zA4).trans e0; have d1 := (hB.cell (p := ⟨w.heap.size, 1, none⟩) zA4).trans e1; have d2 := (hB.cell (p := ⟨w.heap.size, 2, none⟩) zA4).trans e2) | (refine wpList_lookup rfl _ _ rfl w4.heap.size rfl _ hM 7 (17) rfl ⟨6, rfl⟩ ?_; refine stop ?_))
        unfold Stop
        clear hM d0 d1 d2 e0 e1 e2
        have hqn := hq4.keep (Nat.le_refl _) (fun k _ hk => hB.block k hk)
        have rn := r4.later hB
        have Bn := chain B4 hB
        clear r4 hq4 B4
        go_wp2_with (first | refine wpList_load_row rfl 28 _ rfl w.heap.size rfl 28 _ (0, 0) _ rn Try.underlying28 rfl hinf3 ?_ | (go_at_call 14; refine stop ?_))
        refine (request_any _ _ w2.heap.size wn hqn hgood).mono ?_
        rintro e w5 ⟨vb, rfl, ob, hb5⟩
        have r5 := rn.later hb5
        have B5 := chain Bn hb5
        have hby := ob.bytes hw8 (by unfold maxLen; omega)
        clear rn hqn Bn hb5
        obtain ⟨pb, nb, cb, rfl, hnb⟩ := ob.form
        obtain ⟨_, _, p', c', ee, hc⟩ := hby
        injection ee with i1 i2 i3
        subst i1
        clear i2 i3
        obtain ⟨bb, off, rfl, _, c0⟩ := hc 0 (by omega)
        rw [show Rq.bytes _ = _ from rfl] at c0
        unfold Rq.bytes at c0
        dsimp only at c0
        rw [Nat.add_zero, first_byte 7 (by decide)] at c0
        have hN' := HN.out
        have hM' := HM.out
        have hwant : ((nb : Int) == 17) = true := by
          rw [hnb]
          simp [Rq.bytes, Rq.body, intB_len, numB_len]
        have nb0 : (0 : Int) < (nb : Int) := by omega
        have nb1 : (nb : Int) ≤ 1000 := by omega
        have nbn : 0 < nb := by omega
        clear hc ob hnb hN' hM'
        go_wp2_with fail
        refine wp_region_D (fun _ => true) (fun w' : World => w'.cell? ⟨bb, off, none⟩ = some (.int .u8 7) ∧ w'.cell? ⟨w.heap.size, 0, none⟩ = some (.int .i64 7)) (by kernel_rfl) ?_
        have hS : (fun w' : World => w'.cell? ⟨bb, off, none⟩ = some (.int .u8 7) ∧ w'.cell? ⟨w.heap.size, 0, none⟩ = some (.int .i64 7)) w5.drew := ⟨c0, r5.cell 0⟩
        have Bd : Below w.heap.size w w5.drew := B5.drew
        clear r5 c0 B5
        generalize w5.drew = w6 at *
        refine' wpAnyD_take (i := 0) (v := _) rfl (by kernel_rfl) (by kernel_rfl) (by kernel_rfl) (by kernel_rfl) (fun _ _ _ h => h) (Or.inl ⟨by rfl, ?hy71⟩) hS ?re71
        case hy71 => (intro w hSw; (try dsimp only at hSw); go_simp; (try with_reducible rfl))
        simp only [Act.put, List.setIfInBounds_toArray, List.set_cons_zero, List.set_cons_succ]
        refine' wpAnyD_take (i := 1) (v := _) rfl (by kernel_rfl) (by kernel_rfl) (by kernel_rfl) (by kernel_rfl) (fun _ _ _ h => h) (Or.inl ⟨by rfl, ?hy72⟩) hS ?re72
        case hy72 => (intro w hSw; (try dsimp only at hSw); go_simp; (try with_reducible rfl))
        simp only [Act.put, List.setIfInBounds_toArray, List.set_cons_zero, List.set_cons_succ]
        refine' wpAnyD_take (i := 2) (v := _) rfl (by kernel_rfl) (by kernel_rfl) (by kernel_rfl) (by kernel_rfl) (fun _ _ _ h => h) (Or.inl ⟨by rfl, ?hy73⟩) hS ?re73
        case hy73 => (intro w hSw; (try dsimp only at hSw); go_simp; (try with_reducible rfl))
        simp only [Act.put, List.setIfInBounds_toArray, List.set_cons_zero, List.set_cons_succ]
        refine' wpAnyD_take (i := 3) (v := _) rfl (by kernel_rfl) (by kernel_rfl) (by kernel_rfl) (by kernel_rfl) (fun _ _ _ h => h) (Or.inl ⟨by rfl, ?hy74⟩) hS ?re74
        case hy74 => (intro w hSw; (try dsimp only at hSw); go_simp; (try with_reducible rfl))
        simp only [Act.put, List.setIfInBounds_toArray, List.set_cons_zero, List.set_cons_succ]
        try rw [hwant]
        refine' wpAnyD_take (i := 4) (v := _) rfl (by kernel_rfl) (by kernel_rfl) (by kernel_rfl) (by kernel_rfl) (fun _ _ _ h => h) (Or.inl ⟨by rfl, ?hy75⟩) hS ?re75
        case hy75 => (intro w hSw; (try dsimp only at hSw); go_simp; (try with_reducible rfl))
        simp only [Act.put, List.setIfInBounds_toArray, List.set_cons_zero, List.set_cons_succ]
        refine' wpAnyD_take (i := 5) (v := _) rfl (by kernel_rfl) (by kernel_rfl) (by kernel_rfl) (by kernel_rfl) (fun _ _ _ h => h) (Or.inl ⟨by rfl, ?hy76⟩) hS ?re76
        case hy76 => (intro w hSw; (try dsimp only at hSw); go_simp; (try with_reducible rfl))
        simp only [Act.put, List.setIfInBounds_toArray, List.set_cons_zero, List.set_cons_succ]
        refine' wpAnyD_take (i := 6) (v := _) rfl (by kernel_rfl) (by kernel_rfl) (by kernel_rfl) (by kernel_rfl) (fun _ _ _ h => h) (Or.inl ⟨by rfl, ?hy77⟩) hS ?re77
        case hy77 => (intro w hSw; (try dsimp only at hSw); go_simp; (try with_reducible rfl))
        simp only [Act.put, List.setIfInBounds_toArray, List.set_cons_zero, List.set_cons_succ]
        refine' wpAnyD_take (i := 7) (v := _) rfl (by kernel_rfl) (by kernel_rfl) (by kernel_rfl) (by kernel_rfl) (fun _ _ _ h => h) (Or.inl ⟨by rfl, ?hy78⟩) hS ?re78
        case hy78 => (intro w hSw; (try dsimp only at hSw); go_simp; (try with_reducible rfl))
        simp only [Act.put, List.setIfInBounds_toArray, List.set_cons_zero, List.set_cons_succ]
        refine' wpAnyD_take (i := 8) (v := _) rfl (by kernel_rfl) (by kernel_rfl) (by kernel_rfl) (by kernel_rfl) (fun _ _ _ h => h) (Or.inl ⟨by rfl, ?hy79⟩) hS ?re79
        case hy79 => (intro w hSw; (try dsimp only at hSw); go_simp; (try with_reducible rfl))
        simp only [Act.put, List.setIfInBounds_toArray, List.set_cons_zero, List.set_cons_succ]
        refine' wpAnyD_take (i := 9) (v := _) rfl (by kernel_rfl) (by kernel_rfl) (by kernel_rfl) (by kernel_rfl) (fun _ _ _ h => h) (Or.inl ⟨by rfl, ?hy80⟩) hS ?re80
        case hy80 => (intro w hSw; (try dsimp only at hSw); go_simp; (try with_reducible rfl))
        simp only [Act.put, List.setIfInBounds_toArray, List.set_cons_zero, List.set_cons_succ]
        refine' wpAnyD_take (i := 10) (v := _) rfl (by kernel_rfl) (by kernel_rfl) (by kernel_rfl) (by kernel_rfl) (fun _ _ _ h => h) (Or.inl ⟨by rfl, ?hy81⟩) hS ?re81
        case hy81 => (intro w hSw; (try dsimp only at hSw); go_simp; (try with_reducible rfl))
        simp only [Act.put, List.setIfInBounds_toArray, List.set_cons_zero, List.set_cons_succ]
        refine' wpAnyD_take (i := 11) (v := _) rfl (by kernel_rfl) (by kernel_rfl) (by kernel_rfl) (by kernel_rfl) (fun _ _ _ h => h) (Or.inl ⟨by rfl, ?hy82⟩) hS ?re82
        case hy82 => (intro w hSw; (try dsimp only at hSw); go_simp; (try with_reducible rfl))
        simp only [Act.put, List.setIfInBounds_toArray, List.set_cons_zero, List.set_cons_succ]
        refine' wpAnyD_take (i := 12) (v := _) rfl (by kernel_rfl) (by kernel_rfl) (by kernel_rfl) (by kernel_rfl) (fun _ _ _ h => h) (Or.inl ⟨by rfl, ?hy83⟩) hS ?re83
        case hy83 => (intro w hSw; (try dsimp only at hSw); go_simp; (try with_reducible rfl))
        simp only [Act.put, List.setIfInBounds_toArray, List.set_cons_zero, List.set_cons_succ]
        refine' wpAnyD_take (i := 13) (v := _) rfl (by kernel_rfl) (by kernel_rfl) (by kernel_rfl) (by kernel_rfl) (fun _ _ _ h => h) (Or.inl ⟨by rfl, ?hy84⟩) hS ?re84
        case hy84 => (intro w hSw; (try dsimp only at hSw); go_simp; (try with_reducible rfl))
        simp only [Act.put, List.setIfInBounds_toArray, List.set_cons_zero, List.set_cons_succ]
        refine wpAnyD_done (by kernel_rfl) ?_ _
        go_wp2
        go_ret
        exact ⟨rfl, Bd⟩
    · rcases hk with rfl | rfl
      ·
        go_wp2_with (first | (refine wpList_makeMap rfl rfl ?_; intro wm hM hB; have d0 := (hB.cell (p := ⟨w.heap.size, 0, none⟩) zA4).trans e0; have d1 := (hB.cell (p := ⟨w.heap.size, 1, none⟩) zA4).trans e1; have d2 := (hB.cell (p := ⟨w.heap.size, 2, none⟩) zA4).trans e2) | (refine wpList_insert rfl _ _ _ rfl w4.heap.size rfl _ hM _ _ rfl rfl (by simp) ?_; intro wn hMn hEn; replace hM := hMn; simp only [List.nil_append, List.cons_append] at hM; replace hB := hB.trans (hEn.below hB.size (Nat.le_refl _)); clear d0 d1 d2 hMn hEn; have d0 := (hB.cell (p := ⟨w.heap.size, 0, none⟩) zA4).trans e0; have d1 := (hB.cell (p := ⟨w.heap.size, 1, none⟩) zA4).trans e1; have d2 := (hB.cell (p := ⟨w.heap.size, 2, none⟩) zA4).trans e2) | (refine wpList_lookup rfl _ _ rfl w4.heap.size rfl _ hM 6 (30) rfl ⟨5, rfl⟩ ?_; refine stop ?_))
        unfold Stop
        clear hM d0 d1 d2 e0 e1 e2
        have hqn := hq4.keep (Nat.le_refl _) (fun k _ hk => hB.block k hk)
        have rn := r4.later hB
        have Bn := chain B4 hB
        clear r4 hq4 B4
        go_wp2_with (first | refine wpList_load_row rfl 28 _ rfl w.heap.size rfl 28 _ (0, 0) _ rn Try.underlying28 rfl hinf3 ?_ | (go_at_call 14; refine stop ?_))
        refine (request_any _ _ w2.heap.size wn hqn hgood).mono ?_
        rintro e w5 ⟨vb, rfl, ob, hb5⟩
        have r5 := rn.later hb5
        have B5 := chain Bn hb5
        have hby := ob.bytes hw8 (by unfold maxLen; omega)
        clear rn hqn Bn hb5
        obtain ⟨pb, nb, cb, rfl, hnb⟩ := ob.form
        obtain ⟨_, _, p', c', ee, hc⟩ := hby
        injection ee with i1 i2 i3
        subst i1
        clear i2 i3
        obtain ⟨bb, off, rfl, _, c0⟩ := hc 0 (by omega)
        rw [show Rq.bytes _ = _ from rfl] at c0
        unfold Rq.bytes at c0
        dsimp only at c0
        rw [Nat.add_zero, first_byte 6 (by decide)] at c0
        have hN' := HN.out
        have hM' := HM.out
        have hwant : ((nb : Int) == 30) = true := by
          rw [hnb]
          simp [Rq.bytes, Rq.body, intB_len, numB_len]
        have nb0 : (0 : Int) < (nb : Int) := by omega
        have nb1 : (nb : Int) ≤ 1000 := by omega
        have nbn : 0 < nb := by omega
        clear hc ob hnb hN' hM'
        go_wp2_with fail
        refine wp_region_D (fun _ => true) (fun w' : World => w'.cell? ⟨bb, off, none⟩ = some (.int .u8 6) ∧ w'.cell? ⟨w.heap.size, 0, none⟩ = some (.int .i64 6)) (by kernel_rfl) ?_
        have hS : (fun w' : World => w'.cell? ⟨bb, off, none⟩ = some (.int .u8 6) ∧ w'.cell? ⟨w.heap.size, 0, none⟩ = some (.int .i64 6)) w5.drew := ⟨c0, r5.cell 0⟩
        have Bd : Below w.heap.size w w5.drew := B5.drew
        clear r5 c0 B5
        generalize w5.drew = w6 at *
        refine' wpAnyD_take (i := 0) (v := _) rfl (by kernel_rfl) (by kernel_rfl) (by kernel_rfl) (by kernel_rfl) (fun _ _ _ h => h) (Or.inl ⟨by rfl, ?hy85⟩) hS ?re85
        case hy85 => (intro w hSw; (try dsimp only at hSw); go_simp; (try with_reducible rfl))
        simp only [Act.put, List.setIfInBounds_toArray, List.set_cons_zero, List.set_cons_succ]
        refine' wpAnyD_take (i := 1) (v := _) rfl (by kernel_rfl) (by kernel_rfl) (by kernel_rfl) (by kernel_rfl) (fun _ _ _ h => h) (Or.inl ⟨by rfl, ?hy86⟩) hS ?re86
        case hy86 => (intro w hSw; (try dsimp only at hSw); go_simp; (try with_reducible rfl))
        simp only [Act.put, List.setIfInBounds_toArray, List.set_cons_zero, List.set_cons_succ]
        refine' wpAnyD_take (i := 2) (v := _) rfl (by kernel_rfl) (by kernel_rfl) (by kernel_rfl) (by kernel_rfl) (fun _ _ _ h => h) (Or.inl ⟨by rfl, ?hy87⟩) hS ?re87
        case hy87 => (intro w hSw; (try dsimp only at hSw); go_simp; (try with_reducible rfl))
        simp only [Act.put, List.setIfInBounds_toArray, List.set_cons_zero, List.set_cons_succ]
        refine' wpAnyD_take (i := 3) (v := _) rfl (by kernel_rfl) (by kernel_rfl) (by kernel_rfl) (by kernel_rfl) (fun _ _ _ h => h) (Or.inl ⟨by rfl, ?hy88⟩) hS ?re88
        case hy88 => (intro w hSw; (try dsimp only at hSw); go_simp; (try with_reducible rfl))
        simp only [Act.put, List.setIfInBounds_toArray, List.set_cons_zero, List.set_cons_succ]
        try rw [hwant]
        refine' wpAnyD_take (i := 4) (v := _) rfl (by kernel_rfl) (by kernel_rfl) (by kernel_rfl) (by kernel_rfl) (fun _ _ _ h => h) (Or.inl ⟨by rfl, ?hy89⟩) hS ?re89
        case hy89 => (intro w hSw; (try dsimp only at hSw); go_simp; (try with_reducible rfl))
        simp only [Act.put, List.setIfInBounds_toArray, List.set_cons_zero, List.set_cons_succ]
        refine' wpAnyD_take (i := 5) (v := _) rfl (by kernel_rfl) (by kernel_rfl) (by kernel_rfl) (by kernel_rfl) (fun _ _ _ h => h) (Or.inl ⟨by rfl, ?hy90⟩) hS ?re90
        case hy90 => (intro w hSw; (try dsimp only at hSw); go_simp; (try with_reducible rfl))
        simp only [Act.put, List.setIfInBounds_toArray, List.set_cons_zero, List.set_cons_succ]
        refine' wpAnyD_take (i := 6) (v := _) rfl (by kernel_rfl) (by kernel_rfl) (by kernel_rfl) (by kernel_rfl) (fun _ _ _ h => h) (Or.inl ⟨by rfl, ?hy91⟩) hS ?re91
        case hy91 => (intro w hSw; (try dsimp only at hSw); go_simp; (try with_reducible rfl))
        simp only [Act.put, List.setIfInBounds_toArray, List.set_cons_zero, List.set_cons_succ]
        refine' wpAnyD_take (i := 7) (v := _) rfl (by kernel_rfl) (by kernel_rfl) (by kernel_rfl) (by kernel_rfl) (fun _ _ _ h => h) (Or.inl ⟨by rfl, ?hy92⟩) hS ?re92
        case hy92 => (intro w hSw; (try dsimp only at hSw); go_simp; (try with_reducible rfl))
        simp only [Act.put, List.setIfInBounds_toArray, List.set_cons_zero, List.set_cons_succ]
        refine' wpAnyD_take (i := 8) (v := _) rfl (by kernel_rfl) (by kernel_rfl) (by kernel_rfl) (by kernel_rfl) (fun _ _ _ h => h) (Or.inl ⟨by rfl, ?hy93⟩) hS ?re93
        case hy93 => (intro w hSw; (try dsimp only at hSw); go_simp; (try with_reducible rfl))
        simp only [Act.put, List.setIfInBounds_toArray, List.set_cons_zero, List.set_cons_succ]
        refine' wpAnyD_take (i := 9) (v := _) rfl (by kernel_rfl) (by kernel_rfl) (by kernel_rfl) (by kernel_rfl) (fun _ _ _ h => h) (Or.inl ⟨by rfl, ?hy94⟩) hS ?re94
        case hy94 => (intro w hSw; (try dsimp only at hSw); go_simp; (try with_reducible rfl))
        simp only [Act.put, List.setIfInBounds_toArray, List.set_cons_zero, List.set_cons_succ]
        refine' wpAnyD_take (i := 10) (v := _) rfl (by kernel_rfl) (by kernel_rfl) (by kernel_rfl) (by kernel_rfl) (fun _ _ _ h => h) (Or.inl ⟨by rfl, ?hy95⟩) hS ?re95
        case hy95 => (intro w hSw; (try dsimp only at hSw); go_simp; (try with_reducible rfl))
        simp only [Act.put, List.setIfInBounds_toArray, List.set_cons_zero, List.set_cons_succ]
        refine' wpAnyD_take (i := 11) (v := _) rfl (by kernel_rfl) (by kernel_rfl) (by kernel_rfl) (by kernel_rfl) (fun _ _ _ h => h) (Or.inl ⟨by rfl, ?hy96⟩) hS ?re96
        case hy96 => (intro w hSw; (try dsimp only at hSw); go_simp; (try with_reducible rfl))
        simp only [Act.put, List.setIfInBounds_toArray, List.set_cons_zero, List.set_cons_succ]
        refine' wpAnyD_take (i := 12) (v := _) rfl (by kernel_rfl) (by kernel_rfl) (by kernel_rfl) (by kernel_rfl) (fun _ _ _ h => h) (Or.inl ⟨by rfl, ?hy97⟩) hS ?re97
        case hy97 => (intro w hSw; (try dsimp only at hSw); go_simp; (try with_reducible rfl))
        simp only [Act.put, List.setIfInBounds_toArray, List.set_cons_zero, List.set_cons_succ]
        refine' wpAnyD_take (i := 13) (v := _) rfl (by kernel_rfl) (by kernel_rfl) (by kernel_rfl) (by kernel_rfl) (fun _ _ _ h => h) (Or.inl ⟨by rfl, ?hy98⟩) hS ?re98
        case hy98 => (intro w hSw; (try dsimp only at hSw); go_simp; (try with_reducible rfl))
        simp only [Act.put, List.setIfInBounds_toArray, List.set_cons_zero, List.set_cons_succ]
        refine wpAnyD_done (by kernel_rfl) ?_ _
        go_wp2
        go_ret
        exact ⟨rfl, Bd⟩
      ·
        go_wp2_with (first | (refine wpList_makeMap rfl rfl ?_; intro wm hM hB; have d0 := (hB.cell (p := ⟨w.heap.size, 0, none⟩) zA4).trans e0; have d1 := (hB.cell (p := ⟨w.heap.size, 1, none⟩) zA4).trans e1; have d2 := (hB.cell (p := ⟨w.heap.size, 2, none⟩) zA4).trans e2) | (refine wpList_insert rfl _ _ _ rfl w4.heap.size rfl _ hM _ _ rfl rfl (by simp) ?_; intro wn hMn hEn; replace hM := hMn; simp only [List.nil_append, List.cons_append] at hM; replace hB := hB.trans (hEn.below hB.size (Nat.le_refl _)); clear d0 d1 d2 hMn hEn; have d0 := (hB.cell (p := ⟨w.heap.size, 0, none⟩) zA4).trans e0; have d1 := (hB.cell (p := ⟨w.heap.size, 1, none⟩) zA4).trans e1; have d2 := (hB.cell (p := ⟨w.heap.size, 2, none⟩) zA4).trans e2) | (refine wpList_lookup rfl _ _ rfl w4.heap.size rfl _ hM 8 (30) rfl ⟨7, rfl⟩ ?_; refine stop ?_))
        unfold Stop
        clear hM d0 d1 d2 e0 e1 e2
        have hqn := hq4.keep (Nat.le_refl _) (fun k _ hk => hB.block k hk)
        have rn := r4.later hB
        have Bn := chain B4 hB
        clear r4 hq4 B4
        go_wp2_with (first | refine wpList_load_row rfl 28 _ rfl w.heap.size rfl 28 _ (0, 0) _ rn Try.underlying28 rfl hinf3 ?_ | (go_at_call 14; refine stop ?_))
        refine (request_any _ _ w2.heap.size wn hqn hgood).mono ?_
        rintro e w5 ⟨vb, rfl, ob, hb5⟩
        have r5 := rn.later hb5
        have B5 := chain Bn hb5
        have hby := ob.bytes hw8 (by unfold maxLen; omega)
        clear rn hqn Bn hb5
        obtain ⟨pb, nb, cb, rfl, hnb⟩ := ob.form
        obtain ⟨_, _, p', c', ee, hc⟩ := hby
        injection ee with i1 i2 i3
        subst i1
        clear i2 i3
        obtain ⟨bb, off, rfl, _, c0⟩ := hc 0 (by omega)
        rw [show Rq.bytes _ = _ from rfl] at c0
        unfold Rq.bytes at c0
        dsimp only at c0
        rw [Nat.add_zero, first_byte 8 (by decide)] at c0
        have hN' := HN.out
        have hM' := HM.out
        have hwant : ((nb : Int) == 30) = true := by
          rw [hnb]
          simp [Rq.bytes, Rq.body, intB_len, numB_len]
        have nb0 : (0 : Int) < (nb : Int) := by omega
        have nb1 : (nb : Int) ≤ 1000 := by omega
        have nbn : 0 < nb := by omega
        clear hc ob hnb hN' hM'
        go_wp2_with fail
        refine wp_region_D (fun _ => true) (fun w' : World => w'.cell? ⟨bb, off, none⟩ = some (.int .u8 8) ∧ w'.cell? ⟨w.heap.size, 0, none⟩ = some (.int .i64 8)) (by kernel_rfl) ?_
        have hS : (fun w' : World => w'.cell? ⟨bb, off, none⟩ = some (.int .u8 8) ∧ w'.cell? ⟨w.heap.size, 0, none⟩ = some (.int .i64 8)) w5.drew := ⟨c0, r5.cell 0⟩
        have Bd : Below w.heap.size w w5.drew := B5.drew
        clear r5 c0 B5
        generalize w5.drew = w6 at *
        refine' wpAnyD_take (i := 0) (v := _) rfl (by kernel_rfl) (by kernel_rfl) (by kernel_rfl) (by kernel_rfl) (fun _ _ _ h => h) (Or.inl ⟨by rfl, ?hy99⟩) hS ?re99
        case hy99 => (intro w hSw; (try dsimp only at hSw); go_simp; (try with_reducible rfl))
        simp only [Act.put, List.setIfInBounds_toArray, List.set_cons_zero, List.set_cons_succ]
        refine' wpAnyD_take (i := 1) (v := _) rfl (by kernel_rfl) (by kernel_rfl) (by kernel_rfl) (by kernel_rfl) (fun _ _ _ h => h) (Or.inl ⟨by rfl, ?hy100⟩) hS ?re100
        case hy100 => (intro w hSw; (try dsimp only at hSw); go_simp; (try with_reducible rfl))
        simp only [Act.put, List.setIfInBounds_toArray, List.set_cons_zero, List.set_cons_succ]
        refine' wpAnyD_take (i := 2) (v := _) rfl (by kernel_rfl) (by kernel_rfl) (by kernel_rfl) (by kernel_rfl) (fun _ _ _ h => h) (Or.inl ⟨by rfl, ?hy101⟩) hS ?re101
        case hy101 => (intro w hSw; (try dsimp only at hSw); go_simp; (try with_reducible rfl))
        simp only [Act.put, List.setIfInBounds_toArray, List.set_cons_zero, List.set_cons_succ]
        refine' wpAnyD_take (i := 3) (v := _) rfl (by kernel_rfl) (by kernel_rfl) (by kernel_rfl) (by kernel_rfl) (fun _ _ _ h => h) (Or.inl ⟨by rfl, ?hy102⟩) hS ?re102
        case hy102 => (intro w hSw; (try dsimp only at hSw); go_simp; (try with_reducible rfl))
        simp only [Act.put, List.setIfInBounds_toArray, List.set_cons_zero, List.set_cons_succ]
        try rw [hwant]
        refine' wpAnyD_take (i := 4) (v := _) rfl (by kernel_rfl) (by kernel_rfl) (by kernel_rfl) (by kernel_rfl) (fun _ _ _ h => h) (Or.inl ⟨by rfl, ?hy103⟩) hS ?re103
        case hy103 => (intro w hSw; (try dsimp only at hSw); go_simp; (try with_reducible rfl))
        simp only [Act.put, List.setIfInBounds_toArray, List.set_cons_zero, List.set_cons_succ]
        refine' wpAnyD_take (i := 5) (v := _) rfl (by kernel_rfl) (by kernel_rfl) (by kernel_rfl) (by kernel_rfl) (fun _ _ _ h => h) (Or.inl ⟨by rfl, ?hy104⟩) hS ?re104
        case hy104 => (intro w hSw; (try dsimp only at hSw); go_simp; (try with_reducible rfl))
        simp only [Act.put, List.setIfInBounds_toArray, List.set_cons_zero, List.set_cons_succ]
        refine' wpAnyD_take (i := 6) (v := _) rfl (by kernel_rfl) (by kernel_rfl) (by kernel_rfl) (by kernel_rfl) (fun _ _ _ h => h) (Or.inl ⟨by rfl, ?hy105⟩) hS ?re105
        case hy105 => (intro w hSw; (try dsimp only at hSw); go_simp; (try with_reducible rfl))
        simp only [Act.put, List.setIfInBounds_toArray, List.set_cons_zero, List.set_cons_succ]
        refine' wpAnyD_take (i := 7) (v := _) rfl (by kernel_rfl) (by kernel_rfl) (by kernel_rfl) (by kernel_rfl) (fun _ _ _ h => h) (Or.inl ⟨by rfl, ?hy106⟩) hS ?re106
        case hy106 => (intro w hSw; (try dsimp only at hSw); go_simp; (try with_reducible rfl))
        simp only [Act.put, List.setIfInBounds_toArray, List.set_cons_zero, List.set_cons_succ]
        refine' wpAnyD_take (i := 8) (v := _) rfl (by kernel_rfl) (by kernel_rfl) (by kernel_rfl) (by kernel_rfl) (fun _ _ _ h => h) (Or.inl ⟨by rfl, ?hy107⟩) hS ?re107
        case hy107 => (intro w hSw; (try dsimp only at hSw); go_simp; (try with_reducible rfl))
        simp only [Act.put, List.setIfInBounds_toArray, List.set_cons_zero, List.set_cons_succ]
        refine' wpAnyD_take (i := 9) (v := _) rfl (by kernel_rfl) (by kernel_rfl) (by kernel_rfl) (by kernel_rfl) (fun _ _ _ h => h) (Or.inl ⟨by rfl, ?hy108⟩) hS ?re108
        case hy108 => (intro w hSw; (try dsimp only at hSw); go_simp; (try with_reducible rfl))
        simp only [Act.put, List.setIfInBounds_toArray, List.set_cons_zero, List.set_cons_succ]
        refine' wpAnyD_take (i := 10) (v := _) rfl (by kernel_rfl) (by kernel_rfl) (by kernel_rfl) (by kernel_rfl) (fun _ _ _ h => h) (Or.inl ⟨by rfl, ?hy109⟩) hS ?re109
        case hy109 => (intro w hSw; (try dsimp only at hSw); go_simp; (try with_reducible rfl))
        simp only [Act.put, List.setIfInBounds_toArray, List.set_cons_zero, List.set_cons_succ]
        refine' wpAnyD_take (i := 11) (v := _) rfl (by kernel_rfl) (by kernel_rfl) (by kernel_rfl) (by kernel_rfl) (fun _ _ _ h => h) (Or.inl ⟨by rfl, ?hy110⟩) hS ?re110
        case hy110 => (intro w hSw; (try dsimp only at hSw); go_simp; (try with_reducible rfl))
        simp only [Act.put, List.setIfInBounds_toArray, List.set_cons_zero, List.set_cons_succ]
        refine' wpAnyD_take (i := 12) (v := _) rfl (by kernel_rfl) (by kernel_rfl) (by kernel_rfl) (by kernel_rfl) (fun _ _ _ h => h) (Or.inl ⟨by rfl, ?hy111⟩) hS ?re111
        case hy111 => (intro w hSw; (try dsimp only at hSw); go_simp; (try with_reducible rfl))
        simp only [Act.put, List.setIfInBounds_toArray, List.set_cons_zero, List.set_cons_succ]
        refine' wpAnyD_take (i := 13) (v := _) rfl (by kernel_rfl) (by kernel_rfl) (by kernel_rfl) (by kernel_rfl) (fun _ _ _ h => h) (Or.inl ⟨by rfl, ?hy112⟩) hS ?re112
        case hy112 => (intro w hSw; (try dsimp only at hSw); go_simp; (try with_reducible rfl))
        simp only [Act.put, List.setIfInBounds_toArray, List.set_cons_zero, List.set_cons_succ]
        refine wpAnyD_done (by kernel_rfl) ?_ _
        go_wp2
        go_ret
        exact ⟨rfl, Bd⟩
    ·
      go_wp2_with (first | (refine wpList_makeMap rfl rfl ?_; intro wm hM hB; have d0 := (hB.cell (p := ⟨w.heap.size, 0, none⟩) zA4).trans e0; have d1 := (hB.cell (p := ⟨w.heap.size, 1, none⟩) zA4).trans e1; have d2 := (hB.cell (p := ⟨w.heap.size, 2, none⟩) zA4).trans e2) | (refine wpList_insert rfl _ _ _ rfl w4.heap.size rfl _ hM _ _ rfl rfl (by simp) ?_; intro wn hMn hEn; replace hM := hMn; simp only [List.nil_append, List.cons_append] at hM; replace hB := hB.trans (hEn.below hB.size (Nat.le_refl _)); clear d0 d1 d2 hMn hEn; have d0 := (hB.cell (p := ⟨w.heap.size, 0, none⟩) zA4).trans e0; have d1 := (hB.cell (p := ⟨w.heap.size, 1, none⟩) zA4).trans e1; have d2 := (hB.cell (p := ⟨w.heap.size, 2, none⟩) zA4).trans e2) | (refine wpList_lookup rfl _ _ rfl w4.heap.size rfl _ hM 9 (9) rfl ⟨8, rfl⟩ ?_; refine stop ?_))
      unfold Stop
      clear hM d0 d1 d2 e0 e1 e2
      have hqn := hq4.keep (Nat.le_refl _) (fun k _ hk => hB.block k hk)
      have rn := r4.later hB
      have Bn := chain B4 hB
      clear r4 hq4 B4
      go_wp2_with (first | refine wpList_load_row rfl 28 _ rfl w.heap.size rfl 28 _ (0, 0) _ rn Try.underlying28 rfl hinf3 ?_ | (go_at_call 14; refine stop ?_))
      refine (request_any _ _ w2.heap.size wn hqn hgood).mono ?_
      rintro e w5 ⟨vb, rfl, ob, hb5⟩
      have r5 := rn.later hb5
      have B5 := chain Bn hb5
      have hby := ob.bytes hw8 (by unfold maxLen; omega)
      clear rn hqn Bn hb5
      obtain ⟨pb, nb, cb, rfl, hnb⟩ := ob.form
      obtain ⟨_, _, p', c', ee, hc⟩ := hby
      injection ee with i1 i2 i3
      subst i1
      clear i2 i3
      obtain ⟨bb, off, rfl, _, c0⟩ := hc 0 (by omega)
      rw [show Rq.bytes _ = _ from rfl] at c0
      unfold Rq.bytes at c0
      dsimp only at c0
      rw [Nat.add_zero, first_byte 9 (by decide)] at c0
      have hN' := HN.out
      have hM' := HM.out
      have hwant : ((nb : Int) == 9) = true := by
        rw [hnb]
        simp [Rq.bytes, Rq.body, intB_len]
      have nb0 : (0 : Int) < (nb : Int) := by omega
      have nb1 : (nb : Int) ≤ 1000 := by omega
      have nbn : 0 < nb := by omega
      clear hc ob hnb hN' hM'
      go_wp2_with fail
      refine wp_region_D (fun _ => true) (fun w' : World => w'.cell? ⟨bb, off, none⟩ = some (.int .u8 9) ∧ w'.cell? ⟨w.heap.size, 0, none⟩ = some (.int .i64 9)) (by kernel_rfl) ?_
      have hS : (fun w' : World => w'.cell? ⟨bb, off, none⟩ = some (.int .u8 9) ∧ w'.cell? ⟨w.heap.size, 0, none⟩ = some (.int .i64 9)) w5.drew := ⟨c0, r5.cell 0⟩
      have Bd : Below w.heap.size w w5.drew := B5.drew
      clear r5 c0 B5
      generalize w5.drew = w6 at *
      refine' wpAnyD_take (i := 0) (v := _) rfl (by kernel_rfl) (by kernel_rfl) (by kernel_rfl) (by kernel_rfl) (fun _ _ _ h => h) (Or.inl ⟨by rfl, ?hy113⟩) hS ?re113
      case hy113 => (intro w hSw; (try dsimp only at hSw); go_simp; (try with_reducible rfl))
      simp only [Act.put, List.setIfInBounds_toArray, List.set_cons_zero, List.set_cons_succ]
      refine' wpAnyD_take (i := 1) (v := _) rfl (by kernel_rfl) (by kernel_rfl) (by kernel_rfl) (by kernel_rfl) (fun _ _ _ h => h) (Or.inl ⟨by rfl, ?hy114⟩) hS ?re114
      case hy114 => (intro w hSw; (try dsimp only at hSw); go_simp; (try with_reducible rfl))
      simp only [Act.put, List.setIfInBounds_toArray, List.set_cons_zero, List.set_cons_succ]
      refine' wpAnyD_take (i := 2) (v := _) rfl (by kernel_rfl) (by kernel_rfl) (by kernel_rfl) (by kernel_rfl) (fun _ _ _ h => h) (Or.inl ⟨by rfl, ?hy115⟩) hS ?re115
      case hy115 => (intro w hSw; (try dsimp only at hSw); go_simp; (try with_reducible rfl))
      simp only [Act.put, List.setIfInBounds_toArray, List.set_cons_zero, List.set_cons_succ]
      refine' wpAnyD_take (i := 3) (v := _) rfl (by kernel_rfl) (by kernel_rfl) (by kernel_rfl) (by kernel_rfl) (fun _ _ _ h => h) (Or.inl ⟨by rfl, ?hy116⟩) hS ?re116
      case hy116 => (intro w hSw; (try dsimp only at hSw); go_simp; (try with_reducible rfl))
      simp only [Act.put, List.setIfInBounds_toArray, List.set_cons_zero, List.set_cons_succ]
      try rw [hwant]
      refine' wpAnyD_take (i := 4) (v := _) rfl (by kernel_rfl) (by kernel_rfl) (by kernel_rfl) (by kernel_rfl) (fun _ _ _ h => h) (Or.inl ⟨by rfl, ?hy117⟩) hS ?re117
      case hy117 => (intro w hSw; (try dsimp only at hSw); go_simp; (try with_reducible rfl))
      simp only [Act.put, List.setIfInBounds_toArray, List.set_cons_zero, List.set_cons_succ]
      refine' wpAnyD_take (i := 5) (v := _) rfl (by kernel_rfl) (by kernel_rfl) (by kernel_rfl) (by kernel_rfl) (fun _ _ _ h => h) (Or.inl ⟨by rfl, ?hy118⟩) hS ?re118
      case hy118 => (intro w hSw; (try dsimp only at hSw); go_simp; (try with_reducible rfl))
      simp only [Act.put, List.setIfInBounds_toArray, List.set_cons_zero, List.set_cons_succ]
      refine' wpAnyD_take (i := 6) (v := _) rfl (by kernel_rfl) (by kernel_rfl) (by kernel_rfl) (by kernel_rfl) (fun _ _ _ h => h) (Or.inl ⟨by rfl, ?hy119⟩) hS ?re119
      case hy119 => (intro w hSw; (try dsimp only at hSw); go_simp; (try with_reducible rfl))
      simp only [Act.put, List.setIfInBounds_toArray, List.set_cons_zero, List.set_cons_succ]
      refine' wpAnyD_take (i := 7) (v := _) rfl (by kernel_rfl) (by kernel_rfl) (by kernel_rfl) (by kernel_rfl) (fun _ _ _ h => h) (Or.inl ⟨by rfl, ?hy120⟩) hS ?re120
      case hy120 => (intro w hSw; (try dsimp only at hSw); go_simp; (try with_reducible rfl))
      simp only [Act.put, List.setIfInBounds_toArray, List.set_cons_zero, List.set_cons_succ]
      refine' wpAnyD_take (i := 8) (v := _) rfl (by kernel_rfl) (by kernel_rfl) (by kernel_rfl) (by kernel_rfl) (fun _ _ _ h => h) (Or.inl ⟨by rfl, ?hy121⟩) hS ?re121
      case hy121 => (intro w hSw; (try dsimp only at hSw); go_simp; (try with_reducible rfl))
      simp only [Act.put, List.setIfInBounds_toArray, List.set_cons_zero, List.set_cons_succ]
      refine' wpAnyD_take (i := 9) (v := _) rfl (by kernel_rfl) (by kernel_rfl) (by kernel_rfl) (by kernel_rfl) (fun _ _ _ h => h) (Or.inl ⟨by rfl, ?hy122⟩) hS ?re122
      case hy122 => (intro w hSw; (try dsimp only at hSw); go_simp; (try with_reducible rfl))
      simp only [Act.put, List.setIfInBounds_toArray, List.set_cons_zero, List.set_cons_succ]
      refine' wpAnyD_take (i := 10) (v := _) rfl (by kernel_rfl) (by kernel_rfl) (by kernel_rfl) (by kernel_rfl) (fun _ _ _ h => h) (Or.inl ⟨by rfl, ?hy123⟩) hS ?re123
      case hy123 => (intro w hSw; (try dsimp only at hSw); go_simp; (try with_reducible rfl))
      simp only [Act.put, List.setIfInBounds_toArray, List.set_cons_zero, List.set_cons_succ]
      refine' wpAnyD_take (i := 11) (v := _) rfl (by kernel_rfl) (by kernel_rfl) (by kernel_rfl) (by kernel_rfl) (fun _ _ _ h => h) (Or.inl ⟨by rfl, ?hy124⟩) hS ?re124
      case hy124 => (intro w hSw; (try dsimp only at hSw); go_simp; (try with_reducible rfl))
      simp only [Act.put, List.setIfInBounds_toArray, List.set_cons_zero, List.set_cons_succ]
      refine' wpAnyD_take (i := 12) (v := _) rfl (by kernel_rfl) (by kernel_rfl) (by kernel_rfl) (by kernel_rfl) (fun _ _ _ h => h) (Or.inl ⟨by rfl, ?hy125⟩) hS ?re125
      case hy125 => (intro w hSw; (try dsimp only at hSw); go_simp; (try with_reducible rfl))
      simp only [Act.put, List.setIfInBounds_toArray, List.set_cons_zero, List.set_cons_succ]
      refine' wpAnyD_take (i := 13) (v := _) rfl (by kernel_rfl) (by kernel_rfl) (by kernel_rfl) (by kernel_rfl) (fun _ _ _ h => h) (Or.inl ⟨by rfl, ?hy126⟩) hS ?re126
      case hy126 => (intro w hSw; (try dsimp only at hSw); go_simp; (try with_reducible rfl))
      simp only [Act.put, List.setIfInBounds_toArray, List.set_cons_zero, List.set_cons_succ]
      refine wpAnyD_done (by kernel_rfl) ?_ _
      go_wp2
      go_ret
      exact ⟨rfl, Bd⟩
end Go.Proofs.Ytiiaceeaffdmpaa
