
/-
  The walk of WireAny.
-/
import Derived.Test.YtiiaceeaffdmpaaWiK
namespace Go.Proofs.Ytiiaceeaffdmpaa
open Go.RowKit
set_option maxRecDepth 100000
set_option linter.unusedSimpArgs false
set_option linter.unusedVariables false

theorem rDrop_cons' (k : Nat) (b : List Nat) : rDrop 1 (k :: b, false) = (b, false) := by
  rw [rDrop_yes rfl (by simp)]
  rfl
theorem good_kind {q : Rq} (h : q.good) : 1 ≤ q.kind ∧ q.kind ≤ 9 := by
  rcases h with ⟨L, rfl, hL, _⟩ | ⟨L, rfl, hL, _⟩ | ⟨x, rfl, _⟩ | ⟨k, hi, lo, rfl, hk, _⟩ | ⟨k, hi, lo, fr, to, lim, rfl, hk, _⟩ | ⟨fr, to, rfl, _⟩ <;> dsimp only <;> omega
theorem rI_few (l : List Nat) (h : ¬ 1 < l.length) : ¬ ((rI 1 (l, false) = 1 ∨ rI 1 (l, false) = 2) ∧ 8 < rI 1 (rDrop 1 (l, false))) := by
  match l, h with
  | [], _ => decide
  | [x], _ => rw [rDrop_cons', rI_nil]; omega
  | x :: y :: t, h => simp at h
theorem rI_two (l : List Nat) (h : 1 < l.length) : rI 1 (l, false) = l.getD 0 0 ∧ rI 1 (rDrop 1 (l, false)) = l.getD 1 0 := by
  match l, h with
  | [], h => simp at h
  | [x], h => simp at h
  | x :: y :: t, _ => rw [rDrop_cons', rTake_cons, rTake_cons]; exact ⟨rfl, rfl⟩

set_option maxHeartbeats 8000000 in
theorem any_walk (v : Value) (l : List Nat) (w : World) (h : BytesAt w v l) :
    Calls Try.prog 4 #[v] w fun e w' => e = .returned (.bool true) ∧ Below w.heap.size w w' := by
  obtain ⟨h8, hm, p, c, rfl, hc⟩ := id h
  unfold maxLen at hm
  have l0 : (0 : Int) ≤ (l.length : Int) := by omega
  have l1 : (l.length : Int) ≤ 9223372036854775807 := by omega
  go_enter Try.func4, Try.ntmps4
  go_wp2_with (go_at_call 11; refine stop ?_)
  refine (fit_any w).mono ?_
  rintro e w1 ⟨rfl, hb1⟩
  by_cases hB : 2000 < l.length
  · have hB' : (2000 : Int) < (l.length : Int) := by omega
    clear hc
    go_wp2
    go_ret
    exact ⟨rfl, hb1⟩
  have hB' : ¬ (2000 : Int) < (l.length : Int) := by omega
  go_wp2_with (go_at_call 15; refine stop ?_)
  refine (readReq_any _ l w1 (h.later hb1) (by omega)).mono ?_
  have hsound := parse_sound l h8
  have herr := parse_err l
  obtain ⟨q, E, hp⟩ : ∃ q E, parse l = (q, E) := ⟨_, _, rfl⟩
  rw [hp] at hsound herr ⊢
  dsimp only at hsound herr ⊢
  clear hp
  rintro e w2 ⟨uw2, rfl, hq2, hb2⟩
  obtain ⟨cw2, rfl, hsw2, how2⟩ := hq2.row
  have hi2 := info_rq' hsw2
  have rw2 := (Row.new w2 (rqC 0 (.slice none 0 0) (.slice none 0 0) 0 0 0 0 0) 28 rfl).setRow cw2
  have bw2 : Below w2.heap.size w2 ((w2.alloc (.cells (rqC 0 (.slice none 0 0) (.slice none 0 0) 0 0 0 0 0) 28)).setRow w2.heap.size cw2) := Below.row (below1 w2 _) _ (Nat.le_refl _)
  go_wp2_with (refine wpList_store_row rfl 28 _ _ rfl w2.heap.size cw2 rfl rfl 28 _ (heap_alloc_new w2 _) (info_rq' hsw2) (by rw [hsw2]; rfl) how2 ?_; refine stop ?_)
  rw [rq_lit]
  unfold Stop
  generalize (w2.alloc (.cells (rqC 0 (.slice none 0 0) (.slice none 0 0) 0 0 0 0 0) 28)).setRow w2.heap.size cw2 = w3 at *
  have B3 := chain (chain hb1 hb2) bw2
  have hv3 := h.later B3
  have hq3 : RqAt w3 w1.heap.size (.agg cw2) q := hq2.keep (Nat.le_refl _) (fun k _ hk => bw2.block k hk)
  have z3 := rw2.lt
  clear hq2 hb1 hb2 bw2
  by_cases hE : E = 0
  · subst hE
    obtain ⟨hg, hby⟩ := hsound rfl
    clear hsound herr hc
    obtain ⟨k, AA, TT, hi, lo, fr, to, lim⟩ := q
    obtain ⟨va, vt, hcw, ha, ht⟩ := hq3
    dsimp only at hcw ha ht
    cases hcw
    obtain ⟨t1, t2⟩ := Rq.good_len hg
    obtain ⟨kb0, kb1⟩ := good_kind hg
    have htm := tame_inn _ hg
    dsimp only at t1 t2 kb0 kb1
    have kc0 : (1 : Int) ≤ (k : Int) := by omega
    have kc1 : (k : Int) ≤ 9 := by omega
    have hBy : Hid (Rq.bytes ⟨k, AA, TT, hi, lo, fr, to, lim⟩ = l) := hby
    obtain ⟨pva, nva, cva, hvva, hnva⟩ := ownsRow_form ha
    obtain ⟨pvt, nvt, cvt, hvvt, hnvt⟩ := ownsRow_form ht
    have hva : va.oneCell' = true := slice_one ha
    have hvt : vt.oneCell' = true := slice_one ht
    subst hvva hvvt
    clear hby hnva hnvt
    go_wp2_with fail
    refine wp_region_D (fun _ => true) (fun w' : World => Row w' w2.heap.size (rqC k (.slice pva nva cva) (.slice pvt nvt cvt) hi lo fr to lim) 28 ∧ BytesAt w' (.slice p l.length c) l ∧ w'.cell? ⟨w2.heap.size, 0, none⟩ = some (.int .i64 (k : Nat)) ∧ w'.cell? ⟨w2.heap.size, 1, none⟩ = some ((.slice pva nva cva)) ∧ w'.cell? ⟨w2.heap.size, 2, none⟩ = some ((.slice pvt nvt cvt)) ∧ w'.cell? ⟨w2.heap.size, 3, none⟩ = some (.int .u64 (hi : Nat)) ∧ w'.cell? ⟨w2.heap.size, 4, none⟩ = some (.int .u64 (lo : Nat)) ∧ w'.cell? ⟨w2.heap.size, 5, none⟩ = some (.int .i64 (fr : Nat)) ∧ w'.cell? ⟨w2.heap.size, 6, none⟩ = some (.int .i64 (to : Nat)) ∧ w'.cell? ⟨w2.heap.size, 7, none⟩ = some (.int .i64 (lim : Nat))) (by kernel_rfl) ?_
    have rd : Row w3.drew w2.heap.size (rqC k (.slice pva nva cva) (.slice pvt nvt cvt) hi lo fr to lim) 28 := rw2
    have vd : BytesAt w3.drew (.slice p l.length c) l := hv3.later (Below.refl _ _).drew
    have ad : AcsAt w3.drew w1.heap.size (.slice pva nva cva) AA := ownsRow_keep ha (fun _ _ _ _ => rfl)
    have td : TrsAt w3.drew w1.heap.size (.slice pvt nvt cvt) TT := ownsRow_keep ht (fun _ _ _ _ => rfl)
    have Bd : Below w.heap.size w w3.drew := B3.drew
    have hS : (fun w' : World => Row w' w2.heap.size (rqC k (.slice pva nva cva) (.slice pvt nvt cvt) hi lo fr to lim) 28 ∧ BytesAt w' (.slice p l.length c) l ∧ w'.cell? ⟨w2.heap.size, 0, none⟩ = some (.int .i64 (k : Nat)) ∧ w'.cell? ⟨w2.heap.size, 1, none⟩ = some ((.slice pva nva cva)) ∧ w'.cell? ⟨w2.heap.size, 2, none⟩ = some ((.slice pvt nvt cvt)) ∧ w'.cell? ⟨w2.heap.size, 3, none⟩ = some (.int .u64 (hi : Nat)) ∧ w'.cell? ⟨w2.heap.size, 4, none⟩ = some (.int .u64 (lo : Nat)) ∧ w'.cell? ⟨w2.heap.size, 5, none⟩ = some (.int .i64 (fr : Nat)) ∧ w'.cell? ⟨w2.heap.size, 6, none⟩ = some (.int .i64 (to : Nat)) ∧ w'.cell? ⟨w2.heap.size, 7, none⟩ = some (.int .i64 (lim : Nat))) w3.drew := ⟨rd, vd, (rd).cell 0, (rd).cell 1, (rd).cell 2, (rd).cell 3, (rd).cell 4, (rd).cell 5, (rd).cell 6, (rd).cell 7⟩
    clear rw2 hv3 ha ht B3 z3
    generalize w3.drew = w4 at *
    refine wpAnyD_take (i := 0) rfl (by kernel_rfl) (by kernel_rfl) (by kernel_rfl) (by kernel_rfl) (fun _ _ _ h => h) (yields_row (by rfl) 28 _ rfl w2.heap.size rfl 28 (rqC k (.slice pva nva cva) (.slice pvt nvt cvt) hi lo fr to lim) _ (fun _ h => h.1) Try.underlying28 rfl info_rq) hS ?_
    simp only [Act.put, List.setIfInBounds_toArray, List.set_cons_zero, List.set_cons_succ]
    refine' wpAnyD_take (i := 3) (v := _) rfl (by kernel_rfl) (by kernel_rfl) (by kernel_rfl) (by kernel_rfl) (fun _ _ _ h => h) (Or.inl ⟨by rfl, ?hy1⟩) hS ?re1
    case hy1 => (intro w hSw; (try dsimp only at hSw); go_simp; (try with_reducible rfl))
    simp only [Act.put, List.setIfInBounds_toArray, List.set_cons_zero, List.set_cons_succ]
    refine wpAnyD_take (i := 4) rfl (by kernel_rfl) (by kernel_rfl) (by kernel_rfl) (by kernel_rfl) (fun _ _ _ h => h) (yields_conv (by rfl) _ rfl (.slice p l.length c) rfl l (fun _ h => h.2.1)) hS ?_
    simp only [Act.put, List.setIfInBounds_toArray, List.set_cons_zero, List.set_cons_succ]
    refine wpAnyD_only (i := 1) rfl (by kernel_rfl) (by rfl) (fun K hK => ?_)
    go_simp
    refine (request_any (.agg (rqC k (.slice pva nva cva) (.slice pvt nvt cvt) hi lo fr to lim)) ⟨k, AA, TT, hi, lo, fr, to, lim⟩ w1.heap.size w4 ⟨_, _, rfl, ad, td⟩ hg).mono ?_
    rw [hBy.out]
    rintro e w5 ⟨x1, rfl, o1, hb5⟩
    have hx1 : BytesAt w5 x1 l := o1.bytes h8 (by unfold maxLen; omega)
    have r5 := rd.later hb5
    have v5 := vd.later hb5
    have a5 : AcsAt w5 w1.heap.size (.slice pva nva cva) AA := ownsRow_keep ad (fun k _ hk _ => hb5.block k hk)
    have t5 : TrsAt w5 w1.heap.size (.slice pvt nvt cvt) TT := ownsRow_keep td (fun k _ hk _ => hb5.block k hk)
    have B5 := chain Bd hb5
    try dsimp only
    have hSn := (⟨r5, v5, (r5).cell 0, (r5).cell 1, (r5).cell 2, (r5).cell 3, (r5).cell 4, (r5).cell 5, (r5).cell 6, (r5).cell 7⟩ : (fun w' : World => Row w' w2.heap.size (rqC k (.slice pva nva cva) (.slice pvt nvt cvt) hi lo fr to lim) 28 ∧ BytesAt w' (.slice p l.length c) l ∧ w'.cell? ⟨w2.heap.size, 0, none⟩ = some (.int .i64 (k : Nat)) ∧ w'.cell? ⟨w2.heap.size, 1, none⟩ = some ((.slice pva nva cva)) ∧ w'.cell? ⟨w2.heap.size, 2, none⟩ = some ((.slice pvt nvt cvt)) ∧ w'.cell? ⟨w2.heap.size, 3, none⟩ = some (.int .u64 (hi : Nat)) ∧ w'.cell? ⟨w2.heap.size, 4, none⟩ = some (.int .u64 (lo : Nat)) ∧ w'.cell? ⟨w2.heap.size, 5, none⟩ = some (.int .i64 (fr : Nat)) ∧ w'.cell? ⟨w2.heap.size, 6, none⟩ = some (.int .i64 (to : Nat)) ∧ w'.cell? ⟨w2.heap.size, 7, none⟩ = some (.int .i64 (lim : Nat))) w5)
    refine hK.out _ _ (fun _ => hSn) ?_
    clear hK K hS
    have hS := hSn
    clear hSn
    try simp only [Act.put, List.setIfInBounds_toArray, List.set_cons_zero, List.set_cons_succ]
    clear rd vd ad td Bd hb5 o1
    refine wpAnyD_more (S2 := (fun w' : World => (Row w' w2.heap.size (rqC k (.slice pva nva cva) (.slice pvt nvt cvt) hi lo fr to lim) 28 ∧ BytesAt w' (.slice p l.length c) l ∧ w'.cell? ⟨w2.heap.size, 0, none⟩ = some (.int .i64 (k : Nat)) ∧ w'.cell? ⟨w2.heap.size, 1, none⟩ = some ((.slice pva nva cva)) ∧ w'.cell? ⟨w2.heap.size, 2, none⟩ = some ((.slice pvt nvt cvt)) ∧ w'.cell? ⟨w2.heap.size, 3, none⟩ = some (.int .u64 (hi : Nat)) ∧ w'.cell? ⟨w2.heap.size, 4, none⟩ = some (.int .u64 (lo : Nat)) ∧ w'.cell? ⟨w2.heap.size, 5, none⟩ = some (.int .i64 (fr : Nat)) ∧ w'.cell? ⟨w2.heap.size, 6, none⟩ = some (.int .i64 (to : Nat)) ∧ w'.cell? ⟨w2.heap.size, 7, none⟩ = some (.int .i64 (lim : Nat))) ∧ BytesAt w' x1 l)) (fun _ h => h.1) _ _ _ _ ?_
    replace hS : (fun w' : World => (Row w' w2.heap.size (rqC k (.slice pva nva cva) (.slice pvt nvt cvt) hi lo fr to lim) 28 ∧ BytesAt w' (.slice p l.length c) l ∧ w'.cell? ⟨w2.heap.size, 0, none⟩ = some (.int .i64 (k : Nat)) ∧ w'.cell? ⟨w2.heap.size, 1, none⟩ = some ((.slice pva nva cva)) ∧ w'.cell? ⟨w2.heap.size, 2, none⟩ = some ((.slice pvt nvt cvt)) ∧ w'.cell? ⟨w2.heap.size, 3, none⟩ = some (.int .u64 (hi : Nat)) ∧ w'.cell? ⟨w2.heap.size, 4, none⟩ = some (.int .u64 (lo : Nat)) ∧ w'.cell? ⟨w2.heap.size, 5, none⟩ = some (.int .i64 (fr : Nat)) ∧ w'.cell? ⟨w2.heap.size, 6, none⟩ = some (.int .i64 (to : Nat)) ∧ w'.cell? ⟨w2.heap.size, 7, none⟩ = some (.int .i64 (lim : Nat))) ∧ BytesAt w' x1 l) w5 := ⟨⟨r5, v5, (r5).cell 0, (r5).cell 1, (r5).cell 2, (r5).cell 3, (r5).cell 4, (r5).cell 5, (r5).cell 6, (r5).cell 7⟩, hx1⟩
    refine wpAnyD_take (i := 2) rfl (by kernel_rfl) (by kernel_rfl) (by kernel_rfl) (by kernel_rfl) (fun _ _ _ h => h) (yields_conv (by rfl) _ rfl x1 rfl l (fun _ h => h.2)) hS ?_
    simp only [Act.put, List.setIfInBounds_toArray, List.set_cons_zero, List.set_cons_succ]
    refine' wpAnyD_take (i := 5) (v := _) rfl (by kernel_rfl) (by kernel_rfl) (by kernel_rfl) (by kernel_rfl) (fun _ _ _ h => h) (Or.inl ⟨by rfl, ?hy2⟩) hS ?re2
    case hy2 => (intro w hSw; (try dsimp only at hSw); go_simp; (try with_reducible rfl))
    simp only [Act.put, List.setIfInBounds_toArray, List.set_cons_zero, List.set_cons_succ]
    refine' wpAnyD_take (i := 6) (v := _) rfl (by kernel_rfl) (by kernel_rfl) (by kernel_rfl) (by kernel_rfl) (fun _ _ _ h => h) (Or.inl ⟨by rfl, ?hy3⟩) hS ?re3
    case hy3 => (intro w hSw; (try dsimp only at hSw); go_simp; (try with_reducible rfl))
    simp only [Act.put, List.setIfInBounds_toArray, List.set_cons_zero, List.set_cons_succ]
    refine' wpAnyD_take (i := 7) (v := _) rfl (by kernel_rfl) (by kernel_rfl) (by kernel_rfl) (by kernel_rfl) (fun _ _ _ h => h) (Or.inl ⟨by rfl, ?hy4⟩) hS ?re4
    case hy4 => (intro w hSw; (try dsimp only at hSw); go_simp; (try with_reducible rfl))
    simp only [Act.put, List.setIfInBounds_toArray, List.set_cons_zero, List.set_cons_succ]
    refine' wpAnyD_take (i := 8) (v := _) rfl (by kernel_rfl) (by kernel_rfl) (by kernel_rfl) (by kernel_rfl) (fun _ _ _ h => h) (Or.inl ⟨by rfl, ?hy5⟩) hS ?re5
    case hy5 => (intro w hSw; (try dsimp only at hSw); go_simp; (try with_reducible rfl))
    simp only [Act.put, List.setIfInBounds_toArray, List.set_cons_zero, List.set_cons_succ]
    refine' wpAnyD_take (i := 9) (v := _) rfl (by kernel_rfl) (by kernel_rfl) (by kernel_rfl) (by kernel_rfl) (fun _ _ _ h => h) (Or.inl ⟨by rfl, ?hy6⟩) hS ?re6
    case hy6 => (intro w hSw; (try dsimp only at hSw); go_simp; (try with_reducible rfl))
    simp only [Act.put, List.setIfInBounds_toArray, List.set_cons_zero, List.set_cons_succ]
    refine' wpAnyD_take (i := 10) (v := _) rfl (by kernel_rfl) (by kernel_rfl) (by kernel_rfl) (by kernel_rfl) (fun _ _ _ h => h) (Or.inl ⟨by rfl, ?hy7⟩) hS ?re7
    case hy7 => (intro w hSw; (try dsimp only at hSw); go_simp; (try with_reducible rfl))
    simp only [Act.put, List.setIfInBounds_toArray, List.set_cons_zero, List.set_cons_succ]
    refine' wpAnyD_take (i := 11) (v := _) rfl (by kernel_rfl) (by kernel_rfl) (by kernel_rfl) (by kernel_rfl) (fun _ _ _ h => h) (Or.inl ⟨by rfl, ?hy8⟩) hS ?re8
    case hy8 => (intro w hSw; (try dsimp only at hSw); go_simp; (try with_reducible rfl))
    simp only [Act.put, List.setIfInBounds_toArray, List.set_cons_zero, List.set_cons_succ]
    refine' wpAnyD_take (i := 12) (v := _) rfl (by kernel_rfl) (by kernel_rfl) (by kernel_rfl) (by kernel_rfl) (fun _ _ _ h => h) (Or.inl ⟨by rfl, ?hy9⟩) hS ?re9
    case hy9 => (intro w hSw; (try dsimp only at hSw); go_simp; (try with_reducible rfl))
    simp only [Act.put, List.setIfInBounds_toArray, List.set_cons_zero, List.set_cons_succ]
    refine' wpAnyD_take (i := 13) (v := _) rfl (by kernel_rfl) (by kernel_rfl) (by kernel_rfl) (by kernel_rfl) (fun _ _ _ h => h) (Or.inl ⟨by rfl, ?hy10⟩) hS ?re10
    case hy10 => (intro w hSw; (try dsimp only at hSw); go_simp; (try with_reducible rfl))
    simp only [Act.put, List.setIfInBounds_toArray, List.set_cons_zero, List.set_cons_succ]
    refine' wpAnyD_take (i := 14) (v := _) rfl (by kernel_rfl) (by kernel_rfl) (by kernel_rfl) (by kernel_rfl) (fun _ _ _ h => h) (Or.inl ⟨by rfl, ?hy11⟩) hS ?re11
    case hy11 => (intro w hSw; (try dsimp only at hSw); go_simp; (try with_reducible rfl))
    simp only [Act.put, List.setIfInBounds_toArray, List.set_cons_zero, List.set_cons_succ]
    refine' wpAnyD_take (i := 15) (v := _) rfl (by kernel_rfl) (by kernel_rfl) (by kernel_rfl) (by kernel_rfl) (fun _ _ _ h => h) (Or.inl ⟨by rfl, ?hy12⟩) hS ?re12
    case hy12 => (intro w hSw; (try dsimp only at hSw); go_simp; (try with_reducible rfl))
    simp only [Act.put, List.setIfInBounds_toArray, List.set_cons_zero, List.set_cons_succ]
    refine' wpAnyD_take (i := 16) (v := _) rfl (by kernel_rfl) (by kernel_rfl) (by kernel_rfl) (by kernel_rfl) (fun _ _ _ h => h) (Or.inl ⟨by rfl, ?hy13⟩) hS ?re13
    case hy13 => (intro w hSw; (try dsimp only at hSw); go_simp; (try with_reducible rfl))
    simp only [Act.put, List.setIfInBounds_toArray, List.set_cons_zero, List.set_cons_succ]
    refine' wpAnyD_take (i := 17) (v := _) rfl (by kernel_rfl) (by kernel_rfl) (by kernel_rfl) (by kernel_rfl) (fun _ _ _ h => h) (Or.inl ⟨by rfl, ?hy14⟩) hS ?re14
    case hy14 => (intro w hSw; (try dsimp only at hSw); go_simp; (try with_reducible rfl))
    simp only [Act.put, List.setIfInBounds_toArray, List.set_cons_zero, List.set_cons_succ]
    refine' wpAnyD_take (i := 18) (v := _) rfl (by kernel_rfl) (by kernel_rfl) (by kernel_rfl) (by kernel_rfl) (fun _ _ _ h => h) (Or.inl ⟨by rfl, ?hy15⟩) hS ?re15
    case hy15 => (intro w hSw; (try dsimp only at hSw); go_simp; (try with_reducible rfl))
    simp only [Act.put, List.setIfInBounds_toArray, List.set_cons_zero, List.set_cons_succ]
    refine' wpAnyD_take (i := 19) (v := _) rfl (by kernel_rfl) (by kernel_rfl) (by kernel_rfl) (by kernel_rfl) (fun _ _ _ h => h) (Or.inl ⟨by rfl, ?hy16⟩) hS ?re16
    case hy16 => (intro w hSw; (try dsimp only at hSw); go_simp; (try with_reducible rfl))
    simp only [Act.put, List.setIfInBounds_toArray, List.set_cons_zero, List.set_cons_succ]
    refine' wpAnyD_take (i := 20) (v := _) rfl (by kernel_rfl) (by kernel_rfl) (by kernel_rfl) (by kernel_rfl) (fun _ _ _ h => h) (Or.inl ⟨by rfl, ?hy17⟩) hS ?re17
    case hy17 => (intro w hSw; (try dsimp only at hSw); go_simp; (try with_reducible rfl))
    simp only [Act.put, List.setIfInBounds_toArray, List.set_cons_zero, List.set_cons_succ]
    refine' wpAnyD_take (i := 21) (v := _) rfl (by kernel_rfl) (by kernel_rfl) (by kernel_rfl) (by kernel_rfl) (fun _ _ _ h => h) (Or.inl ⟨by rfl, ?hy18⟩) hS ?re18
    case hy18 => (intro w hSw; (try dsimp only at hSw); go_simp; (try with_reducible rfl))
    simp only [Act.put, List.setIfInBounds_toArray, List.set_cons_zero, List.set_cons_succ]
    refine' wpAnyD_take (i := 22) (v := _) rfl (by kernel_rfl) (by kernel_rfl) (by kernel_rfl) (by kernel_rfl) (fun _ _ _ h => h) (Or.inl ⟨by rfl, ?hy19⟩) hS ?re19
    case hy19 => (intro w hSw; (try dsimp only at hSw); go_simp; (try with_reducible rfl))
    simp only [Act.put, List.setIfInBounds_toArray, List.set_cons_zero, List.set_cons_succ]
    have hwrap : IntKind.i64.wrap ((k : Int) - 1) = (k : Int) - 1 := by rw [IntKind.wrap_i64]; omega
    rw [hwrap, show (#[.int .i64 ((k : Int) - 1), (.slice pva nva cva), (.slice pvt nvt cvt), .int .u64 (hi : Nat), .int .u64 (lo : Nat), .int .i64 (fr : Nat), .int .i64 (to : Nat), .int .i64 (lim : Nat)] : Array Value) = riC ((k : Int) - 1) (.slice pva nva cva) (.slice pvt nvt cvt) hi lo fr to lim from rfl]
    refine wpAnyD_take (i := 24) rfl (by kernel_rfl) (by kernel_rfl) (by kernel_rfl) (by kernel_rfl) (fun _ _ _ h => h) (yields_row (by rfl) 28 _ rfl w2.heap.size rfl 28 (rqC k (.slice pva nva cva) (.slice pvt nvt cvt) hi lo fr to lim) _ (fun _ h => h.1.1) Try.underlying28 rfl info_rq) hS ?_
    simp only [Act.put, List.setIfInBounds_toArray, List.set_cons_zero, List.set_cons_succ]
    have hin := RqAt.inn a5 t5 hg
    refine wpAnyD_only (i := 23) rfl (by kernel_rfl) (by rfl) (fun K hK => ?_)
    go_simp
    refine (tame_any _ _ w5 hin (by simpa [Rq.inn] using t1) (by simpa [Rq.inn] using t2)).mono ?_
    rw [htm]
    rintro e w6 ⟨u6, rfl, hq6, hb6⟩
    have r6 := r5.later hb6
    have v6 := v5.later hb6
    have x6 := hx1.later hb6
    have hqo : RqAt w6 w1.heap.size (.agg (rqC k (.slice pva nva cva) (.slice pvt nvt cvt) hi lo fr to lim)) ⟨k, AA, TT, hi, lo, fr, to, lim⟩ := ⟨_, _, rfl, ownsRow_keep a5 (fun k _ hk _ => hb6.block k hk), ownsRow_keep t5 (fun k _ hk _ => hb6.block k hk)⟩
    have B6 := chain B5 hb6
    try dsimp only
    have hSn := (⟨⟨r6, v6, (r6).cell 0, (r6).cell 1, (r6).cell 2, (r6).cell 3, (r6).cell 4, (r6).cell 5, (r6).cell 6, (r6).cell 7⟩, x6⟩ : (fun w' : World => (Row w' w2.heap.size (rqC k (.slice pva nva cva) (.slice pvt nvt cvt) hi lo fr to lim) 28 ∧ BytesAt w' (.slice p l.length c) l ∧ w'.cell? ⟨w2.heap.size, 0, none⟩ = some (.int .i64 (k : Nat)) ∧ w'.cell? ⟨w2.heap.size, 1, none⟩ = some ((.slice pva nva cva)) ∧ w'.cell? ⟨w2.heap.size, 2, none⟩ = some ((.slice pvt nvt cvt)) ∧ w'.cell? ⟨w2.heap.size, 3, none⟩ = some (.int .u64 (hi : Nat)) ∧ w'.cell? ⟨w2.heap.size, 4, none⟩ = some (.int .u64 (lo : Nat)) ∧ w'.cell? ⟨w2.heap.size, 5, none⟩ = some (.int .i64 (fr : Nat)) ∧ w'.cell? ⟨w2.heap.size, 6, none⟩ = some (.int .i64 (to : Nat)) ∧ w'.cell? ⟨w2.heap.size, 7, none⟩ = some (.int .i64 (lim : Nat))) ∧ BytesAt w' x1 l) w6)
    refine hK.out _ _ (fun _ => hSn) ?_
    clear hK K hS
    have hS := hSn
    clear hSn
    try simp only [Act.put, List.setIfInBounds_toArray, List.set_cons_zero, List.set_cons_succ]
    clear r5 v5 hx1 a5 t5 B5 hb6 hin
    refine wpAnyD_only (i := 25) rfl (by kernel_rfl) (by rfl) (fun K hK => ?_)
    go_simp
    refine (same_any _ _ u6 (.agg (rqC k (.slice pva nva cva) (.slice pvt nvt cvt) hi lo fr to lim)) w5.heap.size w1.heap.size w6 hq6 hqo t1 t2 t1 t2).mono ?_
    rintro e w7 ⟨r, rfl, hr, hb7⟩
    obtain rfl : r = true := by simpa using hr
    try dsimp only
    have hSn := (⟨⟨(r6.later hb7), (v6.later hb7), ((r6.later hb7)).cell 0, ((r6.later hb7)).cell 1, ((r6.later hb7)).cell 2, ((r6.later hb7)).cell 3, ((r6.later hb7)).cell 4, ((r6.later hb7)).cell 5, ((r6.later hb7)).cell 6, ((r6.later hb7)).cell 7⟩, x6.later hb7⟩ : (fun w' : World => (Row w' w2.heap.size (rqC k (.slice pva nva cva) (.slice pvt nvt cvt) hi lo fr to lim) 28 ∧ BytesAt w' (.slice p l.length c) l ∧ w'.cell? ⟨w2.heap.size, 0, none⟩ = some (.int .i64 (k : Nat)) ∧ w'.cell? ⟨w2.heap.size, 1, none⟩ = some ((.slice pva nva cva)) ∧ w'.cell? ⟨w2.heap.size, 2, none⟩ = some ((.slice pvt nvt cvt)) ∧ w'.cell? ⟨w2.heap.size, 3, none⟩ = some (.int .u64 (hi : Nat)) ∧ w'.cell? ⟨w2.heap.size, 4, none⟩ = some (.int .u64 (lo : Nat)) ∧ w'.cell? ⟨w2.heap.size, 5, none⟩ = some (.int .i64 (fr : Nat)) ∧ w'.cell? ⟨w2.heap.size, 6, none⟩ = some (.int .i64 (to : Nat)) ∧ w'.cell? ⟨w2.heap.size, 7, none⟩ = some (.int .i64 (lim : Nat))) ∧ BytesAt w' x1 l) w7)
    refine hK.out _ _ (fun _ => hSn) ?_
    clear hK K hS
    have hS := hSn
    clear hSn
    try simp only [Act.put, List.setIfInBounds_toArray, List.set_cons_zero, List.set_cons_succ]
    refine' wpAnyD_take (i := 26) (v := _) rfl (by kernel_rfl) (by kernel_rfl) (by kernel_rfl) (by kernel_rfl) (fun _ _ _ h => h) (Or.inl ⟨by rfl, ?hy20⟩) hS ?re20
    case hy20 => (intro w hSw; (try dsimp only at hSw); go_simp; (try with_reducible rfl))
    simp only [Act.put, List.setIfInBounds_toArray, List.set_cons_zero, List.set_cons_succ]
    refine' wpAnyD_take (i := 27) (v := _) rfl (by kernel_rfl) (by kernel_rfl) (by kernel_rfl) (by kernel_rfl) (fun _ _ _ h => h) (Or.inl ⟨by rfl, ?hy21⟩) hS ?re21
    case hy21 => (intro w hSw; (try dsimp only at hSw); go_simp; (try with_reducible rfl))
    simp only [Act.put, List.setIfInBounds_toArray, List.set_cons_zero, List.set_cons_succ]
    refine wpAnyD_done (by kernel_rfl) ?_ _
    go_wp2
    go_ret
    exact ⟨rfl, chain B6 hb7⟩
  · have hE' : ((E : Int) == 0) = false := by simp; omega
    obtain ⟨rfl, he2, he1⟩ := herr hE
    clear herr hsound
    by_cases hlen : 1 < l.length
    · have hlen' : (1 : Int) < (l.length : Int) := by omega
      obtain ⟨e0, e1⟩ := rI_two l hlen
      rw [e0, e1] at he2 he1
      obtain ⟨_, _, p', c', ee, hc3⟩ := hv3
      cases ee
      obtain ⟨bb, off, rfl, _, c0⟩ := hc3 0 (by omega)
      obtain ⟨bb', off', ee, _, c1⟩ := hc3 1 hlen
      cases ee
      have x0 := h8.at 0
      have x1 := h8.at 1
      rw [Nat.add_zero] at c0
      clear hc3 hc e0 e1 h
      generalize l.getD 0 0 = b0 at *
      generalize l.getD 1 0 = b1 at *
      by_cases k8 : 8 < b1
      · have k8' : (8 : Int) < (b1 : Int) := by omega
        by_cases k1 : b0 = 1
        · subst k1
          obtain rfl := he2 ⟨Or.inl rfl, k8⟩
          clear he1 he2 hE hE'
          go_wp2_with (first | refine wpList_load_row rfl 28 _ rfl w2.heap.size rfl 28 cw2 (0, 0) _ rw2 Try.underlying28 rfl hi2 ?_ | (go_at_call 16; refine stop ?_))
          rw [rq_lit]
          refine (same_any Rq.zero Rq.zero (.agg cw2) (.agg (rqC 0 (.slice none 0 0) (.slice none 0 0) 0 0 0 0 0)) w1.heap.size 0 w3 hq3 (RqAt.zero _ _) (by decide) (by decide) (by decide) (by decide)).mono ?_
          rintro e w4 ⟨r, rfl, hr, hb4⟩
          obtain rfl : r = true := by simpa using hr
          clear hr
          go_wp2
          go_ret
          exact ⟨rfl, chain B3 hb4⟩
        · have k1' : ((b0 : Int) == 1) = false := by simp; omega
          by_cases k2 : b0 = 2
          · subst k2
            obtain rfl := he2 ⟨Or.inr rfl, k8⟩
            clear he1 he2 hE hE'
            go_wp2_with (first | refine wpList_load_row rfl 28 _ rfl w2.heap.size rfl 28 cw2 (0, 0) _ rw2 Try.underlying28 rfl hi2 ?_ | (go_at_call 16; refine stop ?_))
            rw [rq_lit]
            refine (same_any Rq.zero Rq.zero (.agg cw2) (.agg (rqC 0 (.slice none 0 0) (.slice none 0 0) 0 0 0 0 0)) w1.heap.size 0 w3 hq3 (RqAt.zero _ _) (by decide) (by decide) (by decide) (by decide)).mono ?_
            rintro e w4 ⟨r, rfl, hr, hb4⟩
            obtain rfl : r = true := by simpa using hr
            clear hr
            go_wp2
            go_ret
            exact ⟨rfl, chain B3 hb4⟩
          · have k2' : ((b0 : Int) == 2) = false := by simp; omega
            obtain rfl := he1 (by omega)
            clear he1 he2 hE hE'
            go_wp2_with (first | refine wpList_load_row rfl 28 _ rfl w2.heap.size rfl 28 cw2 (0, 0) _ rw2 Try.underlying28 rfl hi2 ?_ | (go_at_call 16; refine stop ?_))
            rw [rq_lit]
            refine (same_any Rq.zero Rq.zero (.agg cw2) (.agg (rqC 0 (.slice none 0 0) (.slice none 0 0) 0 0 0 0 0)) w1.heap.size 0 w3 hq3 (RqAt.zero _ _) (by decide) (by decide) (by decide) (by decide)).mono ?_
            rintro e w4 ⟨r, rfl, hr, hb4⟩
            obtain rfl : r = true := by simpa using hr
            clear hr
            go_wp2
            go_ret
            exact ⟨rfl, chain B3 hb4⟩
      · have k8' : ¬ (8 : Int) < (b1 : Int) := by omega
        obtain rfl := he1 (by omega)
        clear he1 he2 hE hE'
        by_cases k1 : b0 = 1
        · subst k1
          go_wp2_with (first | refine wpList_load_row rfl 28 _ rfl w2.heap.size rfl 28 cw2 (0, 0) _ rw2 Try.underlying28 rfl hi2 ?_ | (go_at_call 16; refine stop ?_))
          rw [rq_lit]
          refine (same_any Rq.zero Rq.zero (.agg cw2) (.agg (rqC 0 (.slice none 0 0) (.slice none 0 0) 0 0 0 0 0)) w1.heap.size 0 w3 hq3 (RqAt.zero _ _) (by decide) (by decide) (by decide) (by decide)).mono ?_
          rintro e w4 ⟨r, rfl, hr, hb4⟩
          obtain rfl : r = true := by simpa using hr
          clear hr
          go_wp2
          go_ret
          exact ⟨rfl, chain B3 hb4⟩
        · have k1' : ((b0 : Int) == 1) = false := by simp; omega
          by_cases k2 : b0 = 2
          · subst k2
            go_wp2_with (first | refine wpList_load_row rfl 28 _ rfl w2.heap.size rfl 28 cw2 (0, 0) _ rw2 Try.underlying28 rfl hi2 ?_ | (go_at_call 16; refine stop ?_))
            rw [rq_lit]
            refine (same_any Rq.zero Rq.zero (.agg cw2) (.agg (rqC 0 (.slice none 0 0) (.slice none 0 0) 0 0 0 0 0)) w1.heap.size 0 w3 hq3 (RqAt.zero _ _) (by decide) (by decide) (by decide) (by decide)).mono ?_
            rintro e w4 ⟨r, rfl, hr, hb4⟩
            obtain rfl : r = true := by simpa using hr
            clear hr
            go_wp2
            go_ret
            exact ⟨rfl, chain B3 hb4⟩
          · have k2' : ((b0 : Int) == 2) = false := by simp; omega
            go_wp2_with (first | refine wpList_load_row rfl 28 _ rfl w2.heap.size rfl 28 cw2 (0, 0) _ rw2 Try.underlying28 rfl hi2 ?_ | (go_at_call 16; refine stop ?_))
            rw [rq_lit]
            refine (same_any Rq.zero Rq.zero (.agg cw2) (.agg (rqC 0 (.slice none 0 0) (.slice none 0 0) 0 0 0 0 0)) w1.heap.size 0 w3 hq3 (RqAt.zero _ _) (by decide) (by decide) (by decide) (by decide)).mono ?_
            rintro e w4 ⟨r, rfl, hr, hb4⟩
            obtain rfl : r = true := by simpa using hr
            clear hr
            go_wp2
            go_ret
            exact ⟨rfl, chain B3 hb4⟩
    · have hlen' : ¬ (1 : Int) < (l.length : Int) := by omega
      obtain rfl := he1 (rI_few l hlen)
      clear he1 he2 hE hE' hv3 hc h
      go_wp2_with (first | refine wpList_load_row rfl 28 _ rfl w2.heap.size rfl 28 cw2 (0, 0) _ rw2 Try.underlying28 rfl hi2 ?_ | (go_at_call 16; refine stop ?_))
      rw [rq_lit]
      refine (same_any Rq.zero Rq.zero (.agg cw2) (.agg (rqC 0 (.slice none 0 0) (.slice none 0 0) 0 0 0 0 0)) w1.heap.size 0 w3 hq3 (RqAt.zero _ _) (by decide) (by decide) (by decide) (by decide)).mono ?_
      rintro e w4 ⟨r, rfl, hr, hb4⟩
      obtain rfl : r = true := by simpa using hr
      clear hr
      go_wp2
      go_ret
      exact ⟨rfl, chain B3 hb4⟩
end Go.Proofs.Ytiiaceeaffdmpaa
