
/-
  The walk of WireApart.
-/
import Derived.Test.YtiiaceeaffdmpaaWiL3
namespace Go.Proofs.Ytiiaceeaffdmpaa
open Go.RowKit
set_option maxRecDepth 100000
set_option linter.unusedSimpArgs false

/-- A stronger S serves for a weaker one. -/
theorem wpAnyD_more {P : Program} {md : Region.Mode} {ops : Array Oper} {Q : Exit → Act → World → Prop} {S S2 : World → Prop} {D : Nat → Bool} (hS : ∀ w, S2 w → S w) (fuel : Nat) : ∀ (listed : Array Bool) (a : Act) (w : World), wpAnyD P md ops Q S2 D fuel listed a w → wpAnyD P md ops Q S D fuel listed a w := by
  induction fuel with
  | zero => intro _ _ _ h; exact h
  | succ fuel ih => intro listed a w h; exact ⟨h.1, fun i hi => wpOp_mono (fun a' w' h' => ⟨fun hd => hS _ (h'.1 hd), ih _ a' w' h'.2⟩) (h.2 i hi)⟩
theorem yields_row {ops : Array Oper} {S : World → Prop} {op : Oper} {a : Act} (hw : Region.wanted op (yielded ops a.tmps) = true) (ty : TypeId) (x : Operand) (ho : op.op = .load ty x)
    (g : Nat) (hx : a.eval x = .pointer (some ⟨g, 0, none⟩)) (t : TypeId) (cs : Array Value) (d : TypeDesc) (hS : ∀ w, S w → Row w g cs t)
    (hu : Try.prog.underlying ty = some d) (hd : (match d with | .struct _ | .array _ _ => true | _ => false) = true) (hi : (Try.prog.info? ty).map (·.size) = some cs.size) : YieldsIf Try.prog ops S op (.agg cs) a :=
  .inl ⟨hw, fun w hw' => by
    unfold execOp
    simp only [ho, hx, Instr.loadAt, Instr.sureAddr, Sem.run_bind, Sem.run_pure, Result.andThen_ok, run_loadVar_row (P := Try.prog) w g t ty cs (0, 0) d (hS w hw') hu (by cases d <;> simp_all) hi]⟩
theorem yields_conv {ops : Array Oper} {S : World → Prop} {op : Oper} {a : Act} (hw : Region.wanted op (yielded ops a.tmps) = true) (x : Operand) (ho : op.op = .convert 32 9 x) (v : Value) (hx : a.eval x = v) (l : List Nat) (hS : ∀ w, S w → BytesAt w v l) : YieldsIf Try.prog ops S op (.string (strL l)) a :=
  .inl ⟨hw, fun w hw' => by
    unfold execOp
    simp only [ho, hx, Sem.run_bind, Sem.run_pure, conv_str (hS w hw'), Result.andThen_ok]⟩
theorem str_eq_iff (a b : Rq) (ha : a.good) (hb : b.good) : ((strL a.bytes).toList == (strL b.bytes).toList) = true ↔ a = b := by
  constructor
  · intro h
    have e : (strL a.bytes).toList = (strL b.bytes).toList := by simpa using h
    apply bytes_inj a b ha hb
    apply Classical.byContradiction
    intro hne
    exact strL_ne (good_w8 a) (good_w8 b) hne e
  · intro h; subst h; simp

set_option maxHeartbeats 8000000 in
theorem apart_walk (v1 : Value) (q1 : RIn) (v2 : Value) (q2 : RIn) (w : World) (h1 : RInAt w v1 q1 ∧ (q1.acs.length ≤ 1000000000000000 ∧ q1.trs.length ≤ 1000000000000000)) (h2 : RInAt w v2 q2 ∧ (q2.acs.length ≤ 1000000000000000 ∧ q2.trs.length ≤ 1000000000000000)) :
    Calls Try.prog 7 #[v1, v2] w fun e w' => e = .returned (.bool true) ∧ Below w.heap.size w w' := by
  obtain ⟨h1, hl1, hl2⟩ := h1
  obtain ⟨h2, hl3, hl4⟩ := h2
  obtain ⟨ca, rfl, hca⟩ := h1.row
  obtain ⟨cb, rfl, hcb⟩ := h2.row
  have hia := info_rq' hca
  have hib := info_rq' hcb
  have rA0 : Row ((w.alloc (.cells ca 28)).alloc (.cells cb 28)) w.heap.size ca 28 := (Row.new w ca 28 rfl).alloc _
  have rB0 : Row ((w.alloc (.cells ca 28)).alloc (.cells cb 28)) (w.heap.size + 1) cb 28 := Row.new _ _ _ (by simp)
  have B0 := below2 w (.cells ca 28) (.cells cb 28)
  go_enter Try.func7, Try.ntmps7
  go_wp2_with (go_at_call 11; refine stop ?_)
  refine (fit_any _).mono ?_
  rintro e w1 ⟨rfl, hb1⟩
  have rA1 := rA0.later hb1
  have rB1 := rB0.later hb1
  have B1 := chain B0 hb1
  clear rA0 rB0 B0 hb1
  go_wp2_with (first | refine wpList_load_row rfl 28 _ rfl w.heap.size rfl 28 ca (0, 0) _ rA1 Try.underlying28 rfl hia ?_ | (go_at_call 12; refine stop ?_))
  refine (light_any (.agg ca) q1 w1 (h1.later B1) hl1 hl2).mono ?_
  rintro e w2 ⟨rfl, hb2⟩
  have rA2 := rA1.later hb2
  have rB2 := rB1.later hb2
  have B2 := chain B1 hb2
  clear rA1 rB1 B1 hb2
  cases hlA : q1.light with
  | false =>
    go_wp2
    go_ret
    exact ⟨rfl, B2⟩
  | true =>
    go_wp2_with (first | refine wpList_load_w (by rfl) 28 _ rfl (w.heap.size + 1) rfl 28 cb (0, 0) _ rB2 Try.underlying28 rfl hib ?_ | (go_at_call 12; refine stop ?_))
    refine (light_any (.agg cb) q2 w2 (h2.later B2) hl3 hl4).mono ?_
    rintro e w3 ⟨rfl, hb3⟩
    have rA3 := rA2.later hb3
    have rB3 := rB2.later hb3
    have B3 := chain B2 hb3
    clear rA2 rB2 B2 hb3
    cases hlB : q2.light with
    | false =>
      go_wp2
      go_ret
      exact ⟨rfl, B3⟩
    | true =>
      obtain ⟨n1, n2⟩ := light_len hlA
      obtain ⟨n3, n4⟩ := light_len hlB
      have g1 := tame_good q1 h1.aok h1.tok h1.w
      have g2 := tame_good q2 h2.aok h2.tok h2.w
      go_wp2_with fail
      refine wp_region_D (fun i => i != 4 && i != 5) (fun w' : World => Row w' w.heap.size ca 28 ∧ Row w' (w.heap.size + 1) cb 28) (by kernel_rfl) ?_
      have hS : (fun w' : World => Row w' w.heap.size ca 28 ∧ Row w' (w.heap.size + 1) cb 28) w3.drew := ⟨rA3, rB3⟩
      have B3' : Below w.heap.size w w3.drew := B3.drew
      clear rA3 rB3 B3
      have z4 : w.heap.size + 1 < w3.drew.heap.size := hS.2.lt
      generalize w3.drew = w4 at *
      refine wpAnyD_take (i := 0) rfl (by kernel_rfl) (by kernel_rfl) (by kernel_rfl) (by kernel_rfl) (fun _ _ _ h => h) (yields_row (by rfl) 28 _ rfl w.heap.size rfl 28 ca _ (fun _ h => h.1) Try.underlying28 rfl hia) hS ?_
      simp only [Act.put, List.setIfInBounds_toArray, List.set_cons_zero, List.set_cons_succ]
      refine wpAnyD_take (i := 2) rfl (by kernel_rfl) (by kernel_rfl) (by kernel_rfl) (by kernel_rfl) (fun _ _ _ h => h) (yields_row (by rfl) 28 _ rfl (w.heap.size + 1) rfl 28 cb _ (fun _ h => h.2) Try.underlying28 rfl hib) hS ?_
      simp only [Act.put, List.setIfInBounds_toArray, List.set_cons_zero, List.set_cons_succ]
      refine wpAnyD_only (i := 1) rfl (by kernel_rfl) (by rfl) (fun K hK => ?_)
      go_simp
      refine (tame_any (.agg ca) q1 w4 (h1.later B3') n1 n2).mono ?_
      rintro e w5 ⟨u5, rfl, hq5, hb5⟩
      obtain ⟨c5, rfl, hs5, ho5⟩ := hq5.row
      have B5 := chain B3' hb5
      try dsimp only
      have hSn := (⟨hS.1.later hb5, hS.2.later hb5⟩ : (fun w' : World => Row w' w.heap.size ca 28 ∧ Row w' (w.heap.size + 1) cb 28) w5)
      refine hK.out _ _ (fun _ => hSn) ?_
      clear hK K hS
      have hS := hSn
      clear hSn
      try simp only [Act.put, List.setIfInBounds_toArray, List.set_cons_zero, List.set_cons_succ]
      refine wpAnyD_only (i := 3) rfl (by kernel_rfl) (by rfl) (fun K hK => ?_)
      go_simp
      refine (tame_any (.agg cb) q2 w5 (h2.later B5) n3 n4).mono ?_
      rintro e w6 ⟨u6, rfl, hq6, hb6⟩
      obtain ⟨c6, rfl, hs6, ho6⟩ := hq6.row
      have B6 := chain B5 hb6
      try dsimp only
      have hSn := (⟨hS.1.later hb6, hS.2.later hb6⟩ : (fun w' : World => Row w' w.heap.size ca 28 ∧ Row w' (w.heap.size + 1) cb 28) w6)
      refine hK.out _ _ (fun _ => hSn) ?_
      clear hK K hS
      have hS := hSn
      clear hSn
      try simp only [Act.put, List.setIfInBounds_toArray, List.set_cons_zero, List.set_cons_succ]
      refine wpAnyD_only (i := 4) rfl (by kernel_rfl) (by rfl) (fun K hK => ?_)
      refine wp_store_row (P := Try.prog) 28 (.tmp 2) (.tmp 16) rfl w.heap.size c5 rfl rfl 28 _ hS.1 (info_rq' hs5) (by rw [hs5, hca]) ho5 ?_
      refine hK.out _ _ (fun h => by cases h) ?_
      clear hK K
      have rA7 := hS.1.setRow c5
      have rB7 := hS.2.setRowOther (g := w.heap.size) c5 (by omega)
      try simp only [Act.put, List.setIfInBounds_toArray, List.set_cons_zero, List.set_cons_succ]
      refine wpAnyD_only (i := 5) rfl (by kernel_rfl) (by rfl) (fun K hK => ?_)
      refine wp_store_row (P := Try.prog) 28 (.tmp 3) (.tmp 18) rfl (w.heap.size + 1) c6 rfl rfl 28 _ rB7 (info_rq' hs6) (by rw [hs6, hcb]) ho6 ?_
      refine hK.out _ _ (fun h => by cases h) ?_
      clear hK K
      have rA8 := rA7.setRowOther (g := w.heap.size + 1) c6 (by omega)
      have rB8 := rB7.setRow c6
      have B8 : Below w.heap.size w ((w6.setRow w.heap.size c5).setRow (w.heap.size + 1) c6) := Below.row (Below.row B6 _ (Nat.le_refl _)) _ (by omega)
      have z5 := hb5.size
      have hq8a : RqAt ((w6.setRow w.heap.size c5).setRow (w.heap.size + 1) c6) w4.heap.size (.agg c5) q1.tame := hq5.keep (Nat.le_refl _) (fun k hk hk2 => ((setRow_other _ _ _ _ (by omega)).trans (setRow_other _ _ _ _ (by omega))).trans (hb6.block k hk2))
      have hq8b : RqAt ((w6.setRow w.heap.size c5).setRow (w.heap.size + 1) c6) w5.heap.size (.agg c6) q2.tame := hq6.keep (Nat.le_refl _) (fun k hk hk2 => (setRow_other _ _ _ _ (by omega)).trans (setRow_other _ _ _ _ (by omega)))
      try simp only [Act.put, List.setIfInBounds_toArray, List.set_cons_zero, List.set_cons_succ]
      refine wpAnyD_done (by kernel_rfl) ?_ _
      have hi5 := info_rq' hs5
      have hi6 := info_rq' hs6
      clear hS rA7 rB7 hq5 hq6 hb5 hb6 B5 B6 h1 h2
      obtain ⟨t1, t2⟩ := Rq.good_len g1
      obtain ⟨t3, t4⟩ := Rq.good_len g2
      have e1 := (Rq.good_bytes g1).2
      have e2 := (Rq.good_bytes g2).2
      have hiff := str_eq_iff _ _ g1 g2
      have w81 := good_w8 q1.tame
      have w82 := good_w8 q2.tame
      generalize (w6.setRow w.heap.size c5).setRow (w.heap.size + 1) c6 = w8 at *
      generalize q1.tame = Q1 at *
      generalize q2.tame = Q2 at *
      obtain ⟨l1, hl1'⟩ : ∃ l, l = Q1.bytes := ⟨_, rfl⟩
      obtain ⟨l2, hl2'⟩ : ∃ l, l = Q2.bytes := ⟨_, rfl⟩
      rw [← hl1', ← hl2'] at hiff
      have HL1 : Hid (l1 = Q1.bytes) := hl1'
      have HL2 : Hid (l2 = Q2.bytes) := hl2'
      clear hl1' hl2'
      go_wp2_with fail
      refine wp_region_D (fun _ => true) (fun w' : World => Row w' w.heap.size c5 28 ∧ Row w' (w.heap.size + 1) c6 28) (by kernel_rfl) ?_
      have hS : (fun w' : World => Row w' w.heap.size c5 28 ∧ Row w' (w.heap.size + 1) c6 28) w8.drew := ⟨rA8, rB8⟩
      have Bd : Below w8.heap.size w8 w8.drew := (Below.refl _ _).drew
      have hqa9 : RqAt w8.drew w4.heap.size (.agg c5) Q1 := hq8a.keep (Nat.le_refl _) (fun k _ hk => rfl)
      have hqb9 : RqAt w8.drew w5.heap.size (.agg c6) Q2 := hq8b.keep (Nat.le_refl _) (fun k _ hk => rfl)
      have B9 : Below w.heap.size w w8.drew := B8.drew
      clear rA8 rB8 hq8a hq8b B8 Bd
      generalize w8.drew = w9 at *
      refine wpAnyD_take (i := 0) rfl (by kernel_rfl) (by kernel_rfl) (by kernel_rfl) (by kernel_rfl) (fun _ _ _ h => h) (yields_row (by rfl) 28 _ rfl w.heap.size rfl 28 c5 _ (fun _ h => h.1) Try.underlying28 rfl hi5) hS ?_
      simp only [Act.put, List.setIfInBounds_toArray, List.set_cons_zero, List.set_cons_succ]
      refine wpAnyD_take (i := 3) rfl (by kernel_rfl) (by kernel_rfl) (by kernel_rfl) (by kernel_rfl) (fun _ _ _ h => h) (yields_row (by rfl) 28 _ rfl (w.heap.size + 1) rfl 28 c6 _ (fun _ h => h.2) Try.underlying28 rfl hi6) hS ?_
      simp only [Act.put, List.setIfInBounds_toArray, List.set_cons_zero, List.set_cons_succ]
      refine wpAnyD_take (i := 7) rfl (by kernel_rfl) (by kernel_rfl) (by kernel_rfl) (by kernel_rfl) (fun _ _ _ h => h) (yields_row (by rfl) 28 _ rfl w.heap.size rfl 28 c5 _ (fun _ h => h.1) Try.underlying28 rfl hi5) hS ?_
      simp only [Act.put, List.setIfInBounds_toArray, List.set_cons_zero, List.set_cons_succ]
      refine wpAnyD_take (i := 8) rfl (by kernel_rfl) (by kernel_rfl) (by kernel_rfl) (by kernel_rfl) (fun _ _ _ h => h) (yields_row (by rfl) 28 _ rfl (w.heap.size + 1) rfl 28 c6 _ (fun _ h => h.2) Try.underlying28 rfl hi6) hS ?_
      simp only [Act.put, List.setIfInBounds_toArray, List.set_cons_zero, List.set_cons_succ]
      refine wpAnyD_only (i := 1) rfl (by kernel_rfl) (by rfl) (fun K hK => ?_)
      go_simp
      refine (request_any (.agg c5) Q1 w4.heap.size w9 hqa9 g1).mono ?_
      rw [← HL1.out]
      rintro e w10 ⟨x1, rfl, o1, hb10⟩
      have hx1 : BytesAt w10 x1 l1 := o1.bytes (by rw [HL1.out]; exact w81) (by rw [HL1.out]; unfold maxLen; omega)
      have hqa10 : RqAt w10 w4.heap.size (.agg c5) Q1 := hqa9.keep (Nat.le_refl _) (fun k _ hk => hb10.block k hk)
      have hqb10 : RqAt w10 w5.heap.size (.agg c6) Q2 := hqb9.keep (Nat.le_refl _) (fun k _ hk => hb10.block k hk)
      have B10 := chain B9 hb10
      try dsimp only
      have hSn := (⟨hS.1.later hb10, hS.2.later hb10⟩ : (fun w' : World => Row w' w.heap.size c5 28 ∧ Row w' (w.heap.size + 1) c6 28) w10)
      refine hK.out _ _ (fun _ => hSn) ?_
      clear hK K hS
      have hS := hSn
      clear hSn
      try simp only [Act.put, List.setIfInBounds_toArray, List.set_cons_zero, List.set_cons_succ]
      clear hqa9 hqb9 B9 hb10 o1
      refine wpAnyD_more (S2 := (fun w' : World => (Row w' w.heap.size c5 28 ∧ Row w' (w.heap.size + 1) c6 28) ∧ BytesAt w' x1 l1)) (fun _ h => h.1) _ _ _ _ ?_
      replace hS : (fun w' : World => (Row w' w.heap.size c5 28 ∧ Row w' (w.heap.size + 1) c6 28) ∧ BytesAt w' x1 l1) w10 := ⟨hS, hx1⟩
      refine wpAnyD_take (i := 2) rfl (by kernel_rfl) (by kernel_rfl) (by kernel_rfl) (by kernel_rfl) (fun _ _ _ h => h) (yields_conv (by rfl) _ rfl x1 rfl l1 (fun _ h => h.2)) hS ?_
      simp only [Act.put, List.setIfInBounds_toArray, List.set_cons_zero, List.set_cons_succ]
      refine wpAnyD_only (i := 4) rfl (by kernel_rfl) (by rfl) (fun K hK => ?_)
      go_simp
      refine (request_any (.agg c6) Q2 w5.heap.size w10 hqb10 g2).mono ?_
      rw [← HL2.out]
      rintro e w11 ⟨x2, rfl, o2, hb11⟩
      have hx2 : BytesAt w11 x2 l2 := o2.bytes (by rw [HL2.out]; exact w82) (by rw [HL2.out]; unfold maxLen; omega)
      have hqa11 : RqAt w11 w4.heap.size (.agg c5) Q1 := hqa10.keep (Nat.le_refl _) (fun k _ hk => hb11.block k hk)
      have hqb11 : RqAt w11 w5.heap.size (.agg c6) Q2 := hqb10.keep (Nat.le_refl _) (fun k _ hk => hb11.block k hk)
      have B11 := chain B10 hb11
      try dsimp only
      have hSn := (⟨⟨hS.1.1.later hb11, hS.1.2.later hb11⟩, hS.2.later hb11⟩ : (fun w' : World => (Row w' w.heap.size c5 28 ∧ Row w' (w.heap.size + 1) c6 28) ∧ BytesAt w' x1 l1) w11)
      refine hK.out _ _ (fun _ => hSn) ?_
      clear hK K hS
      have hS := hSn
      clear hSn
      try simp only [Act.put, List.setIfInBounds_toArray, List.set_cons_zero, List.set_cons_succ]
      clear hqa10 hqb10 B10 hb11 o2 hx1
      refine wpAnyD_more (S2 := (fun w' : World => ((Row w' w.heap.size c5 28 ∧ Row w' (w.heap.size + 1) c6 28) ∧ BytesAt w' x1 l1) ∧ BytesAt w' x2 l2)) (fun _ h => h.1) _ _ _ _ ?_
      replace hS : (fun w' : World => ((Row w' w.heap.size c5 28 ∧ Row w' (w.heap.size + 1) c6 28) ∧ BytesAt w' x1 l1) ∧ BytesAt w' x2 l2) w11 := ⟨hS, hx2⟩
      refine wpAnyD_take (i := 5) rfl (by kernel_rfl) (by kernel_rfl) (by kernel_rfl) (by kernel_rfl) (fun _ _ _ h => h) (yields_conv (by rfl) _ rfl x2 rfl l2 (fun _ h => h.2)) hS ?_
      simp only [Act.put, List.setIfInBounds_toArray, List.set_cons_zero, List.set_cons_succ]
      clear hx2
      refine' wpAnyD_take (i := 6) (v := _) rfl (by kernel_rfl) (by kernel_rfl) (by kernel_rfl) (by kernel_rfl) (fun _ _ _ h => h) (Or.inl ⟨by rfl, ?hy1⟩) hS ?re1
      case hy1 => (intro w hSw; (try dsimp only at hSw); go_simp; (try with_reducible rfl))
      simp only [Act.put, List.setIfInBounds_toArray, List.set_cons_zero, List.set_cons_succ]
      refine wpAnyD_only (i := 9) rfl (by kernel_rfl) (by rfl) (fun K hK => ?_)
      go_simp
      refine (same_any Q1 Q2 (.agg c5) (.agg c6) w4.heap.size w5.heap.size w11 hqa11 hqb11 t1 t2 t3 t4).mono ?_
      rintro e w12 ⟨r, rfl, hr, hb12⟩
      have B12 := chain B11 hb12
      have hbr : ((strL l1).toList == (strL l2).toList) = r := Bool.eq_iff_iff.2 (hiff.trans hr.symm)
      rw [hbr]
      try dsimp only
      have hSn := (⟨⟨⟨hS.1.1.1.later hb12, hS.1.1.2.later hb12⟩, hS.1.2.later hb12⟩, hS.2.later hb12⟩ : (fun w' : World => ((Row w' w.heap.size c5 28 ∧ Row w' (w.heap.size + 1) c6 28) ∧ BytesAt w' x1 l1) ∧ BytesAt w' x2 l2) w12)
      refine hK.out _ _ (fun _ => hSn) ?_
      clear hK K hS
      have hS := hSn
      clear hSn
      try simp only [Act.put, List.setIfInBounds_toArray, List.set_cons_zero, List.set_cons_succ]
      clear hbr hiff hr
      refine' wpAnyD_take (i := 10) (v := _) rfl (by kernel_rfl) (by kernel_rfl) (by kernel_rfl) (by kernel_rfl) (fun _ _ _ h => h) (Or.inl ⟨by rfl, ?hy2⟩) hS ?re2
      case hy2 => (intro w hSw; (try dsimp only at hSw); go_simp; (try with_reducible rfl))
      simp only [Act.put, List.setIfInBounds_toArray, List.set_cons_zero, List.set_cons_succ]
      refine' wpAnyD_take (i := 11) (v := _) rfl (by kernel_rfl) (by kernel_rfl) (by kernel_rfl) (by kernel_rfl) (fun _ _ _ h => h) (Or.inl ⟨by rfl, ?hy3⟩) hS ?re3
      case hy3 => (intro w hSw; (try dsimp only at hSw); go_simp; (try with_reducible rfl))
      simp only [Act.put, List.setIfInBounds_toArray, List.set_cons_zero, List.set_cons_succ]
      refine wpAnyD_done (by kernel_rfl) ?_ _
      go_wp2
      go_ret
      exact ⟨by simp, B12⟩
end Go.Proofs.Ytiiaceeaffdmpaa
