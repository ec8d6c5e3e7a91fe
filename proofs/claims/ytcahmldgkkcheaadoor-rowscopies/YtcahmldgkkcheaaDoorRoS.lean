
/-
  The walk of RowsCopies: it returns true, for any rows and row, and turns nothing that was there.
-/
import Derived.Test.YtcahmldgkkcheaaDoorRoR
set_option maxRecDepth 100000
namespace Go.Proofs.YtcahmldgkkcheaaDoor
open Go.RowKit
set_option linter.unusedVariables false
set_option linter.unusedSimpArgs false
/-- A row at time 1000. -/
def lateR (r : Rc) (ev : Int) : Rc := { r with tm := 1000, ev := ev }
theorem lateR_cs (r : Rc) (ev : Int) : (r.cs.setIfInBounds 2 (.int .i64 1000)).setIfInBounds 3 (.int .i64 ev) = (lateR r ev).cs := by simp [Rc.cs, lateR]
theorem getD_snoc_rc (M : List Rc) (z : Rc) : (M ++ [z]).getD M.length Rc.z = z := by simp [List.getD]
theorem getD_app_rc (M : List Rc) (z : Rc) {k : Nat} (h : k < M.length) : (M ++ [z]).getD k Rc.z = M.getD k Rc.z := by simp [List.getD, List.getElem?_append_left h]
theorem rc_neq (a : Rc) (w : World) : (binOp .neq 34 (.agg a.cs) (.agg a.cs)).run Tryd.prog w = .ok (.bool false) w := by
  rw [run_neq_struct, rc_eqT a a true (by simp) w]
  rfl
theorem yields_neq_row {ops : Array Oper} {S : World → Prop} {op : Oper} {a : Act} (hw : Region.wanted op (yielded ops a.tmps) = true) (x y : Operand) (ty : TypeId) (ho : op.op = .binOp .neq 34 x y ty) (r : Rc) (hx : a.eval x = .agg r.cs) (hy : a.eval y = .agg r.cs) : YieldsIf Tryd.prog ops S op (.bool false) a :=
  .inl ⟨hw, fun w _ => by
    unfold execOp
    simp only [ho, hx, hy, Sem.run_bind, run_eqGuard_agg w .neq 34 x y r.cs r.cs rc_guard, Result.andThen_ok, rc_neq r w, Sem.run_pure]⟩
theorem yields_neq_hash {ops : Array Oper} {S : World → Prop} {op : Oper} {a : Act} (hw : Region.wanted op (yielded ops a.tmps) = true) (x y : Operand) (ty : TypeId) (ho : op.op = .binOp .neq 42 x y ty) (X : List Nat) (h32 : X.length = 32) (hx : a.eval x = .agg (bytesL X)) (hy : a.eval y = .agg (bytesL X)) : YieldsIf Tryd.prog ops S op (.bool false) a :=
  .inl ⟨hw, fun w _ => by
    unfold execOp
    have hn := hash_neq X X h32 h32 w
    rw [decide_eq_true rfl] at hn
    simp only [ho, hx, hy, Sem.run_bind, run_eqGuard_agg w .neq 42 x y (bytesL X) (bytesL X) hash_guard, Result.andThen_ok, hn, Sem.run_pure, Bool.not_true]⟩
theorem LsAt.keep {w w' : World} {bx b : Nat} {L : List Rc} (h : LsAt w bx b L) (hk : ∀ k, bx ≤ k → k < w.heap.size → w'.heap[k]? = w.heap[k]?) : LsAt w' bx b L := by
  obtain ⟨v, h⟩ := h
  exact ⟨v, (hk b h.ge h.row.lt).trans h.row, ownsRowN_keep h.own (fun k h1 h2 _ => hk k h1 h2), h.ge⟩
set_option maxHeartbeats 4000000 in
theorem copies_walk (v0 : Value) (L : List Rc) (r : Rc) (w : World) (hL : RowsAt w v0 L) (hr : r.ok) (ht : Tab w) :
    Calls Tryd.prog 5 #[v0, .agg r.cs] w fun e w' => e = .returned (.bool true) ∧ Below w.heap.size w w' := by
  obtain ⟨hok, hlm, p0, c0, rfl, _⟩ := id hL
  have HL : Hid (RowsAt w (.slice p0 L.length c0) L) := hL
  have HT : Hid (Tab w) := ht
  unfold maxLen at hlm
  have n0 : (0 : Int) ≤ (L.length : Int) := by omega
  have n1 : (L.length : Int) ≤ 9223372036854775807 := by omega
  have b1 := below1 w (.cells r.cs 34)
  have r1 := Row.new w r.cs 34 rfl
  clear hL ht hok hlm hr
  go_enter Tryd.func5, Tryd.ntmps5
  go_wp2_with fail
  refine (fit10_any _ (HT.out.later b1)).mono ?_
  rintro e w1 ⟨rfl, hb1⟩
  have B1 : Hid (Below w.heap.size w w1) := chain b1 hb1
  have R1 : Hid (Row w1 w.heap.size r.cs 34) := r1.later hb1
  clear b1 r1 hb1
  by_cases h30 : L.length ≤ 30
  · have n30 : (L.length : Int) ≤ 30 := by omega
    have H30 : Hid (L.length ≤ 30) := h30
    clear h30 n1
    go_wp2_with fail
    refine (list_any w1 _ L (HL.out.later B1.out) (by have := H30.out; omega)).mono ?_
    rintro e w2 ⟨rfl, hls, hb2⟩
    obtain ⟨M, hM⟩ : ∃ M, lst 0 L = M := ⟨_, rfl⟩
    rw [hM] at hls
    have HM : Hid (M.length = L.length ∧ ∀ a ∈ M, Tame a) := by
      rw [← hM]
      exact ⟨lst_len L 0, fun a ha => (lst_tame L 0 HL.out.ok (Int.le_refl _) (by have := H30.out; omega) a ha).1⟩
    have HM4 : Hid (M.length ≤ 40) := by show _ ≤ _; have := HM.out.1; have := H30.out; omega
    have HLS : Hid (LsAt w2 w1.heap.size w1.heap.size M) := hls
    have GX0 : Hid (w.heap.size < w1.heap.size) := R1.out.lt
    have B2 : Hid (Below w.heap.size w w2) := B1.out.trans (hb2.mono B1.out.size)
    have R2 : Hid (Row w2 w.heap.size r.cs 34) := R1.out.later hb2
    clear hM hls hb2
    generalize w1.heap.size = gx at *
    obtain ⟨X, hX⟩ : ∃ X, rootL (leafs (M.map rowBy)) = X := ⟨_, rfl⟩
    have h3X : H32 X := by rw [← hX]; exact root_32 _ _ (Nat.le_refl _) (leafs_ok _)
    have HX : Hid (rootL (leafs (M.map rowBy)) = X) := hX
    have H3X : Hid (H32 X) := h3X
    have iX := info_h32 h3X
    have zX := z32_size h3X
    have oX := bytesL_one X
    clear hX h3X
    go_wp2_with fail
    refine (rcopy_any w2 gx gx M HLS.out (by have := HM4.out; omega)).mono ?_
    rintro e w3 ⟨b', rfl, hby, hy3, hb3⟩
    have HY3 : Hid (LsAt w3 w2.heap.size b' M) := hy3
    have HB3 : Hid (Below w2.heap.size w2 w3) := hb3
    have HX3 : Hid (LsAt w3 gx gx M) := HLS.out.later hb3
    have B3 : Hid (Below w.heap.size w w3) := B2.out.trans (hb3.mono B2.out.size)
    clear hy3 hb3 hby
    go_wp2_with fail
    refine (rroot_nil gx gx M w3 HX3.out HM4.out HM.out.2 (HT.out.later B3.out)).mono ?_
    rintro e w4 ⟨rfl, hb4⟩
    rw [HX.out]
    have HY4 : Hid (LsAt w4 w2.heap.size b' M) := HY3.out.later hb4
    have HB4 : Hid (Below w2.heap.size w2 w4) := HB3.out.trans (hb4.mono HB3.out.size)
    clear hb4 HY3 HB3 HX3 B3
    go_wp2_with (refine wpList_store_row rfl 42 _ _ rfl w4.heap.size (bytesL X) rfl rfl 42 _ (heap_alloc_new w4 _) iX zX oX ?_; refine stop ?_)
    unfold Stop
    rw [zeros32b]
    have r7 := (Row.new w4 (bytesL (List.replicate 32 0)) 42 rfl).setRow (bytesL X)
    have bz : Below w4.heap.size w4 ((w4.alloc (.cells (bytesL (List.replicate 32 0)) 42)).setRow w4.heap.size (bytesL X)) := Below.row (below1 w4 _) _ (Nat.le_refl _)
    generalize (w4.alloc (.cells (bytesL (List.replicate 32 0)) 42)).setRow w4.heap.size (bytesL X) = w5 at *
    have HY5 : Hid (LsAt w5 w2.heap.size b' M) := HY4.out.later bz
    have HB5 : Hid (Below w2.heap.size w2 w5) := HB4.out.trans (bz.mono HB4.out.size)
    have R7 : Hid (Row w5 w4.heap.size (bytesL X) 42) := r7
    have RR5 : Hid (Row w5 w.heap.size r.cs 34) := R2.out.later HB5.out
    have G7 : Hid (w2.heap.size ≤ w4.heap.size) := HB4.out.size
    clear bz r7 HY4 HB4
    generalize w4.heap.size = g7 at *
    obtain ⟨q, hq, eq⟩ := and_255 r.ev
    have GX : Hid (w.heap.size < gx ∧ gx < w2.heap.size) := ⟨by obtain ⟨v, hv⟩ := HLS.out; have := hv.ge; have := R1.out.lt; show _ < _; exact GX0.out, by obtain ⟨v, hv⟩ := HLS.out; exact hv.row.lt⟩
    obtain ⟨z, hz⟩ : ∃ z, lateR r q = z := ⟨_, rfl⟩
    have c3 : w5.cell? ⟨w.heap.size, 3, none⟩ = some (.int .i64 r.ev) := (RR5.out.cell 3).trans rfl
    have c2 : w5.cell? ⟨w.heap.size, 2, none⟩ = some (.int .i64 r.tm) := (RR5.out.cell 2).trans rfl
    have f2 := RR5.out.frozen 2
    have f3 := RR5.out.frozen 3
    have RR6 : Hid (Row ((w5.setCell ⟨w.heap.size, 2, none⟩ (.int .i64 1000)).setCell ⟨w.heap.size, 3, none⟩ (.int .i64 (q : Int))) w.heap.size z.cs 34) := by
      have := (RR5.out.set 2 (.int .i64 1000)).set 3 (.int .i64 (q : Int))
      rw [lateR_cs, hz] at this
      exact this
    have R76 : Hid (Row ((w5.setCell ⟨w.heap.size, 2, none⟩ (.int .i64 1000)).setCell ⟨w.heap.size, 3, none⟩ (.int .i64 (q : Int))) g7 (bytesL X) 42) := (R7.out.setOther (a := ⟨w.heap.size, 2, none⟩) _ (by have := GX.out; have := G7.out; show g7 ≠ w.heap.size; omega)).setOther (a := ⟨w.heap.size, 3, none⟩) _ (by have := GX.out; have := G7.out; show g7 ≠ w.heap.size; omega)
    have hoth : ∀ k, gx ≤ k → ((w5.setCell ⟨w.heap.size, 2, none⟩ (.int .i64 1000)).setCell ⟨w.heap.size, 3, none⟩ (.int .i64 (q : Int))).heap[k]? = w5.heap[k]? := fun k hk => (heap_setCell_other _ ⟨w.heap.size, 3, none⟩ k _ (by have := GX.out; show k ≠ w.heap.size; omega)).trans (heap_setCell_other _ ⟨w.heap.size, 2, none⟩ k _ (by have := GX.out; show k ≠ w.heap.size; omega))
    have HY6 : Hid (LsAt ((w5.setCell ⟨w.heap.size, 2, none⟩ (.int .i64 1000)).setCell ⟨w.heap.size, 3, none⟩ (.int .i64 (q : Int))) w2.heap.size b' M) := HY5.out.keep (fun k h1 h2 => hoth k (by have := GX.out; omega))
    have HK6 : Hid (∀ k, gx ≤ k → k < w2.heap.size → ((w5.setCell ⟨w.heap.size, 2, none⟩ (.int .i64 1000)).setCell ⟨w.heap.size, 3, none⟩ (.int .i64 (q : Int))).heap[k]? = w2.heap[k]?) := fun k h1 h2 => (hoth k h1).trans (HB5.out.block k h2)
    have B5 : Below w.heap.size w w5 := B2.out.trans (HB5.out.mono B2.out.size)
    have B6 : Hid (Below w.heap.size w ((w5.setCell ⟨w.heap.size, 2, none⟩ (.int .i64 1000)).setCell ⟨w.heap.size, 3, none⟩ (.int .i64 (q : Int)))) := (B5.setCell (p := ⟨w.heap.size, 2, none⟩) (Nat.le_refl _) _).setCell (p := ⟨w.heap.size, 3, none⟩) (Nat.le_refl _) _
    have HS6 : Hid (w2.heap.size ≤ ((w5.setCell ⟨w.heap.size, 2, none⟩ (.int .i64 1000)).setCell ⟨w.heap.size, 3, none⟩ (.int .i64 (q : Int))).heap.size) := by have := HB5.out.size; show _ ≤ _; simpa using this
    clear hoth B5 zX oX
    go_upto_region 9 with fail
    generalize (w5.setCell ⟨w.heap.size, 2, none⟩ (.int .i64 1000)).setCell ⟨w.heap.size, 3, none⟩ (.int .i64 (q : Int)) = w6 at *
    clear c2 c3 f2 f3 RR5 R7 HY5 HB5 eq
    have iz := info_rc z
    have IX : Hid ((Tryd.prog.info? 42).map (·.size) = some (bytesL X).size) := iX
    have IZ : Hid ((Tryd.prog.info? 34).map (·.size) = some z.cs.size) := iz
    clear iX iz hz
    go_wp2_with (refine wpList_load_row rfl 34 _ rfl w.heap.size rfl 34 z.cs (0, 0) _ RR6.out Tryd.underlying34 rfl IZ.out ?_; refine stop ?_)
    unfold Stop
    go_wp2_with fail
    refine (ladd_any w6 w2.heap.size b' M z HY6.out HS6.out (by have := HM4.out; omega)).mono ?_
    rintro e w7 ⟨rfl, hy7, hb7, hs7⟩
    have HY7 : Hid (LsAt w7 w2.heap.size b' (M ++ [z])) := hy7
    have HX7 : Hid (LsAt w7 gx gx M) := HLS.out.keep (fun k h1 h2 => (hb7.block k h2).trans (HK6.out k h1 h2))
    have R77 : Hid (Row w7 g7 (bytesL X) 42) := hs7.row R76.out (by decide) (by
      rintro rfl
      obtain ⟨v, hv⟩ := HY6.out
      have h1 := hv.row
      have h2 := R76.out
      unfold Row at h1 h2
      rw [h1] at h2
      exact absurd (Obj.cells.inj (Option.some.inj h2)).2.1 (by decide))
    have RR7 : Hid (Row w7 w.heap.size z.cs 34) := (hb7.block _ (by have := GX.out; omega)).trans RR6.out
    have B7 : Hid (Below w.heap.size w w7) := B6.out.trans (hb7.mono (by have := GX.out; omega))
    have HYL : Hid ((((M ++ [z]).length : Nat) : Int) = (L.length : Int) + 1) := by show _ = _; rw [List.length_append, List.length_singleton, HM.out.1]; omega
    have HYN : Hid ((M ++ [z]).length ≤ 1000 ∧ L.length < (M ++ [z]).length ∧ (M ++ [z]).getD L.length Rc.z = z) := by
      refine ⟨?_, ?_, ?_⟩
      · rw [List.length_append, List.length_singleton]; have := HM4.out; omega
      · rw [List.length_append, List.length_singleton, HM.out.1]; omega
      · rw [← HM.out.1]; exact getD_snoc_rc M z
    clear hy7 hb7 hs7 HK6 HY6 R76 RR6 B6 HS6 HLS R2 R1
    go_upto_region 10 with fail
    refine wp_region_D (fun _ => true) (fun w' : World => Row w' g7 (bytesL X) 42 ∧ Row w' w.heap.size z.cs 34) (by kernel_rfl) ?_
    have hS : Row w7.drew g7 (bytesL X) 42 ∧ Row w7.drew w.heap.size z.cs 34 := ⟨R77.out, RR7.out⟩
    have HY8 : Hid (LsAt w7.drew w2.heap.size b' (M ++ [z])) := HY7.out.later (Below.refl _ _).drew
    have HX8 : Hid (LsAt w7.drew gx gx M) := HX7.out.later (Below.refl _ _).drew
    have B8 : Hid (Below w.heap.size w w7.drew) := B7.out.drew
    clear HY7 HX7 R77 RR7 B7
    generalize w7.drew = w8 at *
    refine' wpAnyD_take (i := 0) (v := _) rfl (by kernel_rfl) (by kernel_rfl) (by kernel_rfl) (by kernel_rfl) (fun _ _ _ h => h) (Or.inl ⟨by rfl, ?hy1⟩) hS ?re1
    case hy1 => (intro w hSw; (try dsimp only at hSw); go_simp; (try with_reducible rfl))
    simp only [Act.put, List.setIfInBounds_toArray, List.set_cons_zero, List.set_cons_succ]
    refine' wpAnyD_take (i := 2) (v := _) rfl (by kernel_rfl) (by kernel_rfl) (by kernel_rfl) (by kernel_rfl) (fun _ _ _ h => h) (Or.inl ⟨by rfl, ?hy2⟩) hS ?re2
    case hy2 => (intro w hSw; (try dsimp only at hSw); go_simp; (try with_reducible rfl))
    simp only [Act.put, List.setIfInBounds_toArray, List.set_cons_zero, List.set_cons_succ]
    refine' wpAnyD_take (i := 3) (v := _) rfl (by kernel_rfl) (by kernel_rfl) (by kernel_rfl) (by kernel_rfl) (fun _ _ _ h => h) (Or.inl ⟨by rfl, ?hy3⟩) hS ?re3
    case hy3 => (intro w hSw; (try dsimp only at hSw); go_simp; (try with_reducible rfl))
    simp only [Act.put, List.setIfInBounds_toArray, List.set_cons_zero, List.set_cons_succ]
    refine wpAnyD_only (i := 1) rfl (by kernel_rfl) (by rfl) (fun K hK => ?_)
    go_simp
    refine (lslen_any w8 gx gx M HX8.out).mono ?_
    rintro e we ⟨rfl, hwe⟩
    obtain rfl := hwe
    rw [HM.out.1]
    try dsimp only
    have hSn := hS
    refine hK.out _ _ (fun _ => hSn) ?_
    clear hK K hS
    have hS := hSn
    clear hSn
    try simp only [Act.put, List.setIfInBounds_toArray, List.set_cons_zero, List.set_cons_succ]
    have hw1 : IntKind.i64.wrap ((L.length : Int) + 1) = (L.length : Int) + 1 := by rw [IntKind.wrap_i64]; omega
    refine' wpAnyD_take (i := 4) (v := _) rfl (by kernel_rfl) (by kernel_rfl) (by kernel_rfl) (by kernel_rfl) (fun _ _ _ h => h) (Or.inl ⟨by rfl, ?hy4⟩) hS ?re4
    case hy4 => (intro w hSw; (try dsimp only at hSw); go_simp; (try with_reducible rfl))
    simp only [Act.put, List.setIfInBounds_toArray, List.set_cons_zero, List.set_cons_succ]
    refine' wpAnyD_take (i := 5) (v := _) rfl (by kernel_rfl) (by kernel_rfl) (by kernel_rfl) (by kernel_rfl) (fun _ _ _ h => h) (Or.inl ⟨by rfl, ?hy5⟩) hS ?re5
    case hy5 => (intro w hSw; (try dsimp only at hSw); go_simp; (try with_reducible rfl))
    simp only [Act.put, List.setIfInBounds_toArray, List.set_cons_zero, List.set_cons_succ]
    refine' wpAnyD_take (i := 6) (v := _) rfl (by kernel_rfl) (by kernel_rfl) (by kernel_rfl) (by kernel_rfl) (fun _ _ _ h => h) (Or.inl ⟨by rfl, ?hy6⟩) hS ?re6
    case hy6 => (intro w hSw; (try dsimp only at hSw); go_simp; (try with_reducible rfl))
    simp only [Act.put, List.setIfInBounds_toArray, List.set_cons_zero, List.set_cons_succ]
    refine' wpAnyD_take (i := 8) (v := _) rfl (by kernel_rfl) (by kernel_rfl) (by kernel_rfl) (by kernel_rfl) (fun _ _ _ h => h) (Or.inl ⟨by rfl, ?hy7⟩) hS ?re7
    case hy7 => (intro w hSw; (try dsimp only at hSw); go_simp; (try with_reducible rfl))
    simp only [Act.put, List.setIfInBounds_toArray, List.set_cons_zero, List.set_cons_succ]
    refine' wpAnyD_take (i := 9) (v := _) rfl (by kernel_rfl) (by kernel_rfl) (by kernel_rfl) (by kernel_rfl) (fun _ _ _ h => h) (Or.inl ⟨by rfl, ?hy8⟩) hS ?re8
    case hy8 => (intro w hSw; (try dsimp only at hSw); go_simp; (try with_reducible rfl))
    simp only [Act.put, List.setIfInBounds_toArray, List.set_cons_zero, List.set_cons_succ]
    refine' wpAnyD_take (i := 10) (v := _) rfl (by kernel_rfl) (by kernel_rfl) (by kernel_rfl) (by kernel_rfl) (fun _ _ _ h => h) (Or.inl ⟨by rfl, ?hy9⟩) hS ?re9
    case hy9 => (intro w hSw; (try dsimp only at hSw); go_simp; (try with_reducible rfl))
    simp only [Act.put, List.setIfInBounds_toArray, List.set_cons_zero, List.set_cons_succ]
    refine wpAnyD_only (i := 7) rfl (by kernel_rfl) (by rfl) (fun K hK => ?_)
    go_simp
    refine (lslen_any we w2.heap.size b' (M ++ [z]) HY8.out).mono ?_
    rintro e wf ⟨rfl, hwe⟩
    obtain rfl := hwe
    rw [HYL.out]
    try dsimp only
    have hSn := hS
    refine hK.out _ _ (fun _ => hSn) ?_
    clear hK K hS
    have hS := hSn
    clear hSn
    try simp only [Act.put, List.setIfInBounds_toArray, List.set_cons_zero, List.set_cons_succ]
    refine' wpAnyD_take (i := 11) (v := _) rfl (by kernel_rfl) (by kernel_rfl) (by kernel_rfl) (by kernel_rfl) (fun _ _ _ h => h) (Or.inl ⟨by rfl, ?hy10⟩) hS ?re10
    case hy10 => (intro w hSw; (try dsimp only at hSw); go_simp; (try with_reducible rfl))
    simp only [Act.put, List.setIfInBounds_toArray, List.set_cons_zero, List.set_cons_succ]
    refine' wpAnyD_take (i := 12) (v := _) rfl (by kernel_rfl) (by kernel_rfl) (by kernel_rfl) (by kernel_rfl) (fun _ _ _ h => h) (Or.inl ⟨by rfl, ?hy11⟩) hS ?re11
    case hy11 => (intro w hSw; (try dsimp only at hSw); go_simp; (try with_reducible rfl))
    simp only [Act.put, List.setIfInBounds_toArray, List.set_cons_zero, List.set_cons_succ]
    refine' wpAnyD_take (i := 13) (v := _) rfl (by kernel_rfl) (by kernel_rfl) (by kernel_rfl) (by kernel_rfl) (fun _ _ _ h => h) (Or.inl ⟨by rfl, ?hy12⟩) hS ?re12
    case hy12 => (intro w hSw; (try dsimp only at hSw); go_simp; (try with_reducible rfl))
    simp only [Act.put, List.setIfInBounds_toArray, List.set_cons_zero, List.set_cons_succ]
    refine' wpAnyD_take (i := 14) (v := _) rfl (by kernel_rfl) (by kernel_rfl) (by kernel_rfl) (by kernel_rfl) (fun _ _ _ h => h) (Or.inl ⟨by rfl, ?hy13⟩) hS ?re13
    case hy13 => (intro w hSw; (try dsimp only at hSw); go_simp; (try with_reducible rfl))
    simp only [Act.put, List.setIfInBounds_toArray, List.set_cons_zero, List.set_cons_succ]
    refine wpAnyD_take (i := 16) rfl (by kernel_rfl) (by kernel_rfl) (by kernel_rfl) (by kernel_rfl) (fun _ _ _ h => h) (yields_row (by rfl) 42 _ rfl g7 rfl 42 (bytesL X) _ (fun _ h => h.1) Tryd.underlying42 rfl IX.out) hS ?_
    simp only [Act.put, List.setIfInBounds_toArray, List.set_cons_zero, List.set_cons_succ]
    refine wpAnyD_only (i := 15) rfl (by kernel_rfl) (by rfl) (fun K hK => ?_)
    go_simp
    refine (rroot_nil gx gx M wf HX8.out HM4.out HM.out.2 (HT.out.later B8.out)).mono ?_
    rintro e wg ⟨rfl, hbg⟩
    rw [HX.out]
    have HYg : Hid (LsAt wg w2.heap.size b' (M ++ [z])) := HY8.out.later hbg
    have HXg : Hid (LsAt wg gx gx M) := HX8.out.later hbg
    have Bg : Hid (Below w.heap.size w wg) := B8.out.trans (hbg.mono B8.out.size)
    try dsimp only
    have hSn := (And.intro (Row.later hS.1 hbg) (Row.later hS.2 hbg))
    refine hK.out _ _ (fun _ => hSn) ?_
    clear hK K hS
    have hS := hSn
    clear hSn
    try simp only [Act.put, List.setIfInBounds_toArray, List.set_cons_zero, List.set_cons_succ]
    clear hbg HY8 HX8 B8
    refine wpAnyD_take (i := 17) rfl (by kernel_rfl) (by kernel_rfl) (by kernel_rfl) (by kernel_rfl) (fun _ _ _ h => h) (yields_neq_hash (by rfl) _ _ _ rfl X H3X.out.1 rfl rfl) hS ?_
    simp only [Act.put, List.setIfInBounds_toArray, List.set_cons_zero, List.set_cons_succ]
    refine' wpAnyD_take (i := 18) (v := _) rfl (by kernel_rfl) (by kernel_rfl) (by kernel_rfl) (by kernel_rfl) (fun _ _ _ h => h) (Or.inl ⟨by rfl, ?hy14⟩) hS ?re14
    case hy14 => (intro w hSw; (try dsimp only at hSw); go_simp; (try with_reducible rfl))
    simp only [Act.put, List.setIfInBounds_toArray, List.set_cons_zero, List.set_cons_succ]
    refine' wpAnyD_take (i := 19) (v := _) rfl (by kernel_rfl) (by kernel_rfl) (by kernel_rfl) (by kernel_rfl) (fun _ _ _ h => h) (Or.inl ⟨by rfl, ?hy15⟩) hS ?re15
    case hy15 => (intro w hSw; (try dsimp only at hSw); go_simp; (try with_reducible rfl))
    simp only [Act.put, List.setIfInBounds_toArray, List.set_cons_zero, List.set_cons_succ]
    refine' wpAnyD_take (i := 20) (v := _) rfl (by kernel_rfl) (by kernel_rfl) (by kernel_rfl) (by kernel_rfl) (fun _ _ _ h => h) (Or.inl ⟨by rfl, ?hy16⟩) hS ?re16
    case hy16 => (intro w hSw; (try dsimp only at hSw); go_simp; (try with_reducible rfl))
    simp only [Act.put, List.setIfInBounds_toArray, List.set_cons_zero, List.set_cons_succ]
    refine' wpAnyD_take (i := 21) (v := _) rfl (by kernel_rfl) (by kernel_rfl) (by kernel_rfl) (by kernel_rfl) (fun _ _ _ h => h) (Or.inl ⟨by rfl, ?hy17⟩) hS ?re17
    case hy17 => (intro w hSw; (try dsimp only at hSw); go_simp; (try with_reducible rfl))
    simp only [Act.put, List.setIfInBounds_toArray, List.set_cons_zero, List.set_cons_succ]
    refine' wpAnyD_take (i := 22) (v := _) rfl (by kernel_rfl) (by kernel_rfl) (by kernel_rfl) (by kernel_rfl) (fun _ _ _ h => h) (Or.inl ⟨by rfl, ?hy18⟩) hS ?re18
    case hy18 => (intro w hSw; (try dsimp only at hSw); go_simp; (try with_reducible rfl))
    simp only [Act.put, List.setIfInBounds_toArray, List.set_cons_zero, List.set_cons_succ]
    refine wpAnyD_take (i := 24) rfl (by kernel_rfl) (by kernel_rfl) (by kernel_rfl) (by kernel_rfl) (fun _ _ _ h => h) (yields_row (by rfl) 34 _ rfl w.heap.size rfl 34 z.cs _ (fun _ h => h.2) Tryd.underlying34 rfl IZ.out) hS ?_
    simp only [Act.put, List.setIfInBounds_toArray, List.set_cons_zero, List.set_cons_succ]
    refine wpAnyD_only (i := 23) rfl (by kernel_rfl) (by rfl) (fun K hK => ?_)
    go_simp
    refine (lsat_any wg w2.heap.size b' (M ++ [z]) L.length HYN.out.2.1 HYN.out.1 HYg.out).mono ?_
    rintro e wh ⟨rfl, hbh⟩
    rw [HYN.out.2.2]
    have HYh : Hid (LsAt wh w2.heap.size b' (M ++ [z])) := HYg.out.later hbh
    have HXh : Hid (LsAt wh gx gx M) := HXg.out.later hbh
    have Bh : Hid (Below w.heap.size w wh) := Bg.out.trans (hbh.mono Bg.out.size)
    try dsimp only
    have hSn := (And.intro (Row.later hS.1 hbh) (Row.later hS.2 hbh))
    refine hK.out _ _ (fun _ => hSn) ?_
    clear hK K hS
    have hS := hSn
    clear hSn
    try simp only [Act.put, List.setIfInBounds_toArray, List.set_cons_zero, List.set_cons_succ]
    clear hbh HYg HXg Bg
    refine wpAnyD_take (i := 25) rfl (by kernel_rfl) (by kernel_rfl) (by kernel_rfl) (by kernel_rfl) (fun _ _ _ h => h) (yields_neq_row (by rfl) _ _ _ rfl z rfl rfl) hS ?_
    simp only [Act.put, List.setIfInBounds_toArray, List.set_cons_zero, List.set_cons_succ]
    refine' wpAnyD_take (i := 26) (v := _) rfl (by kernel_rfl) (by kernel_rfl) (by kernel_rfl) (by kernel_rfl) (fun _ _ _ h => h) (Or.inl ⟨by rfl, ?hy19⟩) hS ?re19
    case hy19 => (intro w hSw; (try dsimp only at hSw); go_simp; (try with_reducible rfl))
    simp only [Act.put, List.setIfInBounds_toArray, List.set_cons_zero, List.set_cons_succ]
    refine wpAnyD_done (by kernel_rfl) ?_ _
    clear hS hw1
    go_wp2_with fail
    refine (lslen_any wh gx gx M HXh.out).mono ?_
    rintro e wi ⟨rfl, hwe⟩
    obtain rfl := hwe
    rw [HM.out.1]
    go_wp2
    go_loopw [57] (fun i wr => ∃ k : Nat, k ≤ L.length ∧ i = .int .i64 k ∧ Below wi.heap.size wi wr) (fun i _ => L.length - (intOf i).toNat)
    case atStart => exact ⟨0, Nat.zero_le _, rfl, Below.refl _ _⟩
    case round =>
      obtain ⟨k, hk, rfl, hbr⟩ := hrel
      have k0 : (0 : Int) ≤ (k : Int) := by omega
      have HBR := (show Hid (Below wi.heap.size wi wr) from hbr)
      clear hbr
      by_cases hlt : k < L.length
      · have k1 : (k : Int) < (L.length : Int) := by omega
        have HK : Hid (k < L.length) := hlt
        have HKM : Hid (k < M.length) := by rw [HM.out.1]; exact hlt
        clear hlt hk
        go_wp2_with fail
        refine (lsat_any wr gx gx M k HKM.out (by have := HM4.out; omega) (HXh.out.later HBR.out)).mono ?_
        rintro e wj ⟨rfl, hbj⟩
        obtain ⟨a, ha⟩ : ∃ a, M.getD k Rc.z = a := ⟨_, rfl⟩
        have HA : Hid (M.getD k Rc.z = a) := ha
        rw [ha]
        clear ha
        have HBJ : Hid (Below wi.heap.size wi wj) := HBR.out.trans (hbj.mono HBR.out.size)
        clear hbj
        go_wp2_with fail
        refine (lsat_any wj w2.heap.size b' (M ++ [z]) k (by have := HYN.out.2.1; have := HK.out; omega) HYN.out.1 (HYh.out.later HBJ.out)).mono ?_
        rintro e wk ⟨rfl, hbk⟩
        have HBK : Hid (Below wi.heap.size wi wk) := HBJ.out.trans (hbk.mono HBJ.out.size)
        rw [getD_app_rc M z HKM.out, HA.out]
        clear hbk
        go_wp2_with (refine wpList_bin_row rfl .neq 34 _ _ _ rfl a.cs a.cs false rfl rfl rc_guard (rc_neq a) ?_; refine stop ?_)
        unfold Stop
        have hF := HBK.out
        go_wp2
        go_roundw
        case rel => exact ⟨k + 1, HK.out, by go_num, hF⟩
        case measure => simp [intOf]; have := HK.out; omega
      · obtain rfl : k = L.length := by omega
        go_wp2
        go_ret
        exact ⟨rfl, Bh.out.trans (HBR.out.mono Bh.out.size)⟩
  · have n30 : (30 : Int) < (L.length : Int) := by omega
    go_wp2
    go_ret
    exact ⟨rfl, B1.out⟩
end Go.Proofs.YtcahmldgkkcheaaDoor
