
/-
  The walk of WireReads.
-/
import Derived.Test.YtekpkbmelhgneaaWiRh
namespace Go.Proofs.Ytekpkbmelhgneaa
open Go.RowKit
set_option maxRecDepth 100000
set_option linter.unusedSimpArgs false
set_option linter.unusedVariables false

theorem yields_row {ops : Array Oper} {S : World → Prop} {op : Oper} {a : Act} (hw : Region.wanted op (yielded ops a.tmps) = true) (ty : TypeId) (x : Operand) (ho : op.op = .load ty x)
    (g : Nat) (hx : a.eval x = .pointer (some ⟨g, 0, none⟩)) (t : TypeId) (cs : Array Value) (d : TypeDesc) (hS : ∀ w, S w → Row w g cs t)
    (hu : Try.prog.underlying ty = some d) (hd : (match d with | .struct _ | .array _ _ => true | _ => false) = true) (hi : (Try.prog.info? ty).map (·.size) = some cs.size) : YieldsIf Try.prog ops S op (.agg cs) a :=
  .inl ⟨hw, fun w hw' => by
    unfold execOp
    simp only [ho, hx, Instr.loadAt, Instr.sureAddr, Sem.run_bind, Sem.run_pure, Result.andThen_ok, run_loadVar_row (P := Try.prog) w g t ty cs (0, 0) d (hS w hw') hu (by cases d <;> simp_all) hi]⟩
/-- What is held while it is read. -/
structure RdX (w wr : World) (l : List Int) (t : List Nat) (X Nb R D : Nat) (u vb : Value) (L : List Nat) (s : List Nat × Bool) : Prop where
  g : RgB w wr l t X Nb u
  rd : RdAt wr R D s
  own : Own wr w.heap.size vb L
  hR : w.heap.size ≤ R
theorem RdX.step {w wr w' : World} {l : List Int} {t : List Nat} {X Nb R D : Nat} {u vb : Value} {L : List Nat} {s s' : List Nat × Bool} (h : RdX w wr l t X Nb R D u vb L s) (hr : RdAt w' R D s') (he : Else R wr w') : RdX w w' l t X Nb R D u vb L s' := by
  obtain ⟨cs, hrow⟩ := h.rd.row
  exact ⟨h.g.else hrow h.hR he, hr, own_else (w := w) h.own hrow he, h.hR⟩
set_option maxHeartbeats 8000000 in
theorem reads_walk (v0 : Value) (l : List Int) (t : List Nat) (x : Int) (w : World) (hl : IntsIn w v0 l) (ht : t.length = 32 ∧ W8 t) (hx : -9223372036854775808 ≤ x ∧ x ≤ 9223372036854775807) :
    Calls Try.prog 6 #[v0, .agg (bytesL t), .int .i64 x] w fun e w' => e = .returned (.bool true) ∧ Below w.heap.size w w' := by
  obtain ⟨hlm, p0, c0, rfl, hcells⟩ := id hl
  clear hcells
  unfold maxLen at hlm
  have l0 : (0 : Int) ≤ (l.length : Int) := by omega
  have l1 : (l.length : Int) ≤ 9223372036854775807 := by omega
  have rH0 : Row (w.alloc (.cells (bytesL t) 40)) w.heap.size (bytesL t) 40 := Row.new w _ _ rfl
  have B0 := below1 w (.cells (bytesL t) 40)
  go_enter Try.func6, Try.ntmps6
  go_wp2_with (go_at_call 11; refine stop ?_)
  refine (fit_any _).mono ?_
  rintro e w1 ⟨rfl, hb1⟩
  have rH := rH0.later hb1
  have B1 := chain B0 hb1
  clear rH0 B0 hb1
  by_cases hlong : 30 < l.length
  · have hlong' : (30 : Int) < (l.length : Int) := by omega
    go_wp2
    go_ret
    exact ⟨rfl, B1⟩
  · have hlong' : ¬ (30 : Int) < (l.length : Int) := by omega
    obtain ⟨X, hX, hX1⟩ : ∃ X : Nat, IntKind.u64.wrap x = (X : Int) ∧ X < 18446744073709551616 := ⟨(x % 18446744073709551616).toNat, by rw [IntKind.wrap_u64]; omega, by omega⟩
    have hR : RdsR w ((w1.alloc (.cells #[.int .u64 (X : Nat), .int .u64 (l.length : Nat)] 26)).alloc (.cells #[.slice none 0 0] 54)) l t X w1.heap.size (w1.heap.size + 1) 0 (.slice none 0 0) (.slice none 0 0) :=
      ⟨(rH.alloc _).alloc _, (Row.new w1 _ _ rfl).alloc _, ⟨Row.new _ _ _ (by simp), World.ownsRow_nil _ _ _ _, fun y hy => by simp [wB] at hy⟩, World.ownsRow_nil _ _ _ _, B1.trans ((below2 w1 _ _).mono B1.size), by have := B1.size; omega, B1.size, fun j hj => by cases hj⟩
    generalize hNe : w1.heap.size = Nb at *
    clear rH B1
    go_upto_region 8 with fail
    generalize (w1.alloc (.cells #[.int .u64 (X : Nat), .int .u64 (l.length : Nat)] 26)).alloc (.cells #[.slice none 0 0] 54) = w2 at *
    generalize hWe : Nb + 1 = Wb at *
    clear hNe hWe hX
    go_wp2
    go_loopw [31, 9] (fun i u wr => ∃ (k : Nat) (v : Value), k ≤ l.length ∧ i = .int .i64 k ∧ RdsR w wr l t X Nb Wb k v u) (fun i _ _ => l.length - (intOf i).toNat)
    case atStart => exact ⟨0, _, Nat.zero_le _, rfl, hR⟩
    case round =>
      clear hR
      obtain ⟨k, v, hk, rfl, hR⟩ := hrel
      obtain ⟨pu, nu, cu, rfl, hnu⟩ := ownsRow_form hR.own
      subst hnu
      by_cases hlt : nu < l.length
      · have hlt' : (nu : Int) < (l.length : Int) := by omega
        have k0 : (0 : Int) ≤ (nu : Int) := by omega
        have k1 : (nu : Int) < 30 := by omega
        obtain ⟨_, p, c, e, hc⟩ := hl.later hR.below
        cases e
        obtain ⟨b, off, rfl, hb, hcell⟩ := hc nu hlt
        clear hc
        obtain ⟨kk, hkk, hkk1, hkk6⟩ : ∃ kk : Nat, 1 + (nu : Int) % 6 = (kk : Int) ∧ 1 ≤ kk ∧ kk ≤ 6 := ⟨1 + nu % 6, by omega, by omega, by omega⟩
        have q0 : (1 : Int) ≤ (kk : Int) := by omega
        have q1 : (kk : Int) ≤ 6 := by omega
        have hwv : low (256 ^ kk) (l.getD nu 0) = wv l nu := by unfold wv kf; rw [show 1 + nu % 6 = kk by omega]
        have hkf : kf nu = kk := by unfold kf; omega
        have hm := mask_kk (l.getD nu 0) kk hkk1 hkk6
        rw [hwv] at hm
        clear hwv
        generalize l.getD nu 0 = xe at hcell hm
        have hwlt := wv_lt l nu
        have hw6 : 256 ^ kf nu ≤ 256 ^ 6 := Nat.pow_le_pow_right (by decide) (by omega)
        have hBs := wB_succ l nu
        have hWs := wants_succ l nu
        have hBl := wB_le l nu
        rw [hkf] at hBs
        generalize wv l nu = xv at *
        have x0 : (0 : Int) ≤ (xv : Int) := by omega
        have x1 : (xv : Int) ≤ 281474976710655 := by omega
        have z1 := hR.wt.lt
        have z2 := hR.rh.lt
        have z3 := hR.rn.lt
        obtain ⟨u3, w3, run3, own3, gr3⟩ := append_one Try.underlying52 info_int3 rfl (by decide) (by decide) wr w.heap.size 52 _ _ _ hR.own #[.int .i64 (xv : Nat)] rfl (by simp [Value.oneCell']) (by omega) hR.below.size _ rfl
        have blk : ∀ j, j < wr.heap.size → (Value.slice pu nu cu).ownBlock ≠ some j → w3.heap[j]? = wr.heap[j]? := fun j hj hne => (gr3.block j (by simp; omega) (fun e => hne e.symm)).trans (heap_alloc_old wr _ hj)
        have hsz3 : wr.heap.size ≤ w3.heap.size := by have := gr3.size; simp at this; omega
        have nH : (Value.slice pu nu cu).ownBlock ≠ some w.heap.size := own_ne hR.own hR.rh (by decide)
        have nN : (Value.slice pu nu cu).ownBlock ≠ some Nb := own_ne hR.own hR.rn (by decide)
        have nW : (Value.slice pu nu cu).ownBlock ≠ some Wb := own_ne hR.own hR.wt.row (by decide)
        have hb3 : Below w.heap.size w w3 := hR.below.trans ⟨gr3.os, gr3.tape, gr3.output, hsz3, fun j hj => blk j (by have := hR.below.size; omega) (fun e => by have := (hR.own.lt j e).1; omega)⟩
        have ww3 : WrAt w3 Wb v (wB l nu) := ⟨(blk Wb z1 nW).trans hR.wt.row, ownsRow_keep hR.wt.own (fun j _ hj e => blk j hj (fun e2 => by
          rcases own_own hR.wt.own hR.own (by decide) with h | h
          · rw [h] at e; cases e
          · exact h (e.trans e2.symm))), hR.wt.w8⟩
        rw [← show wants l (nu + 1) = wants l nu ++ [Value.int .i64 (xv : Nat)] from hWs] at own3
        obtain ⟨pu3, nu3, cu3, hu3, hnu3⟩ := ownsRow_form own3
        subst hu3
        have wA := ww3.later (below1 w3 (.cells #[.int .i64 (xv : Nat)] 3))
        have hio : IntsOff (w3.alloc (.cells #[.int .i64 (xv : Nat)] 3)) (Far Wb v) (.slice (some ⟨w3.heap.size, 0, none⟩) 1 1) [(xv : Int)] := by
          refine ⟨by simp, _, _, rfl, fun i hi => ?_⟩
          obtain rfl : i = 0 := by simpa using hi
          exact ⟨_, 0, rfl, ww3.far (Nat.le_refl _), by simp, by rw [World.cell?_alloc_at _ _ _ _ rfl]; rfl⟩
        clear hnu3
        go_wp2_with (first | (at_builtin; refine Lib.wpList_append_run _ rfl _ _ _ _ rfl _ _ rfl rfl _ _ run3 ?_) | (go_at_call 24; refine stop ?_))
        refine (wint_any kk (by omega) _ [(xv : Int)] _ Wb v _ wA hio (by omega)).mono ?_
        rintro e w5 ⟨v5, rfl, ww5, ws5⟩
        have hn5 : RdsR w w5 l t X Nb Wb (nu + 1) v5 (.slice pu3 nu3 cu3) := by
          have zz3 : w3.heap.size ≤ (w3.alloc (.cells #[.int .i64 (xv : Nat)] 3)).heap.size := by simp
          have old : ∀ j, j < w3.heap.size → j ≠ Wb → v.ownBlock ≠ some j → w5.heap[j]? = w3.heap[j]? := fun j hj h1 h2 => (ws5.block j (Nat.lt_of_lt_of_le hj zz3) h1 h2).trans (heap_alloc_old w3 _ hj)
          have rh3 : Row w3 w.heap.size (bytesL t) 40 := (blk _ z2 nH).trans hR.rh
          have rn3 : Row w3 Nb #[.int .u64 (X : Nat), .int .u64 (l.length : Nat)] 26 := (blk _ z3 nN).trans hR.rn
          refine ⟨(old _ rh3.lt (RowN.ne rh3 ww3.row (by decide)) (own_ne ww3.own rh3 (by decide))).trans rh3, (old _ rn3.lt (RowN.ne rn3 ww3.row (by decide)) (own_ne ww3.own rn3 (by decide))).trans rn3, ?_, ?_, ?_, hR.hW, hR.hN, ?_⟩
          · rw [hBs]
            simpa using ww5
          · refine ownsRow_keep own3 fun j h1 h2 h3 => old j h2 (fun e => own_ne own3 ww3.row (by decide) (e ▸ h3)) (fun e => ?_)
            rcases own_own ww3.own own3 (by decide) with h | h
            · rw [h] at e; cases e
            · exact h (e.trans h3.symm)
          · exact hb3.trans ⟨ws5.os, ws5.tape, ws5.output, Nat.le_trans zz3 ws5.size, fun j hj => old j (Nat.lt_of_lt_of_le hj hb3.size) (by have := hR.hW; omega) (fun e => by have := hR.hv j e; omega)⟩
          · intro j hj
            rcases ws5.moved j hj with e | e
            · exact hR.hv j e
            · have := hb3.size; simp at e; omega
        clear hR ww5 ws5 wA hio ww3 own3 gr3 blk hb3
        go_wp2
        go_roundw
        case rel => exact ⟨nu + 1, _, by omega, by go_num, hn5⟩
        case measure => simp [intOf]; omega
      · obtain rfl : nu = l.length := by omega
        have hnl : ¬ (l.length : Int) < (l.length : Int) := by omega
        go_upto_region 16 with fail
        refine region16 _ _ w _ l t X Nb Wb v _ (by simp) rfl rfl rfl hR (by omega) ht.1 ht.2 hX1 ?_
        intro s54 s55 s56 s57 s58 s59 s60 s61 s62 w5 v5 hB5 hw5 hv5 hW5
        simp only [List.setIfInBounds_toArray, List.set_cons_zero, List.set_cons_succ]
        clear hR
        have hLl : (bytes16 l t X true true true).length ≤ 1000 ∧ 49 ≤ (bytes16 l t X true true true).length := by have := wB_le l l.length; simp [bytes16, numB_len, ht.1]; omega
        have hL8 : W8 (bytes16 l t X true true true) := (wB_w8 l _).append (ht.2.append ((numB_w8 _).append (W8.of rfl)))
        have hLe : Hid (bytes16 l t X true true true = wR l 0 ++ (t ++ (numB (X, l.length) ++ [9]))) := rfl
        go_wp2_with (go_at_call 28; refine stop ?_)
        refine (wbytes_any w5 Wb v5 _ hw5 (by omega)).mono ?_
        rintro e w6 ⟨vb, rfl, own6, hb6⟩
        have hB6 := hB5.later hb6
        have own6' : Own w6 w.heap.size vb (bytes16 l t X true true true) := ⟨own6.1, own6.2.imp id fun ⟨g, cap, cur, e, h1, h2⟩ => ⟨g, cap, cur, e, Nat.le_trans hB5.below.size h1, h2⟩⟩
        obtain ⟨pb, nb, cb, hvb, hnb⟩ := own6.form
        subst hvb
        have nb0 : (49 : Int) ≤ (nb : Int) := by omega
        have nb1 : (nb : Int) ≤ 1000 := by omega
        have HNB : Hid (nb = (bytes16 l t X true true true).length) := hnb
        clear hB5 hw5 hb6 own6 hnb
        go_wp2_with (go_at_call 19; refine stop ?_)
        refine (new_any _ _ w6 (own6'.bytes hL8 (by unfold maxLen; omega)) (by omega)).mono ?_
        rintro e w7 ⟨R, D, rfl, hR7, hD7, rd7, hb7⟩
        rw [hLe.out] at rd7
        have hX7 : RdX w w7 l t X Nb R D (.slice pu l.length cu) (.slice pb nb cb) (bytes16 l t X true true true) (wR l 0 ++ (t ++ (numB (X, l.length) ++ [9])), false) := ⟨hB6.later hb7, rd7, ownsRow_later own6' hb7, Nat.le_trans hB6.below.size hR7⟩
        clear hB6 rd7 own6' hb7 hR7 hD7
        generalize hLL : bytes16 l t X true true true = LL at *
        have HLL : Hid (bytes16 l t X true true true = LL) := hLL
        clear hLL hLe
        go_wp2
        go_loopw [68] (fun i wz => ∃ j : Nat, j ≤ l.length ∧ i = .int .i64 j ∧ RdX w wz l t X Nb R D (.slice pu l.length cu) (.slice pb nb cb) LL (wR l j ++ (t ++ (numB (X, l.length) ++ [9])), false)) (fun i _ => l.length - (intOf i).toNat)
        case atStart => exact ⟨0, Nat.zero_le _, rfl, hX7⟩
        case round =>
          clear hX7
          obtain ⟨j, hj, rfl, hXz⟩ := hrel
          by_cases hjl : j < l.length
          · have hjl' : (j : Int) < (l.length : Int) := by omega
            have j0 : (0 : Int) ≤ (j : Int) := by omega
            obtain ⟨_, ⟨e, h0⟩ | ⟨g, cap, cur, e, hbg, hg, _⟩⟩ := id hXz.g.own
            · omega
            · cases e
              have hcell := want_at hXz.g.own hjl
              have hkf : 1 + (j : Int) % 6 = ((kf j : Nat) : Int) := by unfold kf; omega
              have hkl := kf_lt j
              have hrd := hXz.rd
              rw [wR_succ l j hjl, List.append_assoc] at hrd
              have hri := rI_int (kf j) (wv l j) (wR l (j + 1) ++ (t ++ (numB (X, l.length) ++ [9]))) (wv_lt l j) (by omega)
              have hrd2 := rD_int (kf j) (wv l j : Nat) (wR l (j + 1) ++ (t ++ (numB (X, l.length) ++ [9])))
              have hX' : RdX w wr l t X Nb R D (.slice (some ⟨g, 0, none⟩) l.length cu) (.slice pb nb cb) LL (intB (kf j) (wv l j : Nat) ++ (wR l (j + 1) ++ (t ++ (numB (X, l.length) ++ [9]))), false) := ⟨hXz.g, hrd, hXz.own, hXz.hR⟩
              clear hXz hrd hg
              generalize wv l j = xv at *
              generalize kf j = kk at *
              go_wp2_with (go_at_call 29; refine stop ?_)
              refine (rint2 kk (by omega) _ rfl _ R D _ hX'.rd).mono ?_
              rintro e w8 ⟨y, s8, hy, hs8, rfl, rd8, he8⟩
              rw [hs8.out, hrd2] at rd8
              obtain rfl : y = xv := hy.out.trans hri
              have hX8 := hX'.step rd8 he8
              clear hX' rd8 he8 hy hs8 hri hrd2
              go_wp2
              go_roundw
              case rel => exact ⟨j + 1, by omega, by go_num, hX8⟩
              case measure => simp [intOf]; omega
          · obtain rfl : j = l.length := by omega
            have hnl : ¬ (l.length : Int) < (l.length : Int) := by omega
            have hXn : RdX w wr l t X Nb R D (.slice pu l.length cu) (.slice pb nb cb) LL (t ++ (numB (X, l.length) ++ [9]), false) := by
              have := hXz
              rw [wR_all, List.nil_append] at this
              exact this
            clear hXz
            have hHs := hash_neq_self t ht.1
            have hih := info_hash' ht.1
            have hin : (Try.prog.info? 26).map (·.size) = some (#[.int .u64 (X : Nat), .int .u64 (l.length : Nat)] : Array Value).size := by kernel_rfl
            have hwN : Word64 (X, l.length) := ⟨hX1, (show l.length < 18446744073709551616 by omega)⟩
            go_upto_region 25 with fail
            refine wp_region_D (fun _ => true) (fun w' : World => Row w' w.heap.size (bytesL t) 40 ∧ Row w' Nb #[.int .u64 (X : Nat), .int .u64 (l.length : Nat)] 26) (by kernel_rfl) ?_
            have hS : (fun w' : World => Row w' w.heap.size (bytesL t) 40 ∧ Row w' Nb #[.int .u64 (X : Nat), .int .u64 (l.length : Nat)] 26) wr.drew := ⟨hXn.g.rh, hXn.g.rn⟩
            have hX9 : RdX w wr.drew l t X Nb R D (.slice pu l.length cu) (.slice pb nb cb) LL (t ++ (numB (X, l.length) ++ [9]), false) := ⟨hXn.g.later (Below.refl _ wr).drew, hXn.rd.drew, ownsRow_later hXn.own (Below.refl _ wr).drew, hXn.hR⟩
            clear hXn
            generalize wr.drew = w9 at *
            refine' wpAnyD_take (i := 0) (v := _) rfl (by kernel_rfl) (by kernel_rfl) (by kernel_rfl) (by kernel_rfl) (fun _ _ _ h => h) (Or.inl ⟨by rfl, ?hy1⟩) hS ?re1
            case hy1 => (intro w hSw; (try dsimp only at hSw); go_simp; (try with_reducible rfl))
            simp only [Act.put, List.setIfInBounds_toArray, List.set_cons_zero, List.set_cons_succ]
            refine wpAnyD_take (i := 2) rfl (by kernel_rfl) (by kernel_rfl) (by kernel_rfl) (by kernel_rfl) (fun _ _ _ h => h) (yields_row (by rfl) 40 _ rfl w.heap.size rfl 40 (bytesL t) _ (fun _ h => h.1) Try.underlying40 rfl hih) hS ?_
            simp only [Act.put, List.setIfInBounds_toArray, List.set_cons_zero, List.set_cons_succ]
            refine wpAnyD_only (i := 1) rfl (by kernel_rfl) (by rfl) (fun K hK => ?_)
            go_simp
            refine (rhash_any w9 R D _ hX9.rd).mono ?_
            rintro e w10 ⟨rfl, rd10, he10⟩
            rw [rH_app t _ ht.1]
            rw [rDrop_app t _ ht.1] at rd10
            have hX10 := hX9.step rd10 he10
            clear hX9 rd10 he10
            try dsimp only
            have hSn := (⟨hX10.g.rh, hX10.g.rn⟩ : (fun w' : World => Row w' w.heap.size (bytesL t) 40 ∧ Row w' Nb #[.int .u64 (X : Nat), .int .u64 (l.length : Nat)] 26) w10)
            refine hK.out _ _ (fun _ => hSn) ?_
            clear hK K hS
            have hS := hSn
            clear hSn
            try simp only [Act.put, List.setIfInBounds_toArray, List.set_cons_zero, List.set_cons_succ]
            refine' wpAnyD_take (i := 3) (v := _) rfl (by kernel_rfl) (by kernel_rfl) (by kernel_rfl) (by kernel_rfl) (fun _ _ _ h => h) (Or.inl ⟨by rfl, ?hy2⟩) hS ?re2
            case hy2 => (intro w hSw; (try dsimp only at hSw); go_simp; (try with_reducible rfl))
            simp only [Act.put, List.setIfInBounds_toArray, List.set_cons_zero, List.set_cons_succ]
            refine' wpAnyD_take (i := 4) (v := _) rfl (by kernel_rfl) (by kernel_rfl) (by kernel_rfl) (by kernel_rfl) (fun _ _ _ h => h) (Or.inl ⟨by rfl, ?hy3⟩) hS ?re3
            case hy3 => (intro w hSw; (try dsimp only at hSw); go_simp; (try with_reducible rfl))
            simp only [Act.put, List.setIfInBounds_toArray, List.set_cons_zero, List.set_cons_succ]
            refine' wpAnyD_take (i := 5) (v := _) rfl (by kernel_rfl) (by kernel_rfl) (by kernel_rfl) (by kernel_rfl) (fun _ _ _ h => h) (Or.inl ⟨by rfl, ?hy4⟩) hS ?re4
            case hy4 => (intro w hSw; (try dsimp only at hSw); go_simp; (try with_reducible rfl))
            simp only [Act.put, List.setIfInBounds_toArray, List.set_cons_zero, List.set_cons_succ]
            refine wpAnyD_take (i := 7) rfl (by kernel_rfl) (by kernel_rfl) (by kernel_rfl) (by kernel_rfl) (fun _ _ _ h => h) (yields_row (by rfl) 26 _ rfl Nb rfl 26 #[.int .u64 (X : Nat), .int .u64 (l.length : Nat)] _ (fun _ h => h.2) Try.underlying26 rfl hin) hS ?_
            simp only [Act.put, List.setIfInBounds_toArray, List.set_cons_zero, List.set_cons_succ]
            refine wpAnyD_only (i := 6) rfl (by kernel_rfl) (by rfl) (fun K hK => ?_)
            go_simp
            refine (rnum2 w10 R D _ hX10.rd).mono ?_
            rintro e w11 ⟨y1, y2, s11, hy1, hy2, hs11, rfl, rd11, he11⟩
            rw [hs11.out, rD_num] at rd11
            obtain rfl : y1 = X := hy1.out.trans (rHi_num _ _ _ hwN)
            obtain rfl : y2 = l.length := hy2.out.trans (rLo_num _ _ _ hwN)
            have hX11 := hX10.step rd11 he11
            clear hX10 rd11 he11 hy1 hy2 hs11
            try dsimp only
            have hSn := (⟨hX11.g.rh, hX11.g.rn⟩ : (fun w' : World => Row w' w.heap.size (bytesL t) 40 ∧ Row w' Nb #[.int .u64 (y1 : Nat), .int .u64 (l.length : Nat)] 26) w11)
            refine hK.out _ _ (fun _ => hSn) ?_
            clear hK K hS
            have hS := hSn
            clear hSn
            try simp only [Act.put, List.setIfInBounds_toArray, List.set_cons_zero, List.set_cons_succ]
            refine' wpAnyD_take (i := 8) (v := _) rfl (by kernel_rfl) (by kernel_rfl) (by kernel_rfl) (by kernel_rfl) (fun _ _ _ h => h) (Or.inl ⟨by rfl, ?hy5⟩) hS ?re5
            case hy5 => (intro w hSw; (try dsimp only at hSw); go_simp; (try with_reducible rfl))
            simp only [Act.put, List.setIfInBounds_toArray, List.set_cons_zero, List.set_cons_succ]
            refine' wpAnyD_take (i := 9) (v := _) rfl (by kernel_rfl) (by kernel_rfl) (by kernel_rfl) (by kernel_rfl) (fun _ _ _ h => h) (Or.inl ⟨by rfl, ?hy6⟩) hS ?re6
            case hy6 => (intro w hSw; (try dsimp only at hSw); go_simp; (try with_reducible rfl))
            simp only [Act.put, List.setIfInBounds_toArray, List.set_cons_zero, List.set_cons_succ]
            refine' wpAnyD_take (i := 10) (v := _) rfl (by kernel_rfl) (by kernel_rfl) (by kernel_rfl) (by kernel_rfl) (fun _ _ _ h => h) (Or.inl ⟨by rfl, ?hy7⟩) hS ?re7
            case hy7 => (intro w hSw; (try dsimp only at hSw); go_simp; (try with_reducible rfl))
            simp only [Act.put, List.setIfInBounds_toArray, List.set_cons_zero, List.set_cons_succ]
            refine' wpAnyD_take (i := 11) (v := _) rfl (by kernel_rfl) (by kernel_rfl) (by kernel_rfl) (by kernel_rfl) (fun _ _ _ h => h) (Or.inl ⟨by rfl, ?hy8⟩) hS ?re8
            case hy8 => (intro w hSw; (try dsimp only at hSw); go_simp; (try with_reducible rfl))
            simp only [Act.put, List.setIfInBounds_toArray, List.set_cons_zero, List.set_cons_succ]
            refine wpAnyD_only (i := 12) rfl (by kernel_rfl) (by rfl) (fun K hK => ?_)
            go_simp
            refine (bad_any w11 R D _ hX11.rd).mono ?_
            rintro e w' ⟨rfl, hw'⟩
            obtain rfl := hw'.symm
            try dsimp only
            have hSn := hS
            refine hK.out _ _ (fun _ => hSn) ?_
            clear hK K hS
            have hS := hSn
            clear hSn
            try simp only [Act.put, List.setIfInBounds_toArray, List.set_cons_zero, List.set_cons_succ]
            refine' wpAnyD_take (i := 13) (v := _) rfl (by kernel_rfl) (by kernel_rfl) (by kernel_rfl) (by kernel_rfl) (fun _ _ _ h => h) (Or.inl ⟨by rfl, ?hy9⟩) hS ?re9
            case hy9 => (intro w hSw; (try dsimp only at hSw); go_simp; (try with_reducible rfl))
            simp only [Act.put, List.setIfInBounds_toArray, List.set_cons_zero, List.set_cons_succ]
            refine' wpAnyD_take (i := 14) (v := _) rfl (by kernel_rfl) (by kernel_rfl) (by kernel_rfl) (by kernel_rfl) (fun _ _ _ h => h) (Or.inl ⟨by rfl, ?hy10⟩) hS ?re10
            case hy10 => (intro w hSw; (try dsimp only at hSw); go_simp; (try with_reducible rfl))
            simp only [Act.put, List.setIfInBounds_toArray, List.set_cons_zero, List.set_cons_succ]
            refine' wpAnyD_take (i := 15) (v := _) rfl (by kernel_rfl) (by kernel_rfl) (by kernel_rfl) (by kernel_rfl) (fun _ _ _ h => h) (Or.inl ⟨by rfl, ?hy11⟩) hS ?re11
            case hy11 => (intro w hSw; (try dsimp only at hSw); go_simp; (try with_reducible rfl))
            simp only [Act.put, List.setIfInBounds_toArray, List.set_cons_zero, List.set_cons_succ]
            refine wpAnyD_only (i := 16) rfl (by kernel_rfl) (by rfl) (fun K hK => ?_)
            go_simp
            refine (done_any w11 R D _ hX11.rd).mono ?_
            rintro e w' ⟨rfl, hw'⟩
            obtain rfl := hw'.symm
            rw [show (!(([9] : List Nat), false).2 && (([9] : List Nat), false).1.length == 0) = false from rfl]
            try dsimp only
            have hSn := hS
            refine hK.out _ _ (fun _ => hSn) ?_
            clear hK K hS
            have hS := hSn
            clear hSn
            try simp only [Act.put, List.setIfInBounds_toArray, List.set_cons_zero, List.set_cons_succ]
            refine' wpAnyD_take (i := 17) (v := _) rfl (by kernel_rfl) (by kernel_rfl) (by kernel_rfl) (by kernel_rfl) (fun _ _ _ h => h) (Or.inl ⟨by rfl, ?hy12⟩) hS ?re12
            case hy12 => (intro w hSw; (try dsimp only at hSw); go_simp; (try with_reducible rfl))
            simp only [Act.put, List.setIfInBounds_toArray, List.set_cons_zero, List.set_cons_succ]
            refine' wpAnyD_take (i := 18) (v := _) rfl (by kernel_rfl) (by kernel_rfl) (by kernel_rfl) (by kernel_rfl) (fun _ _ _ h => h) (Or.inl ⟨by rfl, ?hy13⟩) hS ?re13
            case hy13 => (intro w hSw; (try dsimp only at hSw); go_simp; (try with_reducible rfl))
            simp only [Act.put, List.setIfInBounds_toArray, List.set_cons_zero, List.set_cons_succ]
            refine' wpAnyD_take (i := 19) (v := _) rfl (by kernel_rfl) (by kernel_rfl) (by kernel_rfl) (by kernel_rfl) (fun _ _ _ h => h) (Or.inl ⟨by rfl, ?hy14⟩) hS ?re14
            case hy14 => (intro w hSw; (try dsimp only at hSw); go_simp; (try with_reducible rfl))
            simp only [Act.put, List.setIfInBounds_toArray, List.set_cons_zero, List.set_cons_succ]
            refine wpAnyD_only (i := 20) rfl (by kernel_rfl) (by rfl) (fun K hK => ?_)
            go_simp
            refine (rint2 1 (by decide) _ rfl w11 R D _ hX11.rd).mono ?_
            rintro e w12 ⟨y3, s12, hy3, hs12, rfl, rd12, he12⟩
            obtain rfl : y3 = 9 := hy3.out.trans (by decide)
            rw [hs12.out, show rDrop 1 (([9] : List Nat), false) = ([], false) from rfl] at rd12
            have hX12 := hX11.step rd12 he12
            clear hX11 rd12 he12 hy3 hs12
            try dsimp only
            have hSn := (⟨hX12.g.rh, hX12.g.rn⟩ : (fun w' : World => Row w' w.heap.size (bytesL t) 40 ∧ Row w' Nb #[.int .u64 (y1 : Nat), .int .u64 (l.length : Nat)] 26) w12)
            refine hK.out _ _ (fun _ => hSn) ?_
            clear hK K hS
            have hS := hSn
            clear hSn
            try simp only [Act.put, List.setIfInBounds_toArray, List.set_cons_zero, List.set_cons_succ]
            refine' wpAnyD_take (i := 21) (v := _) rfl (by kernel_rfl) (by kernel_rfl) (by kernel_rfl) (by kernel_rfl) (fun _ _ _ h => h) (Or.inl ⟨by rfl, ?hy15⟩) hS ?re15
            case hy15 => (intro w hSw; (try dsimp only at hSw); go_simp; (try with_reducible rfl))
            simp only [Act.put, List.setIfInBounds_toArray, List.set_cons_zero, List.set_cons_succ]
            refine' wpAnyD_take (i := 22) (v := _) rfl (by kernel_rfl) (by kernel_rfl) (by kernel_rfl) (by kernel_rfl) (fun _ _ _ h => h) (Or.inl ⟨by rfl, ?hy16⟩) hS ?re16
            case hy16 => (intro w hSw; (try dsimp only at hSw); go_simp; (try with_reducible rfl))
            simp only [Act.put, List.setIfInBounds_toArray, List.set_cons_zero, List.set_cons_succ]
            refine' wpAnyD_take (i := 23) (v := _) rfl (by kernel_rfl) (by kernel_rfl) (by kernel_rfl) (by kernel_rfl) (fun _ _ _ h => h) (Or.inl ⟨by rfl, ?hy17⟩) hS ?re17
            case hy17 => (intro w hSw; (try dsimp only at hSw); go_simp; (try with_reducible rfl))
            simp only [Act.put, List.setIfInBounds_toArray, List.set_cons_zero, List.set_cons_succ]
            refine' wpAnyD_take (i := 24) (v := _) rfl (by kernel_rfl) (by kernel_rfl) (by kernel_rfl) (by kernel_rfl) (fun _ _ _ h => h) (Or.inl ⟨by rfl, ?hy18⟩) hS ?re18
            case hy18 => (intro w hSw; (try dsimp only at hSw); go_simp; (try with_reducible rfl))
            simp only [Act.put, List.setIfInBounds_toArray, List.set_cons_zero, List.set_cons_succ]
            refine wpAnyD_only (i := 25) rfl (by kernel_rfl) (by rfl) (fun K hK => ?_)
            go_simp
            refine (done_any w12 R D _ hX12.rd).mono ?_
            rintro e w' ⟨rfl, hw'⟩
            obtain rfl := hw'.symm
            rw [show (!(([] : List Nat), false).2 && (([] : List Nat), false).1.length == 0) = true from rfl]
            try dsimp only
            have hSn := hS
            refine hK.out _ _ (fun _ => hSn) ?_
            clear hK K hS
            have hS := hSn
            clear hSn
            try simp only [Act.put, List.setIfInBounds_toArray, List.set_cons_zero, List.set_cons_succ]
            refine' wpAnyD_take (i := 26) (v := _) rfl (by kernel_rfl) (by kernel_rfl) (by kernel_rfl) (by kernel_rfl) (fun _ _ _ h => h) (Or.inl ⟨by rfl, ?hy19⟩) hS ?re19
            case hy19 => (intro w hSw; (try dsimp only at hSw); go_simp; (try with_reducible rfl))
            simp only [Act.put, List.setIfInBounds_toArray, List.set_cons_zero, List.set_cons_succ]
            refine' wpAnyD_take (i := 27) (v := _) rfl (by kernel_rfl) (by kernel_rfl) (by kernel_rfl) (by kernel_rfl) (fun _ _ _ h => h) (Or.inl ⟨by rfl, ?hy20⟩) hS ?re20
            case hy20 => (intro w hSw; (try dsimp only at hSw); go_simp; (try with_reducible rfl))
            simp only [Act.put, List.setIfInBounds_toArray, List.set_cons_zero, List.set_cons_succ]
            refine wpAnyD_done (by kernel_rfl) ?_ _
            clear hS
            go_wp2_with (go_at_call 29; refine stop ?_)
            refine (rint2 2 (by decide) _ rfl w12 R D _ hX12.rd).mono ?_
            rintro e w13 ⟨y4, s13, hy4, hs13, rfl, rd13, he13⟩
            obtain rfl : y4 = 0 := hy4.out.trans (by decide)
            rw [hs13.out, show rDrop 2 (([] : List Nat), false) = ([], true) from rfl] at rd13
            have hX13 := hX12.step rd13 he13
            clear hX12 rd13 he13 hy4 hs13
            go_wp2_with (go_at_call 23; refine stop ?_)
            refine (bad_any w13 R D _ hX13.rd).mono ?_
            rintro e w' ⟨rfl, hw'⟩
            obtain rfl := hw'.symm
            clear hw'
            go_wp2_with (go_at_call 21; refine stop ?_)
            refine (done_any w13 R D _ hX13.rd).mono ?_
            rintro e w' ⟨rfl, hw'⟩
            obtain rfl := hw'.symm
            clear hw'
            rw [show (!(([] : List Nat), true).2 && (([] : List Nat), true).1.length == 0) = false from rfl]
            obtain ⟨m, hm, hmn⟩ := cut_mod x nb (by omega) (by omega)
            have hcap := own_cap hX13.own
            have m0 : (0 : Int) ≤ (m : Int) := by omega
            have m1 : m ≤ cb := by omega
            have hnbL : nb = LL.length := HNB.out
            have hbv := bytes_take (hX13.own.bytes hL8 (by unfold maxLen; omega)) hnbL m (by omega) cb
            have hB13 := hX13.g.below
            have HN2 : Hid (nb = LL.length) := hnbL
            clear hnbL hX13 hHs hih hin
            go_wp2_with (go_at_call 19; refine stop ?_)
            refine (new_any _ _ w13 hbv (by rw [List.length_take]; omega)).mono ?_
            rintro e w14 ⟨R2, D2, rfl, hR2, hD2, rd14, hb14⟩
            have hB14 := chain hB13 hb14
            have hR2' : w.heap.size ≤ R2 := Nat.le_trans hB13.size hR2
            clear hbv hB13 hb14 hR2 hD2
            go_wp2
            go_loopw [137] (fun i wz => ∃ j : Nat, j ≤ nb + 3 ∧ i = .int .i64 j ∧ RdAt wz R2 D2 (itS (rDrop 1) j (LL.take m, false)) ∧ Below w.heap.size w wz) (fun i _ => nb + 3 - (intOf i).toNat)
            case atStart => exact ⟨0, Nat.zero_le _, rfl, rd14, hB14⟩
            case round =>
              clear rd14 hB14
              obtain ⟨j, hj, rfl, rdz, hBz⟩ := hrel
              by_cases hjl : j < nb + 3
              · have hjl' : (j : Int) < (nb : Int) + 3 := by omega
                go_wp2_with (go_at_call 29; refine stop ?_)
                refine (rint2 1 (by decide) _ rfl _ R2 D2 _ rdz).mono ?_
                rintro e w15 ⟨y5, s15, hy5, hs15, rfl, rd15, he15⟩
                rw [hs15.out] at rd15
                have rd15' : RdAt w15 R2 D2 (itS (rDrop 1) (j + 1) (LL.take m, false)) := rd15
                have hB15 : Below w.heap.size w w15 := hBz.trans (he15.below hBz.size hR2')
                clear rdz hBz rd15 he15 hy5 hs15
                go_wp2
                go_roundw
                case rel => exact ⟨j + 1, by omega, by go_num, rd15', hB15⟩
                case measure => simp [intOf]; omega
              · obtain rfl : j = nb + 3 := by omega
                have hnj : ¬ ((nb + 3 : Nat) : Int) < (nb : Int) + 3 := by omega
                have hbad := bad_past (LL.take m) (nb + 3) (by rw [List.length_take]; omega)
                generalize itS (rDrop 1) (nb + 3) (LL.take m, false) = sb at *
                go_wp2_with (go_at_call 23; refine stop ?_)
                refine (bad_any _ R2 D2 _ rdz).mono ?_
                rintro e w' ⟨rfl, hw'⟩
                obtain rfl := hw'.symm
                clear hw'
                rw [hbad]
                go_wp2_with (go_at_call 31; refine stop ?_)
                refine (rnum2 _ R2 D2 _ rdz).mono ?_
                rintro e w16 ⟨y6, y7, s16, hy6, hy7, hs16, rfl, rd16, he16⟩
                obtain rfl : y6 = 0 := hy6.out.trans (rHi_bad hbad)
                obtain rfl : y7 = 0 := hy7.out.trans (rLo_bad hbad)
                have hs16b : s16.2 = true := by rw [hs16.out, rDrop_bad hbad]
                have hB16 : Below w.heap.size w w16 := hBz.trans (he16.below hBz.size hR2')
                clear rdz hBz he16 hy6 hy7 hs16
                go_wp2_with (go_at_call 30; refine stop ?_)
                refine (rhash_any w16 R2 D2 _ rd16).mono ?_
                rintro e w17 ⟨rfl, rd17, he17⟩
                rw [rH_bad hs16b]
                have hB17 : Below w.heap.size w w17 := hB16.trans (he17.below hB16.size hR2')
                have hzz := hash_zero_eq (bytesL (List.replicate 32 0)) rfl w17
                clear rd17 he17 hB16 rd16
                generalize bytesL (List.replicate 32 0) = Z at *
                go_wp2
                go_ret
                exact ⟨rfl, hB17⟩
end Go.Proofs.Ytekpkbmelhgneaa
