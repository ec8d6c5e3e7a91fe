/-
  The reference's above: is the square or the cube above a number?
-/
import Derived.Test.YtbbpihdebdknhaaDoorRfW
namespace Go.Proofs.YtbbpihdebdknhaaDoor
open Go.RowKit

/-- What is left of the comparison. -/
structure AbR (w wr : World) (b : Nat) (l : List Nat) : Prop where
  lr : Row wr b (wordsL l) 63
  bel : Below w.heap.size w wr
theorem ret_bool {a b : Bool} (h : a = b) : Ending.returned (.bool a) = .returned (.bool b) := by rw [h]
set_option maxHeartbeats 1000000 in
set_option maxRecDepth 100000 in
theorem above_any (y p : Nat) (cube : Bool) (w : World) (hy : y < 18446744073709551616) (hp : p < 18446744073709551616) :
    Calls Tryd.prog 24 #[.int .u64 y, .int .u64 p, .bool cube] w fun e w' => e = .returned (.bool (aboveF y p cube)) ∧ Below w.heap.size w w' := by
  have y0 : (0 : Int) ≤ (y : Int) := by omega
  have y1 : (y : Int) < 18446744073709551616 := by omega
  have p0 : (0 : Int) ≤ (p : Int) := by omega
  have p1 : (p : Int) < 18446744073709551616 := by omega
  have hm := fun w => mul_any [y % 4294967296, y / 4294967296 % 4294967296, 0, 0] y w rfl (sq_ok y) hy
  have ew : wordsL [y % 4294967296, y / 4294967296 % 4294967296, 0, 0] = #[.int .u32 ((y : Int) % 4294967296), .int .u32 ((y : Int) / 4294967296), .int .u32 0, .int .u32 0] := by
    have e : y / 4294967296 % 4294967296 = y / 4294967296 := by omega
    rw [e]
    simp [wordsL]
  rw [ew] at hm
  have hsl : (sqF y).length = 4 := mulF_len _ _
  have hso : W32 (sqF y) := mulF_ok (sq_ok y)
  have hsz : (Tryd.prog.info? 63).map (·.size) = some (wordsL (sqF y)).size := by rw [wordsL_size, hsl]; exact info4
  cases cube with
  | false =>
    have HG : Hid (aboveF y p false = cmpF (sqF y) 2 p 4) := show _ = _ from rfl
    go_enter Tryd.func24, Tryd.ntmps24
    go_wp2_with (go_at_call 26; refine stop ?_)
    refine (hm _).mono ?_
    rintro e w1 ⟨rfl, hb1⟩
    rw [show mulF [y % 4294967296, y / 4294967296 % 4294967296, 0, 0] y = sqF y from rfl]
    clear hm ew
    generalize sqF y = l at *
    go_wp2_with (refine wpList_store_row rfl 63 _ _ rfl w1.heap.size (wordsL l) rfl rfl 63 _ (heap_alloc_new w1 _) hsz (by rw [wordsL_size, hsl]; rfl) (wordsL_one _) ?_; refine stop ?_)
    unfold Stop
    rw [zeros4]
    have hlr := Row.setRow (Row.new w1 (wordsL [0, 0, 0, 0]) 63 rfl) (wordsL l)
    have hbel := Below.row (chainA hb1 (.cells (wordsL [0, 0, 0, 0]) 63)) (g := w1.heap.size) (wordsL l) hb1.size
    generalize (w1.alloc (.cells (wordsL [0, 0, 0, 0]) 63)).setRow w1.heap.size (wordsL l) = w2 at *
    have hlo := hso
    clear hb1 hsz hso
    go_wp2
    go_loop [9, 10] (fun i _ => ∃ k : Nat, k ≤ 4 ∧ i = .int .i64 ((k : Int) - 1) ∧ cmpF l 2 p k = cmpF l 2 p 4) (fun i _ => (intOf i + 1).toNat)
    case atStart => exact ⟨4, by omega, rfl, rfl⟩
    case round =>
      obtain ⟨k, hk, rfl, hcmp⟩ := hrel
      cases k with
      | zero =>
        have HC : Hid (cmpF l 2 p 4 = false) := hcmp.symm
        clear hcmp
        go_wp2
        go_ret
        refine ⟨?_, hbel⟩
        rw [HG.out, HC.out]
        rfl
      | succ k =>
        rw [show ((k + 1 : Nat) : Int) - 1 = (k : Int) from by omega]
        have c0 := (hlr.cell k).trans (wordsL_at _ k (by omega))
        have b0 := hlo.at k
        have k0 : (0 : Int) ≤ (k : Int) := by omega
        have k4 : (k : Int) < 4 := by omega
        have HC : Hid (cmpF l 2 p 4 = if l.getD k 0 = (if k = 2 then p % 4294967296 else 0) then cmpF l 2 p k else decide ((if k = 2 then p % 4294967296 else 0) < l.getD k 0)) := show _ = _ from hcmp.symm.trans rfl
        clear hcmp
        generalize l.getD k 0 = lk at *
        have hC := HC.out
        clear HC
        by_cases hat : k = 2
        · rw [if_pos hat] at hC
          by_cases heq : lk = p % 4294967296
          · rw [if_pos heq] at hC
            have HC : Hid (cmpF l 2 p k = cmpF l 2 p 4) := hC.symm
            clear hC
            subst hat
            have heq' : (lk : Int) = (p : Int) % 4294967296 := by omega
            clear heq
            go_wp2
            go_round
            case rel => exact ⟨2, by omega, by go_num, HC.out⟩
            case measure => simp [intOf]
          · rw [if_neg heq] at hC
            have HC : Hid (cmpF l 2 p 4 = decide ((p : Int) % 4294967296 < (lk : Int))) := show _ = _ from hC.trans (by simp; omega)
            have hne : ((lk : Int) != (p : Int) % 4294967296) = true := by simp only [bne_iff_ne, ne_eq]; omega
            clear hC heq
            subst hat
            go_wp2
            go_ret
            refine ⟨?_, hbel⟩
            rw [HG.out, HC.out]
            rfl
        · rw [if_neg hat] at hC
          have hat' : ((k : Int) == 2) = false := by simp only [beq_eq_false_iff_ne, ne_eq]; omega
          clear hat
          by_cases heq : lk = 0
          · rw [if_pos heq] at hC
            have HC : Hid (cmpF l 2 p k = cmpF l 2 p 4) := hC.symm
            clear hC
            subst heq
            go_wp2
            go_round
            case rel => exact ⟨k, by omega, by go_num, HC.out⟩
            case measure => simp [intOf]
          · rw [if_neg heq] at hC
            have HC : Hid (cmpF l 2 p 4 = decide ((0 : Int) < (lk : Int))) := show _ = _ from hC.trans (by simp)
            have hne : ((lk : Int) != 0) = true := by simp only [bne_iff_ne, ne_eq]; omega
            clear hC heq
            go_wp2
            go_ret
            refine ⟨?_, hbel⟩
            rw [HG.out, HC.out]
            first | rfl | (exact ret_bool (by simp))
  | true =>
    have HG : Hid (aboveF y p true = cmpF (mulF (sqF y) y) 3 p 4) := show _ = _ from rfl
    have hcl : (mulF (sqF y) y).length = 4 := mulF_len _ _
    have hco : W32 (mulF (sqF y) y) := mulF_ok hso
    have hcz : (Tryd.prog.info? 63).map (·.size) = some (wordsL (mulF (sqF y) y)).size := by rw [wordsL_size, hcl]; exact info4
    have hm2 := fun w => mul_any (sqF y) y w hsl hso hy
    go_enter Tryd.func24, Tryd.ntmps24
    go_wp2_with (go_at_call 26; refine stop ?_)
    refine (hm _).mono ?_
    rintro e w1 ⟨rfl, hb1⟩
    rw [show mulF [y % 4294967296, y / 4294967296 % 4294967296, 0, 0] y = sqF y from rfl]
    clear hm ew
    generalize mulF (sqF y) y = l at *
    generalize sqF y = l0 at *
    go_wp2_with (refine wpList_store_row rfl 63 _ _ rfl w1.heap.size (wordsL l0) rfl rfl 63 _ (heap_alloc_new w1 _) hsz (by rw [wordsL_size, hsl]; rfl) (wordsL_one _) ?_; refine stop ?_)
    unfold Stop
    rw [zeros4]
    have hlr0 := Row.setRow (Row.new w1 (wordsL [0, 0, 0, 0]) 63 rfl) (wordsL l0)
    have hbel0 := Below.row (chainA hb1 (.cells (wordsL [0, 0, 0, 0]) 63)) (g := w1.heap.size) (wordsL l0) hb1.size
    have hw1 := hb1.size
    generalize (w1.alloc (.cells (wordsL [0, 0, 0, 0]) 63)).setRow w1.heap.size (wordsL l0) = w3 at *
    clear hb1
    go_wp2_with (first | refine wpList_load_row rfl 63 _ rfl w1.heap.size rfl 63 (wordsL l0) (0, 0) _ hlr0 Tryd.underlying63 rfl hsz ?_ | (go_at_call 26; refine stop ?_))
    refine (hm2 _).mono ?_
    rintro e w4 ⟨rfl, hb4⟩
    have hlr4 := hlr0.later hb4
    have hbel4 := chain hbel0 hb4
    clear hb4 hlr0 hbel0 hm2
    go_wp2_with (refine wpList_store_row rfl 63 _ _ rfl w1.heap.size (wordsL l) rfl rfl 63 _ hlr4 hcz (by rw [wordsL_size, wordsL_size, hcl, hsl]) (wordsL_one _) ?_; refine stop ?_)
    unfold Stop
    have hlr := hlr4.setRow (wordsL l)
    have hbel := Below.row hbel4 (g := w1.heap.size) (wordsL l) hw1
    generalize w4.setRow w1.heap.size (wordsL l) = w2 at *
    have hlo := hco
    clear hlr4 hbel4 hsz hso hcz hco hsl
    have hsl := hcl
    clear hcl
    go_wp2
    go_loop [9, 10] (fun i _ => ∃ k : Nat, k ≤ 4 ∧ i = .int .i64 ((k : Int) - 1) ∧ cmpF l 3 p k = cmpF l 3 p 4) (fun i _ => (intOf i + 1).toNat)
    case atStart => exact ⟨4, by omega, rfl, rfl⟩
    case round =>
      obtain ⟨k, hk, rfl, hcmp⟩ := hrel
      cases k with
      | zero =>
        have HC : Hid (cmpF l 3 p 4 = false) := hcmp.symm
        clear hcmp
        go_wp2
        go_ret
        refine ⟨?_, hbel⟩
        rw [HG.out, HC.out]
        rfl
      | succ k =>
        rw [show ((k + 1 : Nat) : Int) - 1 = (k : Int) from by omega]
        have c0 := (hlr.cell k).trans (wordsL_at _ k (by omega))
        have b0 := hlo.at k
        have k0 : (0 : Int) ≤ (k : Int) := by omega
        have k4 : (k : Int) < 4 := by omega
        have HC : Hid (cmpF l 3 p 4 = if l.getD k 0 = (if k = 3 then p % 4294967296 else 0) then cmpF l 3 p k else decide ((if k = 3 then p % 4294967296 else 0) < l.getD k 0)) := show _ = _ from hcmp.symm.trans rfl
        clear hcmp
        generalize l.getD k 0 = lk at *
        have hC := HC.out
        clear HC
        by_cases hat : k = 3
        · rw [if_pos hat] at hC
          by_cases heq : lk = p % 4294967296
          · rw [if_pos heq] at hC
            have HC : Hid (cmpF l 3 p k = cmpF l 3 p 4) := hC.symm
            clear hC
            subst hat
            have heq' : (lk : Int) = (p : Int) % 4294967296 := by omega
            clear heq
            go_wp2
            go_round
            case rel => exact ⟨3, by omega, by go_num, HC.out⟩
            case measure => simp [intOf]
          · rw [if_neg heq] at hC
            have HC : Hid (cmpF l 3 p 4 = decide ((p : Int) % 4294967296 < (lk : Int))) := show _ = _ from hC.trans (by simp; omega)
            have hne : ((lk : Int) != (p : Int) % 4294967296) = true := by simp only [bne_iff_ne, ne_eq]; omega
            clear hC heq
            subst hat
            go_wp2
            go_ret
            refine ⟨?_, hbel⟩
            rw [HG.out, HC.out]
            rfl
        · rw [if_neg hat] at hC
          have hat' : ((k : Int) == 3) = false := by simp only [beq_eq_false_iff_ne, ne_eq]; omega
          clear hat
          by_cases heq : lk = 0
          · rw [if_pos heq] at hC
            have HC : Hid (cmpF l 3 p k = cmpF l 3 p 4) := hC.symm
            clear hC
            subst heq
            go_wp2
            go_round
            case rel => exact ⟨k, by omega, by go_num, HC.out⟩
            case measure => simp [intOf]
          · rw [if_neg heq] at hC
            have HC : Hid (cmpF l 3 p 4 = decide ((0 : Int) < (lk : Int))) := show _ = _ from hC.trans (by simp)
            have hne : ((lk : Int) != 0) = true := by simp only [bne_iff_ne, ne_eq]; omega
            clear hC heq
            go_wp2
            go_ret
            refine ⟨?_, hbel⟩
            rw [HG.out, HC.out]
            first | rfl | (exact ret_bool (by simp))
end Go.Proofs.YtbbpihdebdknhaaDoor
