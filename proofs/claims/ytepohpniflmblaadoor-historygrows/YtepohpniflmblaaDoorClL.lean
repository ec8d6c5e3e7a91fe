
/-
  Grown's contract for none: m = 0, with a tape or none.
-/
import Derived.Test.YtepohpniflmblaaDoorClK
namespace Go.Proofs.YtepohpniflmblaaDoor
open Go.RowKit
set_option maxRecDepth 100000
set_option linter.unusedVariables false
set_option linter.unusedSimpArgs false

set_option maxHeartbeats 4000000 in
theorem grown_none (n : Nat) (old young : List Nat) (v : Value) (P : List (List Nat)) (base : Nat) (tv : Value) (N : List (List Nat)) (w : World) (h64 : n ≤ 64) (ho : H32 old) (hy : H32 young) (hv : HsAt w v P) (ht : Tab w) (h0 : 0 < base) (hbw : base ≤ w.heap.size) (htp : TpAt w base tv N) (hN : N.length ≤ 1000) :
    Calls Tryd.prog 23 #[tv, .int .i64 0, .int .i64 (n : Nat), .agg (bytesL old), .agg (bytesL young), v] w fun e w' => e = .returned (.bool (decide (P.length = 0) && (decide (old = rootL []) && (decide (0 < n) || decide (old = young))))) ∧ TpAt w' base tv (N ++ if P.length = 0 then rootN [] else []) ∧ TStep base w w' := by
  obtain ⟨pt, rfl⟩ := htp.form
  obtain ⟨pp, cp, rfl, hc1, hc2⟩ := hv.form
  have i0 : (0 : Int) ≤ (n : Int) := by omega
  have i2 : (n : Int) ≤ 64 := by omega
  have HTP : Hid (TpAt w base (.pointer pt) N) := htp
  have HT : Hid (Tab w) := ht
  have HBW : Hid (base ≤ w.heap.size) := hbw
  have HPL : Hid (∀ w1, Below w.heap.size w w1 → Calls Tryd.prog 31 #[.pointer pt, .int .i64 0, .int .i64 (n : Nat), .agg (bytesL old), .agg (bytesL young)] w1 fun e w' => e = .returned (.bool (decide (old = rootL []) && (decide (0 < n) || decide (old = young)))) ∧ TpAt w' base (.pointer pt) (N ++ rootN []) ∧ TStep base w1 w') := fun w1 hb => plain_none n old young base _ N w1 h64 ho hy (ht.later hb) h0 (Nat.le_trans hbw hb.size) (htp.later hb) hN
  have r9 := Row.new w (bytesL old) 28 rfl
  have r10 := Row.new (w.alloc (.cells (bytesL old) 28)) (bytesL young) 28 rfl
  have r9 := r9.alloc (.cells (bytesL young) 28)
  have s1 : (w.alloc (.cells (bytesL old) 28)).heap.size = w.heap.size + 1 := by simp
  rw [s1] at r10
  have b2 := below2 w (.cells (bytesL old) 28) (.cells (bytesL young) 28)
  have hsO : (bytesL old).size = 32 := by rw [bytesL_size, ho.1]
  have hsY : (bytesL young).size = 32 := by rw [bytesL_size, hy.1]
  have iO := info_h32 ho
  have iY := info_h32 hy
  obtain ⟨q, hq⟩ : ∃ q, (decide (old = rootL []) && (decide (0 < n) || decide (old = young))) = q := ⟨_, rfl⟩
  rw [hq] at HPL ⊢
  obtain ⟨RN, hRN⟩ : ∃ x, rootN [] = x := ⟨_, rfl⟩
  rw [hRN] at HPL ⊢
  have p0 : (0 : Int) ≤ (P.length : Int) := by omega
  unfold maxLen at hc2
  have p1 : (P.length : Int) ≤ 9223372036854775807 := by omega
  obtain ⟨k, hk⟩ : ∃ k, P.length = k := ⟨_, rfl⟩
  rw [hk] at p0 p1 ⊢
  clear hv ho hy hc1 hc2 s1 hq hk ht htp hbw hRN
  generalize bytesL old = cO at *
  generalize bytesL young = cY at *
  by_cases hl : k = 0
  · subst hl
    go_enter Tryd.func23, Tryd.ntmps23
    go_wp2_with (first | (go_at_call 31; refine stop ?_) | refine wpList_wG (by rfl) (wp_load_row 28 _ rfl w.heap.size rfl 28 cO (0, 0) _ r9 Tryd.underlying28 rfl iO ?_) | refine wpList_wG (by rfl) (wp_load_row 28 _ rfl (w.heap.size + 1) rfl 28 cY (0, 0) _ r10 Tryd.underlying28 rfl iY ?_))
    refine (HPL.out _ b2).mono ?_
    rintro e w2 ⟨rfl, htp5, hs5⟩
    have hfin : TStep base w w2 := (TStep.of b2).trans hs5
    clear hs5 b2 r9 r10
    go_wp2
    go_ret
    exact ⟨by rfl, htp5, hfin⟩
  · have hz : ((k : Int) == 0) = false := by simp; omega
    have k0 : (0 : Int) < (k : Int) := by omega
    go_enter Tryd.func23, Tryd.ntmps23
    go_wp2
    go_ret
    exact ⟨by rfl, HTP.out.later b2, .of b2⟩
end Go.Proofs.YtepohpniflmblaaDoor
