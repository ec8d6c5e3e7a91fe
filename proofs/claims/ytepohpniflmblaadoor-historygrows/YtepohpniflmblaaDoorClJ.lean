
/-
  Grown's contract where the trees are of one size (not none), and where the elder is the greater.
-/
import Derived.Test.YtepohpniflmblaaDoorClI
namespace Go.Proofs.YtepohpniflmblaaDoor
open Go.RowKit
set_option maxRecDepth 100000
set_option linter.unusedVariables false
set_option linter.unusedSimpArgs false

set_option maxHeartbeats 4000000 in
theorem grown_less (m n : Nat) (old young : List Nat) (v : Value) (P : List (List Nat)) (tv : Value) (w : World) (hmn : n < m) (h64 : m ≤ 64) (ho : H32 old) (hy : H32 young) (hv : HsAt w v P) :
    Calls Tryd.prog 23 #[tv, .int .i64 (m : Nat), .int .i64 (n : Nat), .agg (bytesL old), .agg (bytesL young), v] w fun e w' => e = .returned (.bool false) ∧ Below w.heap.size w w' := by
  obtain ⟨pp, cp, rfl, hc1, hc2⟩ := hv.form
  have i1 : (n : Int) < (m : Int) := by omega
  have i0 : (0 : Int) < (m : Int) := by omega
  have i2 : (m : Int) ≤ 64 := by omega
  have q2 : decide ((m : Int) < 0) = false := by simp
  have b2 := below2 w (.cells (bytesL old) 28) (.cells (bytesL young) 28)
  have hsO : (bytesL old).size = 32 := by rw [bytesL_size, ho.1]
  have hsY : (bytesL young).size = 32 := by rw [bytesL_size, hy.1]
  clear hv ho hy hc1 hc2
  generalize bytesL old = cO at *
  generalize bytesL young = cY at *
  go_enter Tryd.func23, Tryd.ntmps23
  go_wp2
  go_ret
  exact ⟨by rfl, b2⟩
set_option maxHeartbeats 4000000 in
theorem grown_same (m : Nat) (old young : List Nat) (v : Value) (P : List (List Nat)) (tv : Value) (w : World) (hm : 0 < m) (h64 : m ≤ 64) (ho : H32 old) (hy : H32 young) (hv : HsAt w v P) :
    Calls Tryd.prog 23 #[tv, .int .i64 (m : Nat), .int .i64 (m : Nat), .agg (bytesL old), .agg (bytesL young), v] w fun e w' => e = .returned (.bool (decide (P.length = 0) && decide (old = young))) ∧ Below w.heap.size w w' := by
  obtain ⟨pp, cp, rfl, hc1, hc2⟩ := hv.form
  have i0 : (0 : Int) < (m : Int) := by omega
  have i2 : (m : Int) ≤ 64 := by omega
  have q0 : ((m : Int) == 0) = false := by simp; omega
  have q2 : decide ((m : Int) < 0) = false := by simp
  have HO : Hid (H32 old) := ho
  have HY : Hid (H32 young) := hy
  have HP := fun w1 => plain_any m m old young tv w1 hm (Nat.le_refl _) h64 ho hy
  rw [decide_eq_false (Nat.lt_irrefl m), Bool.false_or] at HP
  have HPL : Hid (∀ w1, Calls Tryd.prog 31 #[tv, .int .i64 (m : Nat), .int .i64 (m : Nat), .agg (bytesL old), .agg (bytesL young)] w1 fun e w' => e = .returned (.bool (decide (old = young))) ∧ Below w1.heap.size w1 w') := HP
  clear HP
  have r9 := Row.new w (bytesL old) 28 rfl
  have r10 := Row.new (w.alloc (.cells (bytesL old) 28)) (bytesL young) 28 rfl
  have r9 := r9.alloc (.cells (bytesL young) 28)
  have s1 : (w.alloc (.cells (bytesL old) 28)).heap.size = w.heap.size + 1 := by simp
  rw [s1] at r10
  have b2 := below2 w (.cells (bytesL old) 28) (.cells (bytesL young) 28)
  have hsO : (bytesL old).size = 32 := by rw [bytesL_size, ho.1]
  have hsY : (bytesL young).size = 32 := by rw [bytesL_size, hy.1]
  have iO := info_h32 ho
  have iY := info_h32 hy
  obtain ⟨q, hq⟩ : ∃ q, decide (old = young) = q := ⟨_, rfl⟩
  rw [hq] at HPL ⊢
  have p0 : (0 : Int) ≤ (P.length : Int) := by omega
  unfold maxLen at hc2
  have p1 : (P.length : Int) ≤ 9223372036854775807 := by omega
  obtain ⟨k, hk⟩ : ∃ k, P.length = k := ⟨_, rfl⟩
  rw [hk] at p0 p1 ⊢
  clear hv ho hy hc1 hc2 s1 hq hk
  generalize bytesL old = cO at *
  generalize bytesL young = cY at *
  by_cases hl : k = 0
  · subst hl
    go_enter Tryd.func23, Tryd.ntmps23
    go_wp2_with (first | (go_at_call 31; refine stop ?_) | refine wpList_wG (by rfl) (wp_load_row 28 _ rfl w.heap.size rfl 28 cO (0, 0) _ r9 Tryd.underlying28 rfl iO ?_) | refine wpList_wG (by rfl) (wp_load_row 28 _ rfl (w.heap.size + 1) rfl 28 cY (0, 0) _ r10 Tryd.underlying28 rfl iY ?_))
    refine (HPL.out _).mono ?_
    rintro e w2 ⟨rfl, hb⟩
    have b3 := chain b2 hb
    clear hb b2 r9 r10
    go_wp2
    go_ret
    exact ⟨by rfl, b3⟩
  · have hz : ((k : Int) == 0) = false := by simp; omega
    have k0 : (0 : Int) < (k : Int) := by omega
    go_enter Tryd.func23, Tryd.ntmps23
    go_wp2
    go_ret
    exact ⟨by rw [decide_eq_false hl]; rfl, b2⟩
end Go.Proofs.YtepohpniflmblaaDoor
