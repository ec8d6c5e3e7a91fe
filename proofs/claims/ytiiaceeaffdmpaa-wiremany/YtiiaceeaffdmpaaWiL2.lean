
/-
  The walk of WireMany.
-/
import Derived.Test.YtiiaceeaffdmpaaWiL1
import Derived.Test.YtiiaceeaffdmpaaWiZ
namespace Go.Proofs.Ytiiaceeaffdmpaa
open Go.RowKit
set_option maxRecDepth 100000

theorem and31 (n : Int) : ∃ k : Nat, k ≤ 31 ∧ bits .and .i64 n 31 = (k : Int) := by
  refine ⟨(BitVec.ofInt 64 n).toNat % 32, by omega, ?_⟩
  have h : (BitVec.ofInt 64 n &&& BitVec.ofInt 64 31).toNat = (BitVec.ofInt 64 n).toNat % 32 := by
    rw [BitVec.toNat_and, show (BitVec.ofInt 64 31).toNat = 2 ^ 5 - 1 from rfl]
    exact Nat.and_two_pow_sub_one_eq_mod _ 5
  show IntKind.i64.wrap ((BitVec.ofInt 64 n &&& BitVec.ofInt 64 31).toNat : Int) = _
  rw [h, IntKind.wrap_i64]
  omega

theorem rDrop_take {n : Nat} (l m : List Nat) (h : l.length = n) : rDrop n (l ++ m, false) = (m, false) := by
  rw [rDrop_yes rfl (by simp; omega), ← h]
  simp
theorem d16 (m : List Nat) : rDrop 16 (List.replicate 16 0 ++ m, false) = (m, false) := rDrop_take _ _ rfl
theorem d4 (m : List Nat) : rDrop 4 (List.replicate 4 0 ++ m, false) = (m, false) := rDrop_take _ _ rfl
theorem d2 (m : List Nat) : rDrop 2 (List.replicate 2 0 ++ m, false) = (m, false) := rDrop_take _ _ rfl
theorem itS_zeros (f : List Nat × Bool → List Nat × Bool) (z : Nat) (hf : ∀ m, f (List.replicate z 0 ++ m, false) = (m, false)) : ∀ n m, itS f n (List.replicate (n * z) 0 ++ m, false) = (m, false)
  | 0, m => by simp [itS]
  | n + 1, m => by
    rw [itS, show (n + 1) * z = n * z + z from by rw [Nat.add_mul, Nat.one_mul], ← List.replicate_append_replicate, List.append_assoc, itS_zeros f z hf n, hf]
theorem rAcS_zeros (m : List Nat) : rAcS (List.replicate 22 0 ++ m, false) = (m, false) := by
  unfold rAcS
  rw [show List.replicate 22 0 = List.replicate 16 0 ++ (List.replicate 4 0 ++ List.replicate 2 0) from rfl, List.append_assoc, List.append_assoc, d16, d4, d2]
theorem rTrS_zeros (m : List Nat) : rTrS (List.replicate 90 0 ++ m, false) = (m, false) := by
  unfold rTrS
  rw [show List.replicate 90 0 = List.replicate 16 0 ++ (List.replicate 16 0 ++ (List.replicate 16 0 ++ (List.replicate 16 0 ++ (List.replicate 16 0 ++ (List.replicate 4 0 ++ (List.replicate 4 0 ++ List.replicate 2 0)))))) from rfl]
  simp only [List.append_assoc]
  rw [d16, d16, d16, d16, d16, d4, d4, d2]
theorem rDrop_cons (k : Nat) (b : List Nat) : rDrop 1 (k :: b, false) = (b, false) := by
  rw [rDrop_yes rfl (by simp)]
  rfl

theorem many_acs (n : Nat) (hn : n ≤ 8) : ∃ L : List Ac, L.length = n ∧ parse ([1, n] ++ List.replicate (n * 22) 0) = (⟨1, L, [], 0, 0, 0, 0, 0⟩, 0) := by
  refine ⟨evs rAc rAcS n (List.replicate (n * 22) 0, false), evs_len _ _ _ _, ?_⟩
  have e : rF ([1, n] ++ List.replicate (n * 22) 0, false) = (⟨1, evs rAc rAcS n (List.replicate (n * 22) 0, false), [], 0, 0, 0, 0, 0⟩, 0, ([], false)) := by
    have hz := itS_zeros rAcS 22 rAcS_zeros n []
    rw [List.append_nil] at hz
    unfold rF
    rw [List.cons_append, List.cons_append, List.nil_append, rTake_cons, rDrop_cons, rTake_cons, rDrop_cons, if_pos rfl, if_neg (by omega), hz]
  unfold parse
  rw [e]
  rfl
theorem many_trs (n : Nat) (hn : n ≤ 8) : ∃ L : List Tr, L.length = n ∧ parse ([2, n] ++ List.replicate (n * 90) 0) = (⟨2, [], L, 0, 0, 0, 0, 0⟩, 0) := by
  refine ⟨evs rTr rTrS n (List.replicate (n * 90) 0, false), evs_len _ _ _ _, ?_⟩
  have e : rF ([2, n] ++ List.replicate (n * 90) 0, false) = (⟨2, [], evs rTr rTrS n (List.replicate (n * 90) 0, false), 0, 0, 0, 0, 0⟩, 0, ([], false)) := by
    have hz := itS_zeros rTrS 90 rTrS_zeros n []
    rw [List.append_nil] at hz
    unfold rF
    rw [List.cons_append, List.cons_append, List.nil_append, rTake_cons, rDrop_cons, rTake_cons, rDrop_cons, if_neg (by omega), if_pos rfl, if_neg (by omega), hz]
  unfold parse
  rw [e]
  rfl
theorem many_long (k n : Nat) (hk : k = 1 ∨ k = 2) (hn : 8 < n) (b : List Nat) : parse ([k, n] ++ b) = (Rq.zero, 2) := by
  have e : (rF ([k, n] ++ b, false)).2.1 = 2 := by
    unfold rF
    rw [List.cons_append, List.cons_append, List.nil_append, rTake_cons, rDrop_cons, rTake_cons]
    rcases hk with rfl | rfl
    · rw [if_pos rfl, if_pos hn]
    · rw [if_neg (by omega), if_pos rfl, if_pos hn]
  unfold parse
  rw [if_neg (by omega), e]

theorem append_zero (w : World) (ty : TypeId) (g n c : Nat) (hn : n ≤ c) : (Builtin.append_ #[32, 3] ty #[.slice (some ⟨g, 0, none⟩) n c, .int .i64 ((0 : Nat) : Int)]).run Try.prog w = .ok (.slice (some ⟨g, 0, none⟩) n c) w := by
  obtain ⟨i, hi, z0, z1, z2⟩ := info_u8'
  simp [Builtin.append_, run_underlying under_bytes, run_underlying under_int, sizeOf, typeInfo, zeroValue, hi, z0, z2, asInt, asIntOf, hn, Addr.add_lit, Value.cells, IntKind.wrap_i64, Builtin.zeroCells, storeCells]
set_option maxHeartbeats 4000000 in
theorem many_walk (x : Int) (b : Bool) (w : World) (_hx : -9223372036854775808 ≤ x ∧ x ≤ 9223372036854775807) :
    Calls Try.prog 9 #[.int .i64 x, .bool b] w fun e w' => e = .returned (.bool true) ∧ Below w.heap.size w w' := by
  obtain ⟨n, hn, hand⟩ := and31 x
  have n0 : (0 : Int) ≤ (n : Int) := by omega
  have n1 : (n : Int) ≤ 31 := by omega
  cases b with
  | false =>
    go_enter Try.func9, Try.ntmps9
    go_wp2_with (go_at_call 11; refine stop ?_)
    refine (fit_any w).mono ?_
    rintro e w0 ⟨rfl, hb0⟩
    have m1 : (n : Int) * 22 ≤ 2790 := by omega
    have r0 := Row.new w0 (bytesL [1, n]) 5 rfl
    have ow : Own (w0.alloc (.cells (bytesL [1, n]) 5)) w0.heap.size (.slice (some ⟨w0.heap.size, 0, none⟩) 2 2) [1, n] := ⟨rfl, Or.inr ⟨w0.heap.size, 2, bytesL [1, n], rfl, Nat.le_refl _, r0, Nat.le_refl _, by decide, rfl, rfl⟩⟩
    have hap : ∃ v1 w1, (Builtin.append_ #[32, 3] 32 #[.slice (some ⟨w0.heap.size, 0, none⟩) 2 2, .int .i64 ((n * 22 : Nat) : Int)]).run Try.prog (w0.alloc (.cells (bytesL [1, n]) 5)) = .ok v1 w1 ∧ Own w1 w0.heap.size v1 ([1, n] ++ List.replicate (n * 22) 0) ∧ (w0.alloc (.cells (bytesL [1, n]) 5)).grownBy w1 (some w0.heap.size) := by
      by_cases hn0 : n = 0
      · subst hn0
        refine ⟨_, _, append_zero _ _ _ _ _ (Nat.le_refl _), by simpa using ow, ⟨rfl, rfl, rfl, Nat.le_refl _, fun _ _ _ => rfl⟩⟩
      · exact append_zeros _ _ _ _ _ ow (n * 22) (by omega) (by simp; omega) (by simp)
    obtain ⟨v1, w1, run1, own1, gr1⟩ := hap
    have hb1 : Below w0.heap.size w0 w1 := below_grown (below1 w0 _) (by simp) gr1 (fun j hj => by simp at hj; omega)
    have hv1 := own1.bytes (l := [1, n] ++ List.replicate (n * 22) 0) (W8.append (fun x hx => by simp at hx; omega) (fun x hx => by simp at hx; omega)) (by simp [maxLen]; omega)
    have hb1' := chain hb0 hb1
    have hmul : Hid ((n : Int) * 22 = ((n * 22 : Nat) : Int)) := by show _ = _; omega
    clear gr1 ow r0 hb1
    go_wp2_with (at_builtin; refine stop ?_)
    rw [show (#[.int .u8 1, .int .u8 (n : Int)] : Array Value) = bytesL [1, n] from rfl]
    rw [hmul.out]
    unfold Stop
    go_wp2_with (first | (at_builtin; refine Lib.wpList_append_run _ rfl _ _ _ _ rfl _ _ rfl rfl _ _ run1 ?_) | (go_at_call 15; refine stop ?_))
    refine (readReq_any v1 _ w1 hv1 (by simp; omega)).mono ?_
    by_cases h8 : 8 < n
    · have h8' : (8 : Int) < (n : Int) := by omega
      rw [many_long 1 n (by decide) h8]
      dsimp only
      rintro e w2 ⟨u, rfl, ⟨va, vt, rfl, ha, ht⟩, hb2⟩
      obtain ⟨pa, na, ca, rfl, hna⟩ := ownsRow_form ha
      obtain ⟨pt, nt, ct, rfl, hnt⟩ := ownsRow_form ht
      have hb3 := chain hb1' hb2
      clear ha ht hv1 own1 run1 hb2 hb1' hna hnt
      unfold rqC
      go_wp2
      go_ret
      exact ⟨rfl, chainA hb3 _⟩
    · have h8' : ¬ (8 : Int) < (n : Int) := by omega
      obtain ⟨L, hL, hp⟩ := many_acs n (by omega)
      rw [hp]
      dsimp only
      rintro e w2 ⟨u, rfl, ⟨va, vt, rfl, ha, ht⟩, hb2⟩
      obtain ⟨pa, na, ca, rfl, hna⟩ := ownsRow_form ha
      obtain ⟨pt, nt, ct, rfl, hnt⟩ := ownsRow_form ht
      have hb3 := chain hb1' hb2
      simp only [List.length_nil, hL] at hna hnt
      subst hna hnt
      clear ha ht hv1 own1 run1 hb2 hb1' hp
      unfold rqC
      go_wp2
      go_ret
      exact ⟨rfl, chainA hb3 _⟩
  | true =>
    go_enter Try.func9, Try.ntmps9
    go_wp2_with (go_at_call 11; refine stop ?_)
    refine (fit_any w).mono ?_
    rintro e w0 ⟨rfl, hb0⟩
    have m1 : (n : Int) * 90 ≤ 2790 := by omega
    have r0 := Row.new w0 (bytesL [2, n]) 5 rfl
    have ow : Own (w0.alloc (.cells (bytesL [2, n]) 5)) w0.heap.size (.slice (some ⟨w0.heap.size, 0, none⟩) 2 2) [2, n] := ⟨rfl, Or.inr ⟨w0.heap.size, 2, bytesL [2, n], rfl, Nat.le_refl _, r0, Nat.le_refl _, by decide, rfl, rfl⟩⟩
    have hap : ∃ v1 w1, (Builtin.append_ #[32, 3] 32 #[.slice (some ⟨w0.heap.size, 0, none⟩) 2 2, .int .i64 ((n * 90 : Nat) : Int)]).run Try.prog (w0.alloc (.cells (bytesL [2, n]) 5)) = .ok v1 w1 ∧ Own w1 w0.heap.size v1 ([2, n] ++ List.replicate (n * 90) 0) ∧ (w0.alloc (.cells (bytesL [2, n]) 5)).grownBy w1 (some w0.heap.size) := by
      by_cases hn0 : n = 0
      · subst hn0
        refine ⟨_, _, append_zero _ _ _ _ _ (Nat.le_refl _), by simpa using ow, ⟨rfl, rfl, rfl, Nat.le_refl _, fun _ _ _ => rfl⟩⟩
      · exact append_zeros _ _ _ _ _ ow (n * 90) (by omega) (by simp; omega) (by simp)
    obtain ⟨v1, w1, run1, own1, gr1⟩ := hap
    have hb1 : Below w0.heap.size w0 w1 := below_grown (below1 w0 _) (by simp) gr1 (fun j hj => by simp at hj; omega)
    have hv1 := own1.bytes (l := [2, n] ++ List.replicate (n * 90) 0) (W8.append (fun x hx => by simp at hx; omega) (fun x hx => by simp at hx; omega)) (by simp [maxLen]; omega)
    have hb1' := chain hb0 hb1
    have hmul : Hid ((n : Int) * 90 = ((n * 90 : Nat) : Int)) := by show _ = _; omega
    clear gr1 ow r0 hb1
    go_wp2_with (at_builtin; refine stop ?_)
    rw [show (#[.int .u8 2, .int .u8 (n : Int)] : Array Value) = bytesL [2, n] from rfl]
    rw [hmul.out]
    unfold Stop
    go_wp2_with (first | (at_builtin; refine Lib.wpList_append_run _ rfl _ _ _ _ rfl _ _ rfl rfl _ _ run1 ?_) | (go_at_call 15; refine stop ?_))
    refine (readReq_any v1 _ w1 hv1 (by simp; omega)).mono ?_
    by_cases h8 : 8 < n
    · have h8' : (8 : Int) < (n : Int) := by omega
      rw [many_long 2 n (by decide) h8]
      dsimp only
      rintro e w2 ⟨u, rfl, ⟨va, vt, rfl, ha, ht⟩, hb2⟩
      obtain ⟨pa, na, ca, rfl, hna⟩ := ownsRow_form ha
      obtain ⟨pt, nt, ct, rfl, hnt⟩ := ownsRow_form ht
      have hb3 := chain hb1' hb2
      clear ha ht hv1 own1 run1 hb2 hb1' hna hnt
      unfold rqC
      go_wp2
      go_ret
      exact ⟨rfl, chainA hb3 _⟩
    · have h8' : ¬ (8 : Int) < (n : Int) := by omega
      obtain ⟨L, hL, hp⟩ := many_trs n (by omega)
      rw [hp]
      dsimp only
      rintro e w2 ⟨u, rfl, ⟨va, vt, rfl, ha, ht⟩, hb2⟩
      obtain ⟨pa, na, ca, rfl, hna⟩ := ownsRow_form ha
      obtain ⟨pt, nt, ct, rfl, hnt⟩ := ownsRow_form ht
      have hb3 := chain hb1' hb2
      simp only [List.length_nil, hL] at hna hnt
      subst hna hnt
      clear ha ht hv1 own1 run1 hb2 hb1' hp
      unfold rqC
      go_wp2
      go_ret
      exact ⟨rfl, chainA hb3 _⟩
end Go.Proofs.Ytiiaceeaffdmpaa
