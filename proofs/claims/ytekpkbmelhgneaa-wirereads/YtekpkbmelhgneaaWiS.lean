
/-
  Accounts, transfers held against one another.
-/
import Derived.Test.YtekpkbmelhgneaaWiG
namespace Go.Proofs.Ytekpkbmelhgneaa
open Go.RowKit
set_option maxRecDepth 100000
set_option linter.unusedSimpArgs false

theorem run_part_u8 (l : List Nat) (i : Nat) (hi : i < l.length) (w : World) : (part 5 (bytesL l) i).run Try.prog w = .ok (.int .u8 (l.getD i 0 : Nat)) w := by
  unfold part isAgg
  simp [run_underlying under_byte, bytesL_at l i hi]
theorem run_eqItems_u8 (d : Nat) (l m : List Nat) (w : World) : ∀ is : List Nat, (∀ i ∈ is, i < l.length ∧ i < m.length) →
    (Op.eqItems (d + 1) 5 1 (bytesL l) (bytesL m) is).run Try.prog w = .ok (is.all fun i => l.getD i 0 == m.getD i 0) w
  | [], _ => by simp [Op.eqItems]
  | i :: is, h => by
    have h0 := h i (by simp)
    have ih := run_eqItems_u8 d l m w is fun j hj => h j (by simp [hj])
    simp only [Op.eqItems, Sem.run_bind, Nat.mul_one, run_part_u8 l i h0.1, run_part_u8 m i h0.2, Result.andThen_ok, run_equalIn_int w d 5 .u8 .u8 _ _ under_byte]
    by_cases e : l.getD i 0 = m.getD i 0
    · rw [show (((l.getD i 0 : Nat) : Int) == ((m.getD i 0 : Nat) : Int)) = true from by rw [e]; simp]
      simp only [Bool.not_true, Bool.false_eq_true, if_false, List.all_cons]
      rw [ih, e]
      simp
    · rw [show (((l.getD i 0 : Nat) : Int) == ((m.getD i 0 : Nat) : Int)) = false from by simp only [beq_eq_false_iff_ne, ne_eq]; omega]
      simp only [Bool.not_false, if_true, List.all_cons, Sem.run_pure]
      rw [show (l.getD i 0 == m.getD i 0) = false from by simpa using e]
      simp
theorem cells_u8' : Try.prog.cellsOf 5 = 1 := by kernel_rfl
theorem hash_zero_same (d : Nat) (w : World) : (Op.equalIn (d + 2) 40 (.agg (bytesL (List.replicate 32 0))) (.agg (bytesL (List.replicate 32 0)))).run Try.prog w = .ok true w := by
  obtain ⟨i, hi, _⟩ := info_u8'
  rw [run_equalIn_array w (d + 1) _ _ Try.underlying40 hi, cells_u8', run_eqItems_u8 d _ _ w _ (fun j hj => by simpa using hj)]
  simp
theorem h32 : (#[.int .u8 0, .int .u8 0, .int .u8 0, .int .u8 0, .int .u8 0, .int .u8 0, .int .u8 0, .int .u8 0, .int .u8 0, .int .u8 0, .int .u8 0, .int .u8 0, .int .u8 0, .int .u8 0, .int .u8 0, .int .u8 0, .int .u8 0, .int .u8 0, .int .u8 0, .int .u8 0, .int .u8 0, .int .u8 0, .int .u8 0, .int .u8 0, .int .u8 0, .int .u8 0, .int .u8 0, .int .u8 0, .int .u8 0, .int .u8 0, .int .u8 0, .int .u8 0] : Array Value) = bytesL (List.replicate 32 0) := rfl
theorem hash_zero_lit (w : World) : (Op.equalIn 9999 40 (.agg #[.int .u8 0, .int .u8 0, .int .u8 0, .int .u8 0, .int .u8 0, .int .u8 0, .int .u8 0, .int .u8 0, .int .u8 0, .int .u8 0, .int .u8 0, .int .u8 0, .int .u8 0, .int .u8 0, .int .u8 0, .int .u8 0, .int .u8 0, .int .u8 0, .int .u8 0, .int .u8 0, .int .u8 0, .int .u8 0, .int .u8 0, .int .u8 0, .int .u8 0, .int .u8 0, .int .u8 0, .int .u8 0, .int .u8 0, .int .u8 0, .int .u8 0, .int .u8 0]) (.agg #[.int .u8 0, .int .u8 0, .int .u8 0, .int .u8 0, .int .u8 0, .int .u8 0, .int .u8 0, .int .u8 0, .int .u8 0, .int .u8 0, .int .u8 0, .int .u8 0, .int .u8 0, .int .u8 0, .int .u8 0, .int .u8 0, .int .u8 0, .int .u8 0, .int .u8 0, .int .u8 0, .int .u8 0, .int .u8 0, .int .u8 0, .int .u8 0, .int .u8 0, .int .u8 0, .int .u8 0, .int .u8 0, .int .u8 0, .int .u8 0, .int .u8 0, .int .u8 0])).run Try.prog w = .ok true w := hash_zero_same 9997 w
theorem nat_of_int {a b : Nat} (h : (a : Int) = (b : Int)) : a = b := by omega
set_option maxHeartbeats 4000000 in
theorem tr_neq (a b : Tr) : ∃ r, (∀ w : World, (binOp .neq 71 (.agg a.cells) (.agg b.cells)).run Try.prog w = .ok (.bool r) w) ∧ (r = false ↔ a = b) := by
  by_cases h : a = b
  · subst h
    exact ⟨false, fun w => by unfold Tr.cells; simp [go_sem], by simp⟩
  · have hne : ¬ (a.h1 = b.h1 ∧ a.l1 = b.l1 ∧ a.h2 = b.h2 ∧ a.l2 = b.l2 ∧ a.h3 = b.h3 ∧ a.l3 = b.l3 ∧ a.h4 = b.h4 ∧ a.l4 = b.l4 ∧ a.h5 = b.h5 ∧ a.l5 = b.l5 ∧ a.tm = b.tm ∧ a.led = b.led ∧ a.fl = b.fl) := fun ⟨eh1, el1, eh2, el2, eh3, el3, eh4, el4, eh5, el5, etm, eled, efl⟩ => h (by cases a; cases b; dsimp only at *; subst eh1 el1 eh2 el2 eh3 el3 eh4 el4 eh5 el5 etm eled efl; rfl)
    refine ⟨true, fun w => ?_, by simp [h]⟩
    unfold Tr.cells
    by_cases e0 : ((a.h1 : Nat) : Int) = ((b.h1 : Nat) : Int)
    case neg => simp [go_sem, e0]
    by_cases e1 : ((a.l1 : Nat) : Int) = ((b.l1 : Nat) : Int)
    case neg => simp [go_sem, e0, e1]
    by_cases e2 : ((a.h2 : Nat) : Int) = ((b.h2 : Nat) : Int)
    case neg => simp [go_sem, e0, e1, e2]
    by_cases e3 : ((a.l2 : Nat) : Int) = ((b.l2 : Nat) : Int)
    case neg => simp [go_sem, e0, e1, e2, e3]
    by_cases e4 : ((a.h3 : Nat) : Int) = ((b.h3 : Nat) : Int)
    case neg => simp [go_sem, e0, e1, e2, e3, e4]
    by_cases e5 : ((a.l3 : Nat) : Int) = ((b.l3 : Nat) : Int)
    case neg => simp [go_sem, e0, e1, e2, e3, e4, e5]
    by_cases e6 : ((a.h4 : Nat) : Int) = ((b.h4 : Nat) : Int)
    case neg => simp [go_sem, e0, e1, e2, e3, e4, e5, e6]
    by_cases e7 : ((a.l4 : Nat) : Int) = ((b.l4 : Nat) : Int)
    case neg => simp [go_sem, e0, e1, e2, e3, e4, e5, e6, e7]
    by_cases e8 : ((a.h5 : Nat) : Int) = ((b.h5 : Nat) : Int)
    case neg => simp [go_sem, e0, e1, e2, e3, e4, e5, e6, e7, e8]
    by_cases e9 : ((a.l5 : Nat) : Int) = ((b.l5 : Nat) : Int)
    case neg => simp [go_sem, e0, e1, e2, e3, e4, e5, e6, e7, e8, e9]
    by_cases e10 : ((a.tm : Nat) : Int) = ((b.tm : Nat) : Int)
    case neg => simp [go_sem, e0, e1, e2, e3, e4, e5, e6, e7, e8, e9, e10]
    by_cases e11 : ((a.led : Nat) : Int) = ((b.led : Nat) : Int)
    case neg => simp [go_sem, e0, e1, e2, e3, e4, e5, e6, e7, e8, e9, e10, e11]
    by_cases e12 : ((a.fl : Nat) : Int) = ((b.fl : Nat) : Int)
    case neg => simp [go_sem, e0, e1, e2, e3, e4, e5, e6, e7, e8, e9, e10, e11, e12]
    exact absurd ⟨nat_of_int e0, nat_of_int e1, nat_of_int e2, nat_of_int e3, nat_of_int e4, nat_of_int e5, nat_of_int e6, nat_of_int e7, nat_of_int e8, nat_of_int e9, nat_of_int e10, nat_of_int e11, nat_of_int e12⟩ hne
set_option maxHeartbeats 4000000 in
theorem ac_neq (a b : Ac) : ∃ r, (∀ w : World, (binOp .neq 42 (.agg a.cells) (.agg b.cells)).run Try.prog w = .ok (.bool r) w) ∧ (r = false ↔ a = b) := by
  by_cases h : a = b
  · subst h
    exact ⟨false, fun w => by unfold Ac.cells; simp [go_sem, hash_zero_lit], by simp⟩
  · have hne : ¬ (a.hi = b.hi ∧ a.lo = b.lo ∧ a.led = b.led ∧ a.fl = b.fl) := fun ⟨ehi, elo, eled, efl⟩ => h (by cases a; cases b; dsimp only at *; subst ehi elo eled efl; rfl)
    refine ⟨true, fun w => ?_, by simp [h]⟩
    unfold Ac.cells
    by_cases e0 : ((a.hi : Nat) : Int) = ((b.hi : Nat) : Int)
    case neg => simp [go_sem, e0, hash_zero_lit]
    by_cases e1 : ((a.lo : Nat) : Int) = ((b.lo : Nat) : Int)
    case neg => simp [go_sem, e0, e1, hash_zero_lit]
    by_cases e2 : ((a.led : Nat) : Int) = ((b.led : Nat) : Int)
    case neg => simp [go_sem, e0, e1, e2, hash_zero_lit]
    by_cases e3 : ((a.fl : Nat) : Int) = ((b.fl : Nat) : Int)
    case neg => simp [go_sem, e0, e1, e2, e3, hash_zero_lit]
    exact absurd ⟨nat_of_int e0, nat_of_int e1, nat_of_int e2, nat_of_int e3⟩ hne
end Go.Proofs.Ytekpkbmelhgneaa
