
/-
  Package rule: a transfer's flags, what is wrong with it by itself. Plain facts on bits of 64.
-/
import Derived.Test.YtcflbicjghndoaaAdd
import Derived.Laws.BitsAllLaws
import Derived.Laws.Rows
import Derived.Laws.StructEq
namespace Go.Proofs.Ytcflbicjghndoaa
open Go.RowKit
set_option maxRecDepth 100000
set_option linter.unusedVariables false
set_option linter.unusedSimpArgs false

theorem num_eql (a b c d : Int) (t : Bool) (h : (a == c && b == d) = t) (w : World) : (binOp .eql 24 (.agg #[.int .u64 a, .int .u64 b]) (.agg #[.int .u64 c, .int .u64 d])).run Try.prog w = .ok (.bool t) w := by
  subst h
  by_cases h1 : a = c <;> by_cases h2 : b = d <;> simp [go_sem, h1, h2]
theorem num_neq (a b c d : Int) (t : Bool) (h : (a == c && b == d) = t) (w : World) : (binOp .neq 24 (.agg #[.int .u64 a, .int .u64 b]) (.agg #[.int .u64 c, .int .u64 d])).run Try.prog w = .ok (.bool !t) w := by
  subst h
  by_cases h1 : a = c <;> by_cases h2 : b = d <;> simp [go_sem, h1, h2]

/-! Bits -/
/-- A number as it stands in 64 bits. -/
def B (x : Int) : BitVec 64 := BitVec.ofInt 64 x
theorem B_wrap (v : BitVec 64) : B (IntKind.i64.wrap (v.toNat : Int)) = v := by
  unfold B
  apply BitVec.eq_of_toNat_eq
  have := v.isLt
  rw [BitVec.toNat_ofInt, IntKind.wrap_i64]
  omega
theorem B_wrapu (v : BitVec 64) : B (IntKind.u64.wrap (v.toNat : Int)) = v := by
  unfold B
  apply BitVec.eq_of_toNat_eq
  have := v.isLt
  rw [BitVec.toNat_ofInt, IntKind.wrap_u64]
  omega
theorem xor_i (x y : Int) : bits .xor .i64 x y = IntKind.i64.wrap ((B x ^^^ B y).toNat : Int) := rfl
theorem and_i (x y : Int) : bits .and .i64 x y = IntKind.i64.wrap ((B x &&& B y).toNat : Int) := rfl
theorem or_i (x y : Int) : bits .or .i64 x y = IntKind.i64.wrap ((B x ||| B y).toNat : Int) := rfl
theorem andNot_i (x y : Int) : bits .andNot .i64 x y = IntKind.i64.wrap ((B x &&& ~~~(B y)).toNat : Int) := rfl
theorem xor_u (x y : Int) : bits .xor .u64 x y = IntKind.u64.wrap ((B x ^^^ B y).toNat : Int) := rfl
theorem xor_ne_i (x y : Int) (h : B y ≠ 0#64) : bits .xor .i64 x y ≠ x := by
  intro e
  have e2 := congrArg B e
  rw [xor_i, B_wrap] at e2
  apply h
  have : B x ^^^ (B x ^^^ B y) = B x ^^^ B x := by rw [e2]
  rw [← BitVec.xor_assoc, BitVec.xor_self, BitVec.zero_xor] at this
  exact this
theorem xor_ne_u (x y : Int) (h : B y ≠ 0#64) : bits .xor .u64 x y ≠ x := by
  intro e
  have e2 := congrArg B e
  rw [xor_u, B_wrapu] at e2
  apply h
  have : B x ^^^ (B x ^^^ B y) = B x ^^^ B x := by rw [e2]
  rw [← BitVec.xor_assoc, BitVec.xor_self, BitVec.zero_xor] at this
  exact this
theorem xor_back (x y : Int) : bits .xor .i64 x (bits .xor .i64 x y) = IntKind.i64.wrap ((B y).toNat : Int) := by
  rw [xor_i, xor_i, B_wrap, ← BitVec.xor_assoc, BitVec.xor_self, BitVec.zero_xor]
theorem xor_same (x : Int) : bits .xor .i64 x x = 0 := by
  rw [xor_i, BitVec.xor_self]; rfl
theorem xor_fore (x y : Int) : bits .xor .i64 (bits .xor .i64 x y) x = IntKind.i64.wrap ((B y).toNat : Int) := by
  rw [xor_i, xor_i, B_wrap, BitVec.xor_comm, ← BitVec.xor_assoc, BitVec.xor_self, BitVec.zero_xor]
theorem and_nat (n m : Nat) (hn : n < 9223372036854775808) (hm : m < 9223372036854775808) : bits .and .i64 (n : Int) (m : Int) = ((n &&& m : Nat) : Int) := by
  have h1 : (B (n : Int)).toNat = n := by unfold B; rw [BitVec.ofInt_natCast, BitVec.toNat_ofNat]; exact Nat.mod_eq_of_lt (by omega)
  have h2 : (B (m : Int)).toNat = m := by unfold B; rw [BitVec.ofInt_natCast, BitVec.toNat_ofNat]; exact Nat.mod_eq_of_lt (by omega)
  rw [and_i, BitVec.toNat_and, h1, h2, IntKind.wrap_i64]
  have : n &&& m ≤ n := Nat.and_le_left
  omega
/-- Whatever is cut by a mask is a number up to that. -/
theorem and_mask (x : Int) (m : Nat) (hm : m < 9223372036854775808) : ∃ k : Nat, bits .and .i64 x (m : Int) = (k : Int) ∧ k = (B x).toNat &&& m := by
  have h2 : (B (m : Int)).toNat = m := by unfold B; rw [BitVec.ofInt_natCast, BitVec.toNat_ofNat]; exact Nat.mod_eq_of_lt (by omega)
  refine ⟨_, ?_, rfl⟩
  rw [and_i, BitVec.toNat_and, h2, IntKind.wrap_i64]
  have : (B x).toNat &&& m ≤ m := Nat.and_le_right
  omega
/-- Flags above 255, or below 0, bear others than those that there are. -/
theorem out_255 (f : Int) (lo : -9223372036854775808 ≤ f) (hi : f ≤ 9223372036854775807) (h : f < 0 ∨ 255 < f) : (bits .andNot .i64 f 255 != 0) = true := by
  rw [bne_iff_ne]
  intro e
  have e2 := congrArg B e
  rw [andNot_i, B_wrap] at e2
  have e3 : B f = B f &&& 255#64 := by
    have h255 : B 255 = 255#64 := rfl
    rw [h255] at e2
    have : B f = (B f &&& ~~~255#64) ||| (B f &&& 255#64) := by
      ext i hi'
      simp only [BitVec.getElem_or, BitVec.getElem_and, BitVec.getElem_not]
      cases (B f)[i] <;> cases (255#64)[i] <;> rfl
    rw [e2] at this
    have h0 : B 0 = 0#64 := rfl
    rw [h0, BitVec.zero_or] at this
    exact this
  have e4 : (B f).toNat ≤ 255 := by
    rw [e3, BitVec.toNat_and]
    exact Nat.and_le_right
  unfold B at e4
  rw [BitVec.toNat_ofInt] at e4
  omega

/-- How many of the four lowest bits are set. -/
def pop4 (x : Nat) : Nat := x % 2 + x / 2 % 2 + x / 4 % 2 + x / 8 % 2
theorem ones64 (x : Nat) (hx : x < 16) (w : World) :
    Calls Try.prog 34 #[.int .u64 x] w fun e w' => e = .returned (.int .i64 (pop4 x)) ∧ w' = w := by
  go_enter Try.func34, Try.ntmps34
  go_wp2
  go_ret
  refine ⟨ret_int ?_, rfl⟩
  have hall : ∀ y, y < 16 → y = 0 ∨ y = 1 ∨ y = 2 ∨ y = 3 ∨ y = 4 ∨ y = 5 ∨ y = 6 ∨ y = 7 ∨ y = 8 ∨ y = 9 ∨ y = 10 ∨ y = 11 ∨ y = 12 ∨ y = 13 ∨ y = 14 ∨ y = 15 := by omega
  rcases hall x hx with rfl | rfl | rfl | rfl | rfl | rfl | rfl | rfl | rfl | rfl | rfl | rfl | rfl | rfl | rfl | rfl
  all_goals decide +kernel
theorem ones (x : Nat) (hx : x < 16) (w : World) :
    Calls Try.prog 30 #[.int .u64 x] w fun e w' => e = .returned (.int .i64 (pop4 x)) ∧ w' = w := by
  go_enter Try.func30, Try.ntmps30
  go_wp2_with (go_at_call 34; refine (ones64 x hx _).mono ?_; rintro e w' ⟨rfl, rfl⟩)
  go_ret
  exact ⟨rfl, rfl⟩
end Go.Proofs.Ytcflbicjghndoaa
