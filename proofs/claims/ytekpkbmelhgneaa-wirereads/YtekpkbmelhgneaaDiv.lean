
/-
  math/bits.LeadingZeros64 at 10, Div64 and Mul64 by 10: the Go library's own text, walked. For every high word below ten, every low word.
-/
import Derived.Test.YtekpkbmelhgneaaBas
import Derived.Shelf.Bits.Mul64
namespace Go.Proofs.Ytekpkbmelhgneaa
open Go.RowKit

set_option maxRecDepth 100000 in
theorem lz10 (w : World) : Calls Try.prog 50 #[.int .u64 10] w fun e w' => e = .returned (.int .i64 60) ∧ w' = w := by
  go_enter Try.func50, Try.ntmps50
  go_wp2
  go_ret
  exact ⟨ret_int (by kernel_rfl), rfl⟩

set_option maxHeartbeats 1000000 in
theorem div10_0 (lo : Int) (w : World) (h0 : 0 ≤ lo) (h1 : lo < 18446744073709551616) :
    Calls Try.prog 49 #[.int .u64 0, .int .u64 lo, .int .u64 10] w fun e w' => e = .returned (.tuple #[.int .u64 (lo / 10), .int .u64 (lo % 10)]) ∧ Below w.heap.size w w' := by
  go_enter Try.func49, Try.ntmps49
  go_wp2
  go_region
  go_wp2
  go_ret2
  exact ⟨rfl, by repeat (first | exact Below.refl _ _ | apply Below.drew)⟩

theorem ret_ints {k l : IntKind} {a b c d : Int} (h : a = c) (h' : b = d) : Ending.returned (.tuple #[.int k a, .int l b]) = .returned (.tuple #[.int k c, .int l d]) := by rw [h, h']

theorem or_add (a b : Nat) (k : Nat) (h : b < 2 ^ k) (ha : a * 2 ^ k < 18446744073709551616) (hb : b < 18446744073709551616) : bits .or .u64 ((a * 2 ^ k : Nat) : Int) (b : Int) = ((a * 2 ^ k + b : Nat) : Int) := by
  have h1 := bits_or_u64_nat (a * 2 ^ k) b ha hb
  rw [h1, Nat.mul_comm, ← Nat.two_pow_add_eq_or_of_lt h]

set_option maxHeartbeats 1000000 in
theorem div10_1 (hi lo : Int) (w : World) (g0 : 0 < hi) (g1 : hi < 10) (h0 : 0 ≤ lo) (h1 : lo < 18446744073709551616) :
    Calls Try.prog 49 #[.int .u64 hi, .int .u64 lo, .int .u64 10] w fun e w' => e = .returned (.tuple #[.int .u64 ((hi * 18446744073709551616 + lo) / 10), .int .u64 ((hi * 18446744073709551616 + lo) % 10)]) ∧ w' = w := by
  have k1 : (hi == 0) = false := by simp; omega
  have hA : bits BinOp.and IntKind.u64 11529215046068469760 4294967295 = 0 := by kernel_rfl
  obtain ⟨u, hu, U⟩ : ∃ u, bits BinOp.or IntKind.u64 (hi * 1152921504606846976) (lo / 16) = u ∧ u = hi * 1152921504606846976 + lo / 16 := by
    obtain ⟨a, rfl⟩ := Int.eq_ofNat_of_zero_le (Int.le_of_lt g0)
    obtain ⟨b, rfl⟩ := Int.eq_ofNat_of_zero_le h0
    have := or_add a (b / 16) 60 (by omega) (by omega) (by omega)
    exact ⟨_, by simpa using this, by simp⟩
  obtain ⟨v, hv, V⟩ : ∃ v, IntKind.u64.wrap (lo * 1152921504606846976) = v ∧ v = lo % 16 * 1152921504606846976 := ⟨_, rfl, by rw [IntKind.wrap_u64]; omega⟩
  have hv2 : bits BinOp.and IntKind.u64 v 4294967295 = 0 := by
    obtain ⟨n, rfl⟩ := Int.eq_ofNat_of_zero_le (show 0 ≤ v by omega)
    rw [Go.Proofs.Mul64.maskN n (by omega)]
    omega
  have u0 : 0 ≤ u := by omega
  have u1 : u < 11529215046068469760 := by omega
  have v0 : 0 ≤ v := by omega
  have v1 : v < 18446744073709551616 := by omega
  have HU : Hid (u = hi * 1152921504606846976 + lo / 16) := U
  have HV : Hid (v = lo % 16 * 1152921504606846976) := V
  obtain ⟨t, ht, T⟩ : ∃ t, IntKind.u64.wrap (IntKind.u64.wrap (IntKind.u64.wrap (u * 4294967296) + v / 4294967296) - IntKind.u64.wrap (u / 2684354560 * 11529215046068469760)) = t ∧ t = u % 2684354560 * 4294967296 + v / 4294967296 := ⟨_, rfl, by simp only [IntKind.wrap_u64]; omega⟩
  have t0 : 0 ≤ t := by omega
  have t1 : t < 11529215046068469760 := by omega
  have HT : Hid (t = u % 2684354560 * 4294967296 + v / 4294967296) := T
  clear U V T
  go_enter Try.func49, Try.ntmps49
  go_wp2_with (go_at_call 50; refine (lz10 _).mono ?_; rintro e w' ⟨rfl, rfl⟩)
  refine wp_loop_rounds 1 ?_
  rw [rounds_succ]
  go_wp2
  refine wp_loop_rounds 1 ?_
  rw [rounds_succ]
  go_wp2
  go_ret2
  refine ⟨ret_ints ?_ ?_, rfl⟩
  · have := HU.out; have := HV.out; have := HT.out
    omega
  · have := HU.out; have := HV.out; have := HT.out
    have e : IntKind.u64.wrap (IntKind.u64.wrap (IntKind.u64.wrap (t * 4294967296)) - IntKind.u64.wrap (t / 2684354560 * 11529215046068469760)) = t % 2684354560 * 4294967296 := by simp only [IntKind.wrap_u64]; omega
    rw [e]
    omega

theorem and_mod (x : Int) (h0 : 0 ≤ x) (h1 : x < 18446744073709551616) : bits BinOp.and IntKind.u64 x 4294967295 = x % 4294967296 := by
  obtain ⟨n, rfl⟩ := Int.eq_ofNat_of_zero_le h0
  rw [Go.Proofs.Mul64.maskN n (by omega)]
  omega

/-- Div64 by ten, of a high word below ten. -/
theorem div10 (hi lo : Int) (w : World) (g0 : 0 ≤ hi) (g1 : hi < 10) (h0 : 0 ≤ lo) (h1 : lo < 18446744073709551616) :
    Calls Try.prog 49 #[.int .u64 hi, .int .u64 lo, .int .u64 10] w fun e w' => e = .returned (.tuple #[.int .u64 ((hi * 18446744073709551616 + lo) / 10), .int .u64 ((hi * 18446744073709551616 + lo) % 10)]) ∧ Below w.heap.size w w' := by
  by_cases h : hi = 0
  · subst h
    refine (div10_0 lo w h0 h1).mono ?_
    rintro e w' ⟨rfl, hb⟩
    exact ⟨ret_ints (by omega) (by omega), hb⟩
  · refine (div10_1 hi lo w (by omega) g1 h0 h1).mono ?_
    rintro e w' ⟨rfl, rfl⟩
    exact ⟨rfl, Below.refl _ _⟩

set_option maxHeartbeats 1000000 in
theorem cut_any (hi lo : Int) (w : World) (h1 : Word hi) (h2 : Word lo) :
    Calls Try.prog 45 #[.agg #[.int .u64 hi, .int .u64 lo]] w fun e w' =>
      e = .returned (.tuple #[.agg #[.int .u64 (hi / 10), .int .u64 ((hi % 10 * 18446744073709551616 + lo) / 10)], .int .u64 ((hi % 10 * 18446744073709551616 + lo) % 10)]) ∧ Below w.heap.size w w' := by
  obtain ⟨a1, a2⟩ := h1
  obtain ⟨b1, b2⟩ := h2
  go_enter Try.func45, Try.ntmps45
  go_wp2_with fail
  refine (div10 _ _ _ (by omega) (by omega) b1 b2).mono ?_
  rintro e w1 ⟨rfl, hb⟩
  have z := hb.size
  simp at z
  have c0 := hb.cell (p := ⟨w.heap.size, 0, none⟩) (by simp; omega)
  have c1 := hb.cell (p := ⟨w.heap.size + 1, 0, none⟩) (by simp)
  have c2 := hb.cell (p := ⟨w.heap.size + 1, 1, none⟩) (by simp)
  have f1 := hb.frozen (p := ⟨w.heap.size + 1, 0, none⟩) (by simp)
  have f2 := hb.frozen (p := ⟨w.heap.size + 1, 1, none⟩) (by simp)
  simp [go_sem] at c0 c1 c2 f1 f2
  have hb' := (below2 w _ _).trans (hb.mono (by simp; omega))
  clear hb
  go_wp2
  refine bodyPost_ret (v := .tuple #[.agg #[.int .u64 (hi / 10), .int .u64 ((hi % 10 * 18446744073709551616 + lo) / 10)], .int .u64 ((hi % 10 * 18446744073709551616 + lo) % 10)]) (by simp [results, Try.results45, go_sem, *]) rfl ⟨rfl, ?_⟩
  exact (hb'.setCell (by simp) _).setCell (by simp) _
end Go.Proofs.Ytekpkbmelhgneaa
