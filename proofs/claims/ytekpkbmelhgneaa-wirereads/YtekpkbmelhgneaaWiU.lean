
/-
  paciolilaw03.Tame: a request as its bytes can tell it; the kinds without events.
-/
import Derived.Test.YtekpkbmelhgneaaWiT
namespace Go.Proofs.Ytekpkbmelhgneaa
open Go.RowKit
set_option maxRecDepth 100000

/-- What Tame makes of a request. -/
def RIn.tame (q : RIn) : Rq :=
  if low 256 q.kind % 9 = 0 then ⟨1, (q.acs.take 8).map AIn.tame, [], 0, 0, 0, 0, 0⟩
  else if low 256 q.kind % 9 = 1 then ⟨2, [], (q.trs.take 8).map TIn.tame, 0, 0, 0, 0, 0⟩
  else if low 256 q.kind % 9 = 2 then ⟨3, [], [], 0, 0, low 4294967296 q.fr, 0, 0⟩
  else if low 256 q.kind % 9 = 3 ∨ low 256 q.kind % 9 = 4 ∨ low 256 q.kind % 9 = 6 then ⟨low 256 q.kind % 9 + 1, [], [], q.hi, q.lo, 0, 0, 0⟩
  else if low 256 q.kind % 9 = 5 ∨ low 256 q.kind % 9 = 7 then ⟨low 256 q.kind % 9 + 1, [], [], q.hi, q.lo, low 281474976710656 q.fr, low 281474976710656 q.to, low 256 q.lim⟩
  else ⟨9, [], [], 0, 0, low 4294967296 q.fr, low 4294967296 q.to, 0⟩

theorem kind_bits (k : Int) (j : Nat) (hj : low 256 k % 9 = j) : ∃ n : Nat, bits .and .i64 k 255 = (n : Int) ∧ n ≤ 255 ∧ (n : Int) % 9 = (j : Nat) := by
  refine ⟨low 256 k, by rw [mask8]; exact low_eq 256 (by decide) k, by have := low_lt 256 (by decide) k; omega, by omega⟩

set_option maxHeartbeats 4000000 in
theorem tame_tick (q : RIn) (va vt : Value) (w : World) (hj : low 256 q.kind % 9 = 2) :
    Calls Try.prog 13 #[.agg (riC q.kind va vt q.hi q.lo q.fr q.to q.lim)] w fun e w' => e = .returned (.agg (rqC 3 (.slice none 0 0) (.slice none 0 0) 0 0 (low 4294967296 q.fr) 0 0)) ∧ Below w.heap.size w w' := by
  obtain ⟨n, hn, hn1, hn2⟩ := kind_bits q.kind 2 hj
  have n0 : (0 : Int) ≤ (n : Int) := by omega
  have n1 : (n : Int) ≤ 255 := by omega
  rw [show ((2 : Nat) : Int) = 2 from rfl] at hn2
  unfold riC rqC
  go_enter Try.func13, Try.ntmps13
  go_wp2_with (go_at_call 34; refine (four_any _ _).mono ?_; rintro e w' ⟨rfl, rfl⟩)
  exact bodyPost_ret (v := .agg #[.int .i64 (3 : Nat), .slice none 0 0, .slice none 0 0, .int .u64 (0 : Nat), .int .u64 (0 : Nat), .int .i64 (low 4294967296 q.fr : Nat), .int .i64 (0 : Nat), .int .i64 (0 : Nat)]) (by simp [results, Try.results13, go_sem]) rfl ⟨rfl, below3 _ _ _ _⟩
set_option maxHeartbeats 4000000 in
theorem tame_find4 (q : RIn) (va vt : Value) (w : World) (hj : low 256 q.kind % 9 = 3) :
    Calls Try.prog 13 #[.agg (riC q.kind va vt q.hi q.lo q.fr q.to q.lim)] w fun e w' => e = .returned (.agg (rqC 4 (.slice none 0 0) (.slice none 0 0) q.hi q.lo 0 0 0)) ∧ Below w.heap.size w w' := by
  obtain ⟨n, hn, hn1, hn2⟩ := kind_bits q.kind 3 hj
  have n0 : (0 : Int) ≤ (n : Int) := by omega
  have n1 : (n : Int) ≤ 255 := by omega
  rw [show ((3 : Nat) : Int) = 3 from rfl] at hn2
  unfold riC rqC
  go_enter Try.func13, Try.ntmps13
  go_wp2
  exact bodyPost_ret (v := .agg #[.int .i64 (4 : Nat), .slice none 0 0, .slice none 0 0, .int .u64 (q.hi : Nat), .int .u64 (q.lo : Nat), .int .i64 (0 : Nat), .int .i64 (0 : Nat), .int .i64 (0 : Nat)]) (by simp [results, Try.results13, go_sem]) rfl ⟨rfl, below3 _ _ _ _⟩
set_option maxHeartbeats 4000000 in
theorem tame_find5 (q : RIn) (va vt : Value) (w : World) (hj : low 256 q.kind % 9 = 4) :
    Calls Try.prog 13 #[.agg (riC q.kind va vt q.hi q.lo q.fr q.to q.lim)] w fun e w' => e = .returned (.agg (rqC 5 (.slice none 0 0) (.slice none 0 0) q.hi q.lo 0 0 0)) ∧ Below w.heap.size w w' := by
  obtain ⟨n, hn, hn1, hn2⟩ := kind_bits q.kind 4 hj
  have n0 : (0 : Int) ≤ (n : Int) := by omega
  have n1 : (n : Int) ≤ 255 := by omega
  rw [show ((4 : Nat) : Int) = 4 from rfl] at hn2
  unfold riC rqC
  go_enter Try.func13, Try.ntmps13
  go_wp2
  exact bodyPost_ret (v := .agg #[.int .i64 (5 : Nat), .slice none 0 0, .slice none 0 0, .int .u64 (q.hi : Nat), .int .u64 (q.lo : Nat), .int .i64 (0 : Nat), .int .i64 (0 : Nat), .int .i64 (0 : Nat)]) (by simp [results, Try.results13, go_sem]) rfl ⟨rfl, below3 _ _ _ _⟩
set_option maxHeartbeats 4000000 in
theorem tame_find7 (q : RIn) (va vt : Value) (w : World) (hj : low 256 q.kind % 9 = 6) :
    Calls Try.prog 13 #[.agg (riC q.kind va vt q.hi q.lo q.fr q.to q.lim)] w fun e w' => e = .returned (.agg (rqC 7 (.slice none 0 0) (.slice none 0 0) q.hi q.lo 0 0 0)) ∧ Below w.heap.size w w' := by
  obtain ⟨n, hn, hn1, hn2⟩ := kind_bits q.kind 6 hj
  have n0 : (0 : Int) ≤ (n : Int) := by omega
  have n1 : (n : Int) ≤ 255 := by omega
  rw [show ((6 : Nat) : Int) = 6 from rfl] at hn2
  unfold riC rqC
  go_enter Try.func13, Try.ntmps13
  go_wp2
  exact bodyPost_ret (v := .agg #[.int .i64 (7 : Nat), .slice none 0 0, .slice none 0 0, .int .u64 (q.hi : Nat), .int .u64 (q.lo : Nat), .int .i64 (0 : Nat), .int .i64 (0 : Nat), .int .i64 (0 : Nat)]) (by simp [results, Try.results13, go_sem]) rfl ⟨rfl, below3 _ _ _ _⟩
set_option maxHeartbeats 4000000 in
theorem tame_span6 (q : RIn) (va vt : Value) (w : World) (hj : low 256 q.kind % 9 = 5) :
    Calls Try.prog 13 #[.agg (riC q.kind va vt q.hi q.lo q.fr q.to q.lim)] w fun e w' => e = .returned (.agg (rqC 6 (.slice none 0 0) (.slice none 0 0) q.hi q.lo (low 281474976710656 q.fr) (low 281474976710656 q.to) (low 256 q.lim))) ∧ Below w.heap.size w w' := by
  obtain ⟨n, hn, hn1, hn2⟩ := kind_bits q.kind 5 hj
  have n0 : (0 : Int) ≤ (n : Int) := by omega
  have n1 : (n : Int) ≤ 255 := by omega
  rw [show ((5 : Nat) : Int) = 5 from rfl] at hn2
  unfold riC rqC
  have e1 := (mask48 q.fr).trans (low_eq 281474976710656 (by decide) q.fr)
  have e2 := (mask48 q.to).trans (low_eq 281474976710656 (by decide) q.to)
  have e3 := (mask8 q.lim).trans (low_eq 256 (by decide) q.lim)
  go_enter Try.func13, Try.ntmps13
  go_wp2
  go_region
  go_wp2
  refine bodyPost_ret (v := .agg #[.int .i64 (6 : Nat), .slice none 0 0, .slice none 0 0, .int .u64 (q.hi : Nat), .int .u64 (q.lo : Nat), .int .i64 (low 281474976710656 q.fr : Nat), .int .i64 (low 281474976710656 q.to : Nat), .int .i64 (low 256 q.lim : Nat)]) (by simp [results, Try.results13, go_sem]) rfl ⟨rfl, ?_⟩
  repeat' (first | exact Below.refl _ _ | refine Below.drew ?_ | refine Below.setCell ?_ (by simp; try omega) _ | refine Below.alloc ?_ (by simp; try omega) _)
set_option maxHeartbeats 4000000 in
theorem tame_span8 (q : RIn) (va vt : Value) (w : World) (hj : low 256 q.kind % 9 = 7) :
    Calls Try.prog 13 #[.agg (riC q.kind va vt q.hi q.lo q.fr q.to q.lim)] w fun e w' => e = .returned (.agg (rqC 8 (.slice none 0 0) (.slice none 0 0) q.hi q.lo (low 281474976710656 q.fr) (low 281474976710656 q.to) (low 256 q.lim))) ∧ Below w.heap.size w w' := by
  obtain ⟨n, hn, hn1, hn2⟩ := kind_bits q.kind 7 hj
  have n0 : (0 : Int) ≤ (n : Int) := by omega
  have n1 : (n : Int) ≤ 255 := by omega
  rw [show ((7 : Nat) : Int) = 7 from rfl] at hn2
  unfold riC rqC
  have e1 := (mask48 q.fr).trans (low_eq 281474976710656 (by decide) q.fr)
  have e2 := (mask48 q.to).trans (low_eq 281474976710656 (by decide) q.to)
  have e3 := (mask8 q.lim).trans (low_eq 256 (by decide) q.lim)
  go_enter Try.func13, Try.ntmps13
  go_wp2
  go_region
  go_wp2
  refine bodyPost_ret (v := .agg #[.int .i64 (8 : Nat), .slice none 0 0, .slice none 0 0, .int .u64 (q.hi : Nat), .int .u64 (q.lo : Nat), .int .i64 (low 281474976710656 q.fr : Nat), .int .i64 (low 281474976710656 q.to : Nat), .int .i64 (low 256 q.lim : Nat)]) (by simp [results, Try.results13, go_sem]) rfl ⟨rfl, ?_⟩
  repeat' (first | exact Below.refl _ _ | refine Below.drew ?_ | refine Below.setCell ?_ (by simp; try omega) _ | refine Below.alloc ?_ (by simp; try omega) _)
end Go.Proofs.Ytekpkbmelhgneaa
