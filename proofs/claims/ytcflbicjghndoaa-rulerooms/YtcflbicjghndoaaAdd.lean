
/-
  u128.Add: of any numbers their sum, if that is below 2^128; else none. For every slice of numbers.
-/
import Derived.Test.YtcflbicjghndoaaBas
namespace Go.Proofs.Ytcflbicjghndoaa
open Go.RowKit

/-- A slice of numbers of two words each, as it lies in memory. -/
def Nums (w : World) (a : Option Addr) (n : Nat) (H L : Nat → Int) : Prop :=
  n ≤ maxLen ∧ ∀ i, i < n → ∃ b off, a = some ⟨b, off, none⟩ ∧ b < w.heap.size ∧ w.cell? ⟨b, off + i * 2, none⟩ = some (.int .u64 (H i)) ∧ w.cell? ⟨b, off + i * 2 + 1, none⟩ = some (.int .u64 (L i)) ∧ Word (H i) ∧ Word (L i)

/-- The sum of the first k. -/
def sumTo (H L : Nat → Int) : Nat → Int
  | 0 => 0
  | k + 1 => sumTo H L k + (H k * 18446744073709551616 + L k)

theorem sumTo_nonneg {H L : Nat → Int} {n : Nat} (h : ∀ i, i < n → Word (H i) ∧ Word (L i)) (k : Nat) (hk : k ≤ n) : 0 ≤ sumTo H L k := by
  induction k with
  | zero => simp [sumTo]
  | succ k ih =>
    have := ih (by omega)
    obtain ⟨⟨_, _⟩, ⟨_, _⟩⟩ := h k (by omega)
    simp only [sumTo]; omega

theorem sumTo_mono {H L : Nat → Int} {n : Nat} (h : ∀ i, i < n → Word (H i) ∧ Word (L i)) (k d : Nat) (hk : k + d ≤ n) : sumTo H L k ≤ sumTo H L (k + d) := by
  induction d with
  | zero => simp
  | succ d ih =>
    have := ih (by omega)
    obtain ⟨⟨_, _⟩, ⟨_, _⟩⟩ := h (k + d) (by omega)
    rw [← Nat.add_assoc]; simp only [sumTo]; omega

/-- What Add answers of a sum. -/
def addV (s : Int) : Value :=
  if s < 340282366920938463463374607431768211456 then .tuple #[.agg #[.int .u64 (s / 18446744073709551616), .int .u64 (s % 18446744073709551616)], .bool true]
  else .tuple #[.agg #[.int .u64 0, .int .u64 0], .bool false]
theorem addV_yes {s : Int} (h : s < 340282366920938463463374607431768211456) : addV s = .tuple #[.agg #[.int .u64 (s / 18446744073709551616), .int .u64 (s % 18446744073709551616)], .bool true] := by rw [addV, if_pos h]
theorem addV_no {s : Int} (h : ¬ s < 340282366920938463463374607431768211456) : addV s = .tuple #[.agg #[.int .u64 0, .int .u64 0], .bool false] := by rw [addV, if_neg h]

theorem cells_eq {a b c d : Int} (h : a = c) (k : b = d) : Ending.returned (.tuple #[.agg #[.int .u64 a, .int .u64 b], .bool true]) = .returned (.tuple #[.agg #[.int .u64 c, .int .u64 d], .bool true]) := by rw [h, k]

set_option maxHeartbeats 1000000 in
theorem add_any (a : Option Addr) (n cap : Nat) (H L : Nat → Int) (w : World) (hn : Nums w a n H L) :
    Calls Try.prog 13 #[.slice a n cap] w fun e w' => e = .returned (addV (sumTo H L n)) ∧ Below w.heap.size w w' := by
  obtain ⟨hm, hc⟩ := hn
  unfold maxLen at hm
  have HW : Hid (∀ i, i < n → Word (H i) ∧ Word (L i)) := fun i hi => by obtain ⟨_, _, _, _, _, _, h1, h2⟩ := hc i hi; exact ⟨h1, h2⟩
  have HC : Hid (∀ i, i < n → ∃ b off, a = some ⟨b, off, none⟩ ∧ b < w.heap.size ∧ w.cell? ⟨b, off + i * 2, none⟩ = some (.int .u64 (H i)) ∧ w.cell? ⟨b, off + i * 2 + 1, none⟩ = some (.int .u64 (L i)) ∧ Word (H i) ∧ Word (L i)) := hc
  clear hc
  go_enter Try.func13, Try.ntmps13
  go_wp2
  go_loopw [13] (fun i wr => ∃ k : Nat, k ≤ n ∧ i = .int .i64 k ∧ ∃ sh sl : Int, Word sh ∧ Word sl ∧ Hid (sh * 18446744073709551616 + sl = sumTo H L k) ∧
        wr.cell? ⟨w.heap.size + 1, 0, none⟩ = some (.int .u64 sh) ∧ wr.cell? ⟨w.heap.size + 1, 1, none⟩ = some (.int .u64 sl) ∧ wr.frozen? ⟨w.heap.size + 1, 0, none⟩ = false ∧ wr.frozen? ⟨w.heap.size + 1, 1, none⟩ = false ∧
        wr.cell? ⟨w.heap.size, 0, none⟩ = some (.int .u64 0) ∧ wr.cell? ⟨w.heap.size, 1, none⟩ = some (.int .u64 0) ∧ wr.frozen? ⟨w.heap.size, 0, none⟩ = false ∧ wr.frozen? ⟨w.heap.size, 1, none⟩ = false ∧ Below w.heap.size w wr ∧ w.heap.size + 1 < wr.heap.size)
      (fun i _ => n - (intOf i).toNat)
  case atStart =>
    refine ⟨0, Nat.zero_le _, rfl, 0, 0, ⟨by decide, by decide⟩, ⟨by decide, by decide⟩, rfl, ?_, ?_, ?_, ?_, ?_, ?_, ?_, ?_, below2 _ _ _, by simp⟩ <;> simp
  case round =>
    obtain ⟨k, hk, rfl, sh, sl, ⟨s1, s2⟩, ⟨s3, s4⟩, hs, q0, q1, f0, f1, r0, r1, g0, g1, bel, hz⟩ := hrel
    have hz' : w.heap.size < wr.heap.size := by omega
    by_cases hlt : k < n
    · obtain ⟨b, off, rfl, hb, c0, c1, ⟨u1, u2⟩, ⟨u3, u4⟩⟩ := HC.out k hlt
      have d0 := (bel.cell (p := ⟨b, off + k * 2, none⟩) hb).trans c0
      have d1 := (bel.cell (p := ⟨b, off + k * 2 + 1, none⟩) hb).trans c1
      clear c0 c1
      have z0 := fun w => add64_0 sl (L k) s3 u3 w
      have z1 := fun w => add64 sh (H k) ((sl + L k) / 18446744073709551616) s1 u1 (by omega) (by omega) w
      by_cases hov : (sh + H k + (sl + L k) / 18446744073709551616) / 18446744073709551616 = 0
      · rw [hov] at z1
        have HV : Hid ((sh + H k + (sl + L k) / 18446744073709551616) / 18446744073709551616 = 0) := hov
        clear hov
        go_wp2_with (first | simp only [z0] | simp only [z1])
        go_roundw
        case rel =>
          clear z0 z1
          refine ⟨k + 1, by omega, by go_num, (sh + H k + (sl + L k) / 18446744073709551616) % 18446744073709551616, (sl + L k) % 18446744073709551616, ⟨by omega, by omega⟩, ⟨by omega, by omega⟩, ?_, ?_, ?_, ?_, ?_, ?_, ?_, ?_, ?_, ?_, ?_⟩
          · have h2 := hs.out
            have h3 := HV.out
            show _ = sumTo H L k + _
            omega
          · simp [go_sem, *]
          · simp [go_sem, *]
          · simp [go_sem, *]
          · simp [go_sem, *]
          · simp [go_sem, *]
          · simp [go_sem, *]
          · simp [go_sem, *]
          · simp [go_sem, *]
          · exact ((bel.setCell (by simp) _).setCell (by simp) _).alloc (by simp [World.setCell]; omega) _
          · simp [World.setCell]; omega
        case measure => simp [intOf]; omega
      · have hov1 : (sh + H k + (sl + L k) / 18446744073709551616) / 18446744073709551616 = 1 := by omega
        rw [hov1] at z1
        have HV : Hid ((sh + H k + (sl + L k) / 18446744073709551616) / 18446744073709551616 = 1) := hov1
        clear hov hov1
        go_wp2_with (first | simp only [z0] | simp only [z1])
        have hbig : ¬ sumTo H L n < 340282366920938463463374607431768211456 := by
          have h1 := sumTo_mono HW.out (k + 1) (n - (k + 1)) (by omega)
          rw [show k + 1 + (n - (k + 1)) = n from by omega] at h1
          have h2 := hs.out
          have h3 := HV.out
          simp only [sumTo] at h1
          omega
        refine bodyPost_ret (v := .tuple #[.agg #[.int .u64 0, .int .u64 0], .bool false]) (by simp [results, Try.results13, go_sem, *]) rfl ?_
        rw [addV_no hbig]
        exact ⟨rfl, ((bel.setCell (Nat.le_refl _) _).setCell (Nat.le_refl _) _).alloc (by simp [World.setCell]; omega) _⟩
    · go_wp2
      have hkn : k = n := by omega
      subst hkn
      have hbig : sumTo H L k < 340282366920938463463374607431768211456 := by have h2 := hs.out; omega
      refine bodyPost_ret (v := .tuple #[.agg #[.int .u64 sh, .int .u64 sl], .bool true]) (by simp [results, Try.results13, go_sem, *]) rfl ?_
      rw [addV_yes hbig]
      exact ⟨cells_eq (by have h2 := hs.out; omega) (by have h2 := hs.out; omega), ((bel.setCell (Nat.le_refl _) _).setCell (Nat.le_refl _) _)⟩
end Go.Proofs.Ytcflbicjghndoaa
