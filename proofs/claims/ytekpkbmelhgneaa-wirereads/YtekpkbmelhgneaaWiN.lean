
/-
  package wire's Writer: Num, Bytes. For all numbers.
-/
import Derived.Test.YtekpkbmelhgneaaWiW
import Derived.Test.YtekpkbmelhgneaaWiM
namespace Go.Proofs.Ytekpkbmelhgneaa
open Go.RowKit
set_option maxRecDepth 100000

theorem getD_app_l (l m : List Nat) (j : Nat) (h : j < l.length) : (l ++ m).getD j 0 = l.getD j 0 := by rw [List.getD, List.getD, List.getElem?_append_left h]
theorem getD_app_r (l m : List Nat) (j : Nat) (h : l.length ≤ j) : (l ++ m).getD j 0 = m.getD (j - l.length) 0 := by simp [List.getD, List.getElem?_append_right h]
theorem enc_getD : ∀ (n x j : Nat), j < n → (enc n x).getD j 0 = x / 256 ^ (n - 1 - j) % 256
  | 0, _, _, h => by omega
  | n + 1, x, j, h => by
    rw [enc]
    by_cases hj : j < n
    · rw [getD_app_l _ _ _ (by rw [enc_len]; exact hj), enc_getD n (x / 256) j hj, Nat.div_div_eq_div_mul, show n + 1 - 1 - j = (n - 1 - j) + 1 from by omega, Nat.pow_succ, Nat.mul_comm]
    · obtain rfl : j = n := by omega
      rw [getD_app_r _ _ _ (by rw [enc_len]; exact Nat.le_refl _), enc_len]
      simp
/-- The sixteen bytes of a number. -/
def numB (n : Nat × Nat) : List Nat := enc 8 n.1 ++ enc 8 n.2
theorem numB_len (n : Nat × Nat) : (numB n).length = 16 := by rw [numB, List.length_append, enc_len, enc_len]
theorem numB_w8 (n : Nat × Nat) : W8 (numB n) := (enc_w8 _ _).append (enc_w8 _ _)
theorem bH_getD (n : Nat × Nat) (j : Nat) (hj : j < 16) : bH (n.1 : Nat) (n.2 : Nat) j = ((numB n).getD j 0 : Nat) := by
  have e2 : ∀ k : Nat, (2 : Int) ^ (8 * k) = ((256 ^ k : Nat) : Int) := fun k => by rw [Int.pow_mul, Int.natCast_pow]; rfl
  unfold bH numB
  by_cases h : j < 8
  · rw [if_pos h, getD_app_l _ _ _ (by rw [enc_len]; exact h), enc_getD 8 _ j h, e2, show 8 - 1 - j = 7 - j from by omega]
    omega
  · rw [if_neg h, getD_app_r _ _ _ (by rw [enc_len]; omega), enc_len, enc_getD 8 _ (j - 8) (by omega), e2, show 8 - 1 - (j - 8) = 15 - j from by omega]
    omega
def Word64 (n : Nat × Nat) : Prop := n.1 < 18446744073709551616 ∧ n.2 < 18446744073709551616
theorem numbytes_any (n : Nat × Nat) (w : World) (h : Word64 n) :
    Calls Try.prog 42 #[.agg #[.int .u64 (n.1 : Nat), .int .u64 (n.2 : Nat)]] w fun e w' => ∃ B, w.heap.size ≤ B ∧ B < w'.heap.size ∧ e = .returned (.slice (some ⟨B, 0, none⟩) 16 16) ∧ (∀ j, j < 16 → w'.cell? ⟨B, j, none⟩ = some (.int .u8 ((numB n).getD j 0 : Nat))) ∧ Below w.heap.size w w' := by
  refine (bytes_any _ _ w ⟨by omega, by have := h.1; omega⟩ ⟨by omega, by have := h.2; omega⟩).mono ?_
  rintro e w' ⟨B, h1, h2, h3, h4, h5⟩
  exact ⟨B, h1, h2, h3, fun j hj => by rw [h4 j hj, bH_getD n j hj], h5⟩

/-- Numbers in blocks of which N holds. -/
def NumsOff (w : World) (N : Nat → Prop) (v : Value) (L : List (Nat × Nat)) : Prop :=
  L.length ≤ 1000 ∧ ∃ p c, v = .slice p L.length c ∧ ∀ i, i < L.length → ∃ b off, p = some ⟨b, off, none⟩ ∧ N b ∧ b < w.heap.size ∧ w.cell? ⟨b, off + i * 2, none⟩ = some (.int .u64 ((L.getD i (0, 0)).1 : Nat)) ∧ w.cell? ⟨b, off + i * 2 + 1, none⟩ = some (.int .u64 ((L.getD i (0, 0)).2 : Nat)) ∧ Word64 (L.getD i (0, 0))
/-- The bytes of the first k numbers. -/
def numsB (L : List (Nat × Nat)) (k : Nat) : List Nat := (L.take k).flatMap numB
theorem numsB_succ (L : List (Nat × Nat)) (k : Nat) (h : k < L.length) : numsB L (k + 1) = numsB L k ++ numB (L.getD k (0, 0)) := by
  unfold numsB
  rw [List.take_succ_eq_append_getElem (i := k) (l := L) h, List.flatMap_append]
  simp only [List.getD, List.getElem?_eq_getElem h, Option.getD_some, List.flatMap_cons, List.flatMap_nil, List.append_nil]
theorem numsB_len (L : List (Nat × Nat)) (k : Nat) (h : k ≤ L.length) : (numsB L k).length = 16 * k := by
  induction k with
  | zero => simp [numsB]
  | succ k ih => rw [numsB_succ L k (by omega), List.length_append, ih (by omega), numB_len]; omega
theorem numsB_all (L : List (Nat × Nat)) (k : Nat) (h : L.length ≤ k) : numsB L k = L.flatMap numB := by unfold numsB; rw [List.take_of_length_le h]

set_option maxHeartbeats 2000000 in
theorem wnum_any (pv : Value) (L : List (Nat × Nat)) (w : World) (b : Nat) (v : Value) (l : List Nat) (h : WrAt w b v l) (hp : NumsOff w (Far b v) pv L) (hT : l.length ≤ 1000000) :
    Calls Try.prog 26 #[.pointer (some ⟨b, 0, none⟩), pv] w fun e w' => ∃ v', e = .returned (.pointer (some ⟨b, 0, none⟩)) ∧ WrAt w' b v' (l ++ L.flatMap numB) ∧ WStep w w' b v v' := by
  obtain ⟨hm, p, c, rfl, hc⟩ := id hp
  have hm0 : (0 : Int) ≤ (L.length : Int) := by omega
  have hm1 : (L.length : Int) ≤ 1000 := by omega
  go_enter Try.func26, Try.ntmps26
  go_wp2
  go_loopw [9] (fun i wr => ∃ (k : Nat) (vk : Value), k ≤ L.length ∧ i = .int .i64 k ∧ WrAt wr b vk (l ++ numsB L k) ∧ WStep w wr b v vk) (fun i _ => L.length - (intOf i).toNat)
  case atStart => exact ⟨0, v, Nat.zero_le _, rfl, by simpa [numsB] using h, WStep.refl _ _ _⟩
  case round =>
    obtain ⟨k, vk, hk, rfl, hw, hs⟩ := hrel
    by_cases hlt : k < L.length
    · obtain ⟨bb, off, rfl, hN, hbb, hc0, hc1, hw64⟩ := hc k hlt
      have d0 := (World.cell?_of_block (a := ⟨bb, off + k * 2, none⟩) (hs.far hN hbb)).trans hc0
      have d1 := (World.cell?_of_block (a := ⟨bb, off + k * 2 + 1, none⟩) (hs.far hN hbb)).trans hc1
      have hsu := numsB_succ L k hlt
      have hle := numsB_len L k (by omega)
      have HS : Hid (numsB L (k + 1) = numsB L k ++ numB (L.getD k (0, 0))) := hsu
      have hlen : (l ++ numsB L k).length ≤ 1016000 := by rw [List.length_append, hle]; omega
      clear hsu hc hp hc0 hc1 hle
      generalize L.getD k (0, 0) = nn at *
      have g0 : (0 : Int) ≤ (k : Int) := by omega
      have g1 : (k : Int) < (L.length : Int) := by omega
      go_wp2_with (go_at_call 42; refine stop ?_)
      have hw1 := hw.later (below1 wr (.cells #[.int .u64 (nn.1 : Nat), .int .u64 (nn.2 : Nat)] 26))
      have hs1 : WStep w (wr.alloc (.cells #[.int .u64 (nn.1 : Nat), .int .u64 (nn.2 : Nat)] 26)) b v vk := hs.trans (WStep.of (below1 wr _) b vk)
      refine (numbytes_any nn _ hw64).mono ?_
      generalize wr.alloc (.cells #[.int .u64 (nn.1 : Nat), .int .u64 (nn.2 : Nat)] 26) = w1 at *
      rintro e w2 ⟨B, hB1, hB2, rfl, hcel, hb2⟩
      have hw2 := hw1.later hb2
      have hs2 := hs1.trans (WStep.of hb2 b vk)
      have hfB : Far b vk B := hw1.far hB1
      clear hw1 hs1 hb2 hw hs
      go_wp2_with (go_at_call 27; refine stop ?_)
      have hw3 := hw2.later (below1 w2 (.cells #[.slice (some ⟨B, 0, none⟩) 16 16] 32))
      have hs3 : WStep w (w2.alloc (.cells #[.slice (some ⟨B, 0, none⟩) 16 16] 32)) b v vk := hs2.trans (WStep.of (below1 w2 _) b vk)
      have hpo : PartsOff (w2.alloc (.cells #[.slice (some ⟨B, 0, none⟩) 16 16] 32)) (Far b vk) (.slice (some ⟨w2.heap.size, 0, none⟩) 1 1) [numB nn] := by
        refine ⟨by simp [maxLen], _, _, rfl, fun i hi => ?_⟩
        obtain rfl : i = 0 := by simpa using hi
        refine ⟨_, 0, .slice (some ⟨B, 0, none⟩) 16 16, rfl, hw2.far (Nat.le_refl _), by simp, by rw [World.cell?_alloc_at _ _ _ _ rfl]; rfl, ?_⟩
        refine ⟨numB_w8 nn, by rw [show ([numB nn].getD 0 []) = numB nn from rfl, numB_len]; simp [maxLen], _, 16, by rw [show ([numB nn].getD 0 []) = numB nn from rfl, numB_len], fun j hj => ⟨B, 0, rfl, hfB, by simp; omega, ?_⟩⟩
        rw [show ([numB nn].getD 0 []) = numB nn from rfl, numB_len] at hj
        rw [World.cell?_of_block (w := w2) (a := ⟨B, 0 + j, none⟩) (heap_alloc_old w2 _ hB2), Nat.zero_add]
        exact hcel j hj
      refine (raw_any _ [numB nn] _ b vk _ hw3 hpo (by simp only [List.flatten_cons, List.flatten_nil, List.append_nil, numB_len]; omega)).mono ?_
      rintro e w4 ⟨v4, rfl, hw4, hs4⟩
      have hs5 := hs3.trans hs4
      simp only [List.flatten_cons, List.flatten_nil, List.append_nil] at hw4
      rw [List.append_assoc, ← HS.out] at hw4
      clear hw3 hs3 hpo hs4 hw2 hs2
      go_wp2
      go_roundw
      case rel => exact ⟨k + 1, _, by omega, by go_num, hw4, hs5⟩
      case measure => simp [intOf]; omega
    · rw [numsB_all L k (by omega)] at hw
      go_wp2
      go_ret
      exact ⟨_, rfl, hw, hs⟩

theorem wbytes_any (w : World) (b : Nat) (v : Value) (l : List Nat) (h : WrAt w b v l) (hl : l.length ≤ 1048576) :
    Calls Try.prog 28 #[.pointer (some ⟨b, 0, none⟩)] w fun e w' => ∃ v', e = .returned v' ∧ Own w' w.heap.size v' l ∧ Below w.heap.size w w' := by
  have c0 := h.row.cell 0
  simp only [List.getElem?_toArray, List.getElem?_cons_zero] at c0
  have hb := h.own.bytes h.w8 (by unfold maxLen; omega)
  obtain ⟨p, n, c, rfl, hn⟩ := h.own.form
  clear hn
  go_enter Try.func28, Try.ntmps28
  go_wp2_with (go_at_call 40; refine stop ?_)
  refine (clone_any _ l w hb hl).mono ?_
  rintro e w1 ⟨v', rfl, ho, hb1⟩
  obtain ⟨p', n', c', rfl, hn'⟩ := ho.form
  clear hn'
  go_wp2
  go_ret
  exact ⟨_, rfl, ho, hb1⟩
end Go.Proofs.Ytekpkbmelhgneaa
