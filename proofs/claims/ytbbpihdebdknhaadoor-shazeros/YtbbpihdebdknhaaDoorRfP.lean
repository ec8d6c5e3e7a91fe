/-
  Plain reckoning: what the reference lays behind a message, and its words, are those of package sha.
-/
import Derived.Test.YtbbpihdebdknhaaDoorShH
import Derived.Test.YtbbpihdebdknhaaDoorRfM
namespace Go.Proofs.YtbbpihdebdknhaaDoor

def zc (n : Nat) : Nat := (119 - n % 64) % 64
def lenB (n : Nat) : List Nat := (List.range 8).map fun t => n * 8 / 2 ^ (8 * (7 - t)) % 256
theorem zc_free (n : Nat) : padFree n = zc n + 9 := by unfold padFree zc; split <;> omega
theorem pad_eq (n : Nat) : padL n 8 = 128 :: (List.replicate (zc n) 0 ++ lenB n) := by
  have hz := zc_free n
  simp only [padL]
  rw [hz]
  generalize zc n = k
  have e7 : n * 8 / 2 ^ (8 * 0) % 256 = n * 8 / 2 ^ (8 * (7 - 7)) % 256 := rfl
  apply List.ext_getElem
  · simp [lenB]
  · intro i h1 h2
    have hi : i < k + 9 := by simpa using h1
    simp only [List.getElem_set]
    by_cases h0 : i = 0
    · subst h0
      rw [if_neg (by omega), if_neg (by omega), if_neg (by omega), if_neg (by omega), if_neg (by omega), if_neg (by omega), if_neg (by omega), if_neg (by omega), if_pos rfl]
      rfl
    · obtain ⟨j, rfl⟩ : ∃ j, i = j + 1 := ⟨i - 1, by omega⟩
      simp only [List.getElem_cons_succ]
      by_cases h8 : j < k
      · rw [if_neg (by omega), if_neg (by omega), if_neg (by omega), if_neg (by omega), if_neg (by omega), if_neg (by omega), if_neg (by omega), if_neg (by omega), if_neg (by omega), List.getElem_append_left (by simpa using h8)]
        simp
      · rw [List.getElem_append_right (by simpa using h8)]
        simp only [lenB, List.getElem_map, List.getElem_range, List.length_replicate]
        obtain ⟨t, rfl⟩ : ∃ t, j = k + t := ⟨j - k, by omega⟩
        have ht : t < 8 := by omega
        rw [show k + t - k = t from by omega]
        match t, ht with
        | 0, _ => rw [if_pos (by omega)]
        | 1, _ => rw [if_neg (by omega), if_pos (by omega)]
        | 2, _ => rw [if_neg (by omega), if_neg (by omega), if_pos (by omega)]
        | 3, _ => rw [if_neg (by omega), if_neg (by omega), if_neg (by omega), if_pos (by omega)]
        | 4, _ => rw [if_neg (by omega), if_neg (by omega), if_neg (by omega), if_neg (by omega), if_pos (by omega)]
        | 5, _ => rw [if_neg (by omega), if_neg (by omega), if_neg (by omega), if_neg (by omega), if_neg (by omega), if_pos (by omega)]
        | 6, _ => rw [if_neg (by omega), if_neg (by omega), if_neg (by omega), if_neg (by omega), if_neg (by omega), if_neg (by omega), if_pos (by omega)]
        | 7, _ => rw [if_neg (by omega), if_neg (by omega), if_neg (by omega), if_neg (by omega), if_neg (by omega), if_neg (by omega), if_neg (by omega), if_pos (by omega)]
theorem padded_eq (m : List Nat) : m ++ [128] ++ List.replicate (zc m.length) 0 ++ lenB m.length = padded m := by
  unfold padded
  rw [pad_eq]
  simp

/-- Word i of a block. -/
def wd (z : List Nat) (i : Nat) : Nat := z.getD (4 * i) 0 * 16777216 + z.getD (4 * i + 1) 0 * 65536 + z.getD (4 * i + 2) 0 * 256 + z.getD (4 * i + 3) 0
def exR (l : List Nat) (i : Nat) : Nat := (((l.getD (i - 16) 0 + sg0 (l.getD (i - 15) 0)) % 4294967296 + l.getD (i - 7) 0) % 4294967296 + sg1 (l.getD (i - 2) 0)) % 4294967296
def rfL (z : List Nat) : Nat → List Nat
  | 0 => List.replicate 64 0
  | i + 1 => (rfL z i).set i (if i < 16 then wd z i else exR (rfL z i) i)
theorem rfL_len (z : List Nat) : ∀ i, (rfL z i).length = 64
  | 0 => by simp [rfL]
  | i + 1 => by rw [rfL, List.length_set]; exact rfL_len z i
theorem rfL_zero (z : List Nat) (j : Nat) : ∀ i, i ≤ j → (rfL z i).getD j 0 = 0
  | 0, _ => by
    simp only [rfL, List.getD]
    rcases Nat.lt_or_ge j 64 with h | h
    · rw [List.getElem?_replicate, if_pos h]; rfl
    · rw [List.getElem?_replicate, if_neg (by omega)]; rfl
  | i + 1, h => by
    rw [rfL]
    simp only [List.getD, List.getElem?_set]
    rw [if_neg (by omega)]
    exact rfL_zero z j i (by omega)
theorem or_add (x b : Nat) (hx : x < 16777216) (hb : b < 256) : x * 256 % 4294967296 ||| b = x * 256 + b := by
  rw [Nat.mod_eq_of_lt (by omega)]
  have := Nat.two_pow_add_eq_or_of_lt (i := 8) hb x
  rw [Nat.mul_comm x 256]
  exact this.symm
theorem getD_set_same (l : List Nat) (i x : Nat) (h : i < l.length) : (l.set i x).getD i 0 = x := by simp [List.getD, h]
theorem set_step (l : List Nat) (q x b : Nat) (hq : q < l.length) (hx : x < 16777216) (hb : b < 256) : (l.set q x).set q ((l.set q x).getD q 0 * 256 % 4294967296 ||| b) = l.set q (x * 256 + b) := by
  rw [getD_set_same l q x hq, or_add x b hx hb, List.set_set]
theorem pw_rf (z : List Nat) (hz : W8 z) : ∀ q, q ≤ 16 → pwL z (4 * q) = rfL z q
  | 0, _ => rfl
  | q + 1, h => by
    have ih := pw_rf z hz q (by omega)
    have hl := rfL_len z q
    have h0 := rfL_zero z q q (Nat.le_refl _)
    rw [show 4 * (q + 1) = 4 * q + 1 + 1 + 1 + 1 from by omega]
    simp only [pwL]
    rw [ih, rfL, if_pos (by omega), show 4 * q / 4 = q from by omega, show (4 * q + 1) / 4 = q from by omega, show (4 * q + 1 + 1) / 4 = q from by omega, show (4 * q + 1 + 1 + 1) / 4 = q from by omega]
    have b0 := hz.at (4 * q)
    have b1 := hz.at (4 * q + 1)
    have b2 := hz.at (4 * q + 1 + 1)
    have b3 := hz.at (4 * q + 1 + 1 + 1)
    rw [h0, or_add 0 _ (by omega) b0, Nat.zero_mul, Nat.zero_add]
    generalize rfL z q = l at *
    unfold wd
    rw [show 4 * q + 2 = 4 * q + 1 + 1 from rfl, show 4 * q + 3 = 4 * q + 1 + 1 + 1 from rfl]
    generalize z.getD (4 * q) 0 = x0 at *
    generalize z.getD (4 * q + 1) 0 = x1 at *
    generalize z.getD (4 * q + 1 + 1) 0 = x2 at *
    generalize z.getD (4 * q + 1 + 1 + 1) 0 = x3 at *
    rw [set_step l q x0 x1 (by omega) (by omega) b1, set_step l q _ x2 (by omega) (by omega) b2, set_step l q _ x3 (by omega) (by omega) b3]
    rw [show ((x0 * 256 + x1) * 256 + x2) * 256 + x3 = x0 * 16777216 + x1 * 65536 + x2 * 256 + x3 from by omega]
theorem ex_rf (z : List Nat) : ∀ k, exL (rfL z 16) k = rfL z (16 + k)
  | 0 => rfl
  | k + 1 => by
    rw [exL, ex_rf z k, show 16 + (k + 1) = 16 + k + 1 from by omega, rfL, if_neg (by omega), show k + 16 = 16 + k from by omega]
    congr 1
    unfold exW exR
    rw [show 16 + k - 16 = k from by omega, show 16 + k - 15 = k + 1 from by omega, show 16 + k - 7 = k + 9 from by omega, show 16 + k - 2 = k + 14 from by omega]
theorem spread_rf (z : List Nat) (hz : W8 z) : rfL z 64 = spreadF z := by
  unfold spreadF
  rw [show 64 = 4 * 16 from rfl, pw_rf z hz 16 (by omega), ex_rf z 48]
theorem rfL_ok (z : List Nat) (hz : W8 z) : ∀ i, W32 (rfL z i)
  | 0 => by intro x hx; simp [rfL] at hx; omega
  | i + 1 => by
    rw [rfL]
    refine (rfL_ok z hz i).set _ ?_
    split
    · have b0 := hz.at (4 * i)
      have b1 := hz.at (4 * i + 1)
      have b2 := hz.at (4 * i + 2)
      have b3 := hz.at (4 * i + 3)
      unfold wd
      omega
    · exact Nat.mod_lt _ (by decide)
end Go.Proofs.YtbbpihdebdknhaaDoor
