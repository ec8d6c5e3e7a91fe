
/-
  Plain: the decimal digits of a number, as bytes. No program in sight.
-/
namespace Go.Proofs.Ytfhaphbfbmpbiaa

/-- The digits of a number that is not 0, none of 0; with fuel. -/
def dT : Nat → Nat → List Int
  | 0, _ => []
  | f + 1, n => if n = 0 then [] else dT f (n / 10) ++ [((48 + n % 10 : Nat) : Int)]

/-- The decimal digits of a number below 10^39. -/
def dec (n : Nat) : List Int := dT 38 (n / 10) ++ [((48 + n % 10 : Nat) : Int)]

theorem dT_zero (f : Nat) : dT f 0 = [] := by cases f <;> simp [dT]
theorem dT_succ (f n : Nat) (h : n ≠ 0) : dT (f + 1) n = dT f (n / 10) ++ [((48 + n % 10 : Nat) : Int)] := by simp [dT, h]

theorem dT_length_le (f n : Nat) : (dT f n).length ≤ f := by
  induction f generalizing n with
  | zero => simp [dT]
  | succ f ih =>
    by_cases h : n = 0
    · subst h; simp [dT]
    · rw [dT_succ f n h]; have := ih (n / 10); simp; omega

theorem dT_digit (f n : Nat) : ∀ c ∈ dT f n, 48 ≤ c ∧ c ≤ 57 := by
  induction f generalizing n with
  | zero => simp [dT]
  | succ f ih =>
    by_cases h : n = 0
    · subst h; simp [dT]
    · rw [dT_succ f n h]
      intro c hc
      simp only [List.mem_append, List.mem_singleton] at hc
      rcases hc with hc | rfl
      · exact ih _ c hc
      · omega

theorem dec_digit (n : Nat) : ∀ c ∈ dec n, 48 ≤ c ∧ c ≤ 57 := by
  intro c hc
  simp only [dec, List.mem_append, List.mem_singleton] at hc
  rcases hc with hc | rfl
  · exact dT_digit _ _ c hc
  · omega

theorem dec_length (n : Nat) : 1 ≤ (dec n).length ∧ (dec n).length ≤ 39 := by
  have := dT_length_le 38 (n / 10)
  simp [dec]; omega

/-- The number of digits, the highest first. -/
def valOf (l : List Int) : Nat := l.foldl (fun v c => v * 10 + (c - 48).toNat) 0

theorem valOf_snoc (l : List Int) (c : Int) : valOf (l ++ [c]) = valOf l * 10 + (c - 48).toNat := by simp [valOf]

theorem valOf_dT (f n : Nat) (h : n < 10 ^ f) : valOf (dT f n) = n := by
  induction f generalizing n with
  | zero => simp at h; subst h; simp [dT, valOf]
  | succ f ih =>
    by_cases h0 : n = 0
    · subst h0; simp [dT, valOf]
    · rw [dT_succ f n h0, valOf_snoc, ih (n / 10) (by rw [Nat.pow_succ] at h; omega)]
      omega

theorem valOf_dec (n : Nat) (h : n < 10 ^ 39) : valOf (dec n) = n := by
  rw [dec, valOf_snoc, valOf_dT 38 (n / 10) (by omega)]
  omega

theorem dT_head (f n : Nat) (h : n < 10 ^ f) : n ≠ 0 → ∃ c l, dT f n = c :: l ∧ 49 ≤ c := by
  induction f generalizing n with
  | zero => intro h0; simp at h; omega
  | succ f ih =>
    intro h0
    rw [dT_succ f n h0]
    by_cases h1 : n / 10 = 0
    · rw [h1, dT_zero]
      exact ⟨_, [], rfl, by omega⟩
    · obtain ⟨c, l, e, hc⟩ := ih (n / 10) (by rw [Nat.pow_succ] at h; omega) h1
      exact ⟨c, l ++ [((48 + n % 10 : Nat) : Int)], by rw [e]; rfl, hc⟩

/-- No nought stands ahead of other digits. -/
theorem dec_head (n : Nat) (h : n < 10 ^ 39) (hl : 1 < (dec n).length) : ∃ c l, dec n = c :: l ∧ 49 ≤ c := by
  by_cases h1 : n / 10 = 0
  · simp [dec, h1, dT_zero] at hl
  · obtain ⟨c, l, e, hc⟩ := dT_head 38 (n / 10) (by omega) h1
    exact ⟨c, l ++ [((48 + n % 10 : Nat) : Int)], by rw [dec, e]; rfl, hc⟩

/-- One more round of the loop that writes them. -/
theorem dec_first (n : Nat) : dec n = dT 38 (n / 10) ++ [((48 + n % 10 : Nat) : Int)] := rfl
theorem dec_more {n m p : Nat} {ds : List Int} (h : dec n = dT p m ++ ds) (hm : m ≠ 0) (hp : m < 10 ^ p) : dec n = dT (p - 1) (m / 10) ++ (((48 + m % 10 : Nat) : Int) :: ds) := by
  match p, hp with
  | 0, hp => simp at hp; omega
  | p + 1, _ =>
    rw [h, dT_succ p m hm]
    simp
end Go.Proofs.Ytfhaphbfbmpbiaa
