/-
  Plain: strings of decimal digits are told apart by their numbers. No program in sight.
-/
import Derived.Test.YtcmjinkhfgmgaaaPar
namespace Go.Proofs.Ytcmjinkhfgmgaaa

theorem valOf_nil : valOf [] = 0 := rfl
theorem snoc_cases (l : List Int) : l = [] ∨ ∃ l' c, l = l' ++ [c] := by
  rcases List.eq_nil_or_concat l with h | ⟨l', c, h⟩
  · exact .inl h
  · exact .inr ⟨l', c, by rw [h, List.concat_eq_append]⟩

/-- Digits, with no nought ahead. -/
def canon0 (l : List Int) : Prop := (∀ c ∈ l, 48 ≤ c ∧ c ≤ 57) ∧ l.getD 0 0 ≠ 48
theorem canon0_prefix {l : List Int} {c : Int} (h : canon0 (l ++ [c])) : canon0 l := by
  refine ⟨fun d hd => h.1 d (by simp [hd]), ?_⟩
  cases l with
  | nil => decide
  | cons x l => exact h.2
theorem canon0_pos : ∀ (n : Nat) (l : List Int), l.length = n → canon0 l → l ≠ [] → 0 < valOf l
  | 0, l, hl, _, hne => absurd (List.eq_nil_of_length_eq_zero hl) hne
  | n + 1, l, hl, h, _ => by
    rcases snoc_cases l with rfl | ⟨l', c, rfl⟩
    · simp at hl
    · rw [valOf_snoc]
      cases l' with
      | nil =>
        have h1 := h.1 c (by simp)
        have h2 : c ≠ 48 := h.2
        omega
      | cons x l'' =>
        have := canon0_pos n (x :: l'') (by simpa using hl) (canon0_prefix h) (by simp)
        omega
theorem canon0_uniq : ∀ (n : Nat) (l m : List Int), l.length = n → canon0 l → canon0 m → valOf l = valOf m → l = m
  | 0, l, m, hl, _, hm, hv => by
    obtain rfl := List.eq_nil_of_length_eq_zero hl
    rcases snoc_cases m with rfl | ⟨m', c, rfl⟩
    · rfl
    · have := canon0_pos _ _ rfl hm (by simp)
      rw [valOf_nil] at hv; omega
  | n + 1, l, m, hl, h, hm, hv => by
    rcases snoc_cases l with rfl | ⟨l', c, rfl⟩
    · simp at hl
    rcases snoc_cases m with rfl | ⟨m', d, rfl⟩
    · have := canon0_pos _ _ rfl h (by simp)
      rw [valOf_nil] at hv; omega
    · rw [valOf_snoc, valOf_snoc] at hv
      have c1 := h.1 c (by simp)
      have d1 := hm.1 d (by simp)
      have e1 : c = d := by omega
      have e2 : valOf l' = valOf m' := by omega
      rw [canon0_uniq n l' m' (by simpa using hl) (canon0_prefix h) (canon0_prefix hm) e2, e1]

theorem valOf_lt (l : List Int) (h : ∀ c ∈ l, 48 ≤ c ∧ c ≤ 57) : valOf l < 10 ^ l.length := by
  generalize hn : l.length = n
  induction n generalizing l with
  | zero => obtain rfl := List.eq_nil_of_length_eq_zero hn; decide
  | succ n ih =>
    rcases snoc_cases l with rfl | ⟨l', c, rfl⟩
    · simp at hn
    · have := ih l' (fun d hd => h d (by simp [hd])) (by simpa using hn)
      have hc := h c (by simp)
      rw [valOf_snoc, Nat.pow_succ]
      omega
theorem valOf_ge (l : List Int) (h : canon0 l) (hne : l ≠ []) : 10 ^ (l.length - 1) ≤ valOf l := by
  generalize hn : l.length = n
  induction n generalizing l with
  | zero => exact absurd (List.eq_nil_of_length_eq_zero hn) hne
  | succ n ih =>
    rcases snoc_cases l with rfl | ⟨l', c, rfl⟩
    · simp at hn
    · rw [valOf_snoc]
      cases l' with
      | nil =>
        have := canon0_pos _ _ rfl h (by simp)
        simp at hn
        subst hn
        rw [valOf_snoc] at this
        simp only [Nat.zero_add, Nat.sub_self, Nat.pow_zero]
        omega
      | cons x l'' =>
        have := ih (x :: l'') (canon0_prefix h) (by simp) (by simpa using hn)
        simp at hn
        obtain ⟨m, rfl⟩ : ∃ m, n = m + 1 := ⟨n - 1, by omega⟩
        simp only [Nat.add_sub_cancel] at this ⊢
        rw [Nat.pow_succ]
        omega

theorem good_canon {l : List Int} (h : good l) (h0 : l ≠ [48]) : canon0 l := by
  refine ⟨h.2.2, fun e => h0 ?_⟩
  have := h.2.1 e
  match l, this with
  | [c], _ => have e' : c = 48 := e; rw [e']
theorem good_dec (n : Nat) (hn : n < 10 ^ 39) : good (dec n) := by
  refine ⟨fun h => ?_, fun h => ?_, dec_digit n⟩
  · have := dec_length n; rw [h] at this; simp at this
  · have hl := dec_length n
    rcases Nat.lt_or_ge 1 (dec n).length with h1 | h1
    · obtain ⟨c, l, e, hc⟩ := dec_head n hn h1
      rw [e] at h
      have h' : c = 48 := h
      omega
    · omega
theorem dec_valOf {l : List Int} (h : good l) (hl : l.length ≤ 39) : dec (valOf l) = l := by
  have hlt : valOf l < 10 ^ 39 := Nat.lt_of_lt_of_le (valOf_lt l h.2.2) (Nat.pow_le_pow_right (by decide) hl)
  by_cases h0 : l = [48]
  · subst h0; decide
  · have hc := good_canon h h0
    have hp := canon0_pos _ _ rfl hc h.1
    have hd : canon0 (dec (valOf l)) := good_canon (good_dec _ hlt) (fun e => by
      have := valOf_dec _ hlt
      rw [e] at this
      have e2 : valOf [48] = 0 := by decide
      omega)
    exact canon0_uniq _ _ _ rfl hd hc (valOf_dec _ hlt)

theorem bl_str (xs : List Int) (h : ∀ c ∈ xs, 48 ≤ c ∧ c ≤ 57) : bl (strOfNums xs) = xs := by
  rw [bl, strOfNums_data, List.map_map]
  conv => rhs; rw [← List.map_id xs]
  apply List.map_congr_left
  intro c hc
  have := h c hc
  simp
  omega
theorem str_bl (s : ByteArray) : strOfNums (bl s) = s := by
  have e : (strOfNums (bl s)).data.toList = s.data.toList := by
    rw [strOfNums_data, bl, List.map_map]
    conv => rhs; rw [← List.map_id s.data.toList]
    apply List.map_congr_left
    intro c hc
    simp
  cases s with
  | mk d => 
    cases hh : strOfNums (bl ⟨d⟩) with
    | mk d' => rw [hh] at e; simp at e; rw [e]

theorem foldl_val (l : List Int) : ∀ v : Nat, l.foldl (fun v c => v * 10 + (c - 48).toNat) v = v * 10 ^ l.length + valOf l := by
  induction l with
  | nil => intro v; simp [valOf]
  | cons c l ih =>
    intro v
    have e : valOf (c :: l) = (0 * 10 + (c - 48).toNat) * 10 ^ l.length + valOf l := by show List.foldl _ _ _ = _; rw [List.foldl_cons, ih]
    rw [List.foldl_cons, ih, e, List.length_cons, Nat.pow_succ, Nat.add_mul, Nat.zero_mul, Nat.zero_add, Nat.mul_assoc, Nat.mul_comm 10, Nat.add_assoc]
theorem valOf_cons (c : Int) (l : List Int) : valOf (c :: l) = (c - 48).toNat * 10 ^ l.length + valOf l := by
  show List.foldl _ _ _ = _
  rw [List.foldl_cons, foldl_val]
  simp

theorem less_val : ∀ (a b : List UInt8), a.length = b.length → (∀ c ∈ a.map (fun x => (x.toNat : Int)), 48 ≤ c ∧ c ≤ 57) → (∀ c ∈ b.map (fun x => (x.toNat : Int)), 48 ≤ c ∧ c ≤ 57) →
    valOf (b.map (fun x => (x.toNat : Int))) < valOf (a.map (fun x => (x.toNat : Int))) → (Op.bytesLess a b || a == b) = false
  | [], [], _, _, _, h => by simp at h
  | [], _ :: _, h, _, _, _ => by simp at h
  | _ :: _, [], h, _, _, _ => by simp at h
  | x :: a, y :: b, hl, ha, hb, hv => by
    simp only [List.map_cons] at ha hb hv
    rw [valOf_cons, valOf_cons] at hv
    have hl' : a.length = b.length := by simpa using hl
    have va := valOf_lt (a.map (fun x => (x.toNat : Int))) (fun c hc => ha c (by simp [hc]))
    have vb := valOf_lt (b.map (fun x => (x.toNat : Int))) (fun c hc => hb c (by simp [hc]))
    simp only [List.length_map] at va vb hv
    rw [← hl'] at vb hv
    have hx := ha _ (List.mem_cons_self ..)
    have hy := hb _ (List.mem_cons_self ..)
    have ih := less_val a b hl' (fun c hc => ha c (by simp [hc])) (fun c hc => hb c (by simp [hc]))
    generalize 10 ^ a.length = t at *
    rcases Nat.lt_trichotomy x.toNat y.toNat with h | h | h
    · exfalso
      have e : ((x.toNat : Int) - 48).toNat + 1 ≤ ((y.toNat : Int) - 48).toNat := by omega
      have := Nat.mul_le_mul_right t e
      rw [Nat.add_mul, Nat.one_mul] at this
      omega
    · have e : x = y := UInt8.toNat_inj.1 h
      subst e
      have := ih (by omega)
      simpa [Op.bytesLess] using this
    · have n1 : ¬ x < y := by rw [UInt8.lt_iff_toNat_lt]; omega
      have n3 : x ≠ y := fun e => by rw [e] at h; omega
      simp [Op.bytesLess, n1, n3]
theorem gtr_str (s t : ByteArray) (hl : s.size = t.size) (hs : ∀ c ∈ bl s, 48 ≤ c ∧ c ≤ 57) (ht : ∀ c ∈ bl t, 48 ≤ c ∧ c ≤ 57) (h : valOf (bl t) < valOf (bl s)) : (Op.bytesLess s.toList t.toList || s.toList == t.toList) = false := by
  rw [ByteArray.toList_eq, ByteArray.toList_eq]
  exact less_val _ _ (by simpa using hl) hs ht h
end Go.Proofs.Ytcmjinkhfgmgaaa
