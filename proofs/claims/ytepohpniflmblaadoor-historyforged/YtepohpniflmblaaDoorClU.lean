
/-
  Plain mathematics of trees of hashes: what leads to a root is the tree's own, or two unlike ones among what was hashed have one hash.
-/
import Derived.Test.YtepohpniflmblaaDoorHiO
namespace Go.Proofs.YtepohpniflmblaaDoor
set_option maxRecDepth 100000
set_option linter.unusedVariables false

/-- Two unlike ones of one hash. -/
def ClN (N : List (List Nat)) : Prop := ∃ x ∈ N, ∃ y ∈ N, x ≠ y ∧ hsh x = hsh y
theorem ClN.mono {N M : List (List Nat)} (h : ClN N) (hs : ∀ x ∈ N, x ∈ M) : ClN M := by
  obtain ⟨x, hx, y, hy, r⟩ := h
  exact ⟨x, hs x hx, y, hs y hy, r⟩
theorem hsh_or {N : List (List Nat)} {x y : List Nat} (hx : x ∈ N) (hy : y ∈ N) (e : hsh x = hsh y) : ClN N ∨ x = y := by
  by_cases h : x = y
  · exact Or.inr h
  · exact Or.inl ⟨x, hx, y, hy, h, e⟩
theorem msgN_inj {a b c d : List Nat} (ha : H32 a) (hc : H32 c) (e : msgN a b = msgN c d) : a = c ∧ b = d := by
  unfold msgN at e
  exact List.append_inj (List.cons.inj e).2 (ha.1.trans hc.1.symm)
theorem msgL_inj {a b : List Nat} (e : msgL a = msgL b) : a = b := (List.cons.inj e).2
theorem msgLN {a b c : List Nat} : msgL a ≠ msgN b c := by
  intro e
  have := (List.cons.inj e).1
  omega
theorem joinL_inj {x : Sd} {h b h' b' : List Nat} (h1 : H32 h) (h2 : H32 b) (h3 : H32 h') (h4 : H32 b') (e : joinL x h b = joinL x h' b') : h = h' ∧ b = b' := by
  unfold joinL at e
  split at e
  · obtain ⟨p, q⟩ := msgN_inj h2 h4 e; exact ⟨q, p⟩
  · exact msgN_inj h1 h3 e

theorem getD_app_lt {α : Type} (S T : List α) (z : α) {k : Nat} (h : k < S.length) : (S ++ T).getD k z = S.getD k z := by
  rw [List.getD_eq_getElem?_getD, List.getElem?_append_left h, List.getD_eq_getElem?_getD]
theorem climbS_app (S T : List Sd) (P : List (List Nat)) (h : List Nat) : ∀ k, k ≤ S.length → climbS (S ++ T) P h k = climbS S P h k
  | 0, _ => rfl
  | k + 1, hk => by
    show hsh (joinL ((S ++ T).getD k Sd.z) (climbS (S ++ T) P h k) (P.getD k [])) = hsh (joinL (S.getD k Sd.z) (climbS S P h k) (P.getD k []))
    rw [climbS_app S T P h k (by omega), getD_app_lt S T _ (by omega)]
theorem climbN_app (S T : List Sd) (P : List (List Nat)) (h : List Nat) : ∀ k, k ≤ S.length → climbN (S ++ T) P h k = climbN S P h k
  | 0, _ => rfl
  | k + 1, hk => by
    show climbN (S ++ T) P h k ++ [joinL ((S ++ T).getD k Sd.z) (climbS (S ++ T) P h k) (P.getD k [])] = climbN S P h k ++ [joinL (S.getD k Sd.z) (climbS S P h k) (P.getD k [])]
    rw [climbN_app S T P h k (by omega), climbS_app S T P h k (by omega), getD_app_lt S T _ (by omega)]
theorem getD_snoc {α : Type} (S : List α) (x z : α) : (S ++ [x]).getD S.length z = x := by simp [List.getD]
theorem getD_snoc_lt {α : Type} (S : List α) (x z : α) {k : Nat} (h : k < S.length) : (S ++ [x]).getD k z = S.getD k z := by
  rw [List.getD_eq_getElem?_getD, List.getElem?_append_left h, List.getD_eq_getElem?_getD]
theorem seg_ok {L : List (List Nat)} (h : ∀ x ∈ L, H32 x) (f t : Nat) : ∀ x ∈ seg L f t, H32 x := fun x hx => h x (List.mem_of_mem_drop (List.mem_of_mem_take hx))
theorem rootL_32 {L : List (List Nat)} (h : ∀ x ∈ L, H32 x) : H32 (rootL L) := root_32 _ L (Nat.le_refl _) h
theorem getD_32 {L : List (List Nat)} (h : ∀ x ∈ L, H32 x) {i : Nat} (hi : i < L.length) : H32 (L.getD i []) := by
  rw [List.getD_eq_getElem?_getD, List.getElem?_eq_getElem hi]; exact h _ (List.getElem_mem hi)

/-- Whatever leads to the root of a tree begins with the tree's own, and has its sides, or hashes clash. -/
theorem climb_own (L : List (List Nat)) (hL : ∀ x ∈ L, H32 x) (i : Nat) (ea : Bool) (h : List Nat) (hh : H32 h) (P : List (List Nat)) (hP : ∀ x ∈ P, H32 x) :
    ∀ (m f t : Nat), t - f ≤ m → f ≤ i → i < t → t ≤ L.length → (wayL i ea f t).2.length ≤ P.length → climbS (wayL i ea f t).2 P h (wayL i ea f t).2.length = rootL (seg L f t) →
      ClN (climbN (wayL i ea f t).2 P h (wayL i ea f t).2.length ++ rootN (seg L f t)) ∨
      (h = rootL (seg L (wayL i ea f t).1 (i + 1)) ∧ ∀ k, k < (wayL i ea f t).2.length → P.getD k [] = rootL (sideOf L ((wayL i ea f t).2.getD k Sd.z))) := by
  intro m
  induction m with
  | zero => intro f t h h1 h2; omega
  | succ m ih =>
    intro f t hm h1 h2 h3 hPl he
    by_cases c : t < f + 2 ∨ (ea = true ∧ t = i + 1)
    · rw [wayL_stop c] at he ⊢
      have et : t = i + 1 := by rcases c with c | c <;> omega
      subst et
      exact Or.inr ⟨he, fun k hk => absurd hk (Nat.not_lt_zero k)⟩
    · have g1 : f + 2 ≤ t := by have : ¬ t < f + 2 := fun h => c (Or.inl h); omega
      have g2 : ¬ (ea = true ∧ t = i + 1) := fun h => c (Or.inr h)
      have hs := split_lt (show 2 ≤ t - f by omega)
      have hl := seg_len (L := L) (f := f) h3
      have hr : rootL (seg L f t) = hsh (msgN (rootL (seg L f (f + split (t - f)))) (rootL (seg L (f + split (t - f)) t))) := by
        rw [rootL_two (by omega), hl, seg_take (by omega), seg_drop]
      have hn : rootN (seg L f t) = rootN (seg L f (f + split (t - f))) ++ rootN (seg L (f + split (t - f)) t) ++ [msgN (rootL (seg L f (f + split (t - f)))) (rootL (seg L (f + split (t - f)) t))] := by
        rw [rootN_two (by omega), hl, seg_take (by omega), seg_drop]
      have k1 := rootL_32 (seg_ok hL f (f + split (t - f)))
      have k2 := rootL_32 (seg_ok hL (f + split (t - f)) t)
      by_cases g3 : i < f + split (t - f)
      · rw [wayL_low g1 g2 g3] at he hPl ⊢
        simp only [List.length_append, List.length_singleton] at he hPl ⊢
        generalize hS : (wayL i ea f (f + split (t - f))).2 = S at *
        have e1 : climbS (S ++ [⟨f + split (t - f), t, false⟩]) P h (S.length + 1) = hsh (joinL ⟨f + split (t - f), t, false⟩ (climbS S P h S.length) (P.getD S.length [])) := by
          show hsh (joinL ((S ++ [_]).getD S.length Sd.z) (climbS (S ++ [_]) P h S.length) _) = _
          rw [getD_snoc, climbS_app _ _ _ _ _ (Nat.le_refl _)]
        have e2 : climbN (S ++ [⟨f + split (t - f), t, false⟩]) P h (S.length + 1) = climbN S P h S.length ++ [joinL ⟨f + split (t - f), t, false⟩ (climbS S P h S.length) (P.getD S.length [])] := by
          show climbN (S ++ [_]) P h S.length ++ [joinL ((S ++ [_]).getD S.length Sd.z) (climbS (S ++ [_]) P h S.length) _] = _
          rw [getD_snoc, climbS_app _ _ _ _ _ (Nat.le_refl _), climbN_app _ _ _ _ _ (Nat.le_refl _)]
        rw [e1, hr] at he
        rw [e2, hn]
        rcases hsh_or (N := climbN S P h S.length ++ [joinL ⟨f + split (t - f), t, false⟩ (climbS S P h S.length) (P.getD S.length [])] ++ (rootN (seg L f (f + split (t - f))) ++ rootN (seg L (f + split (t - f)) t) ++ [msgN (rootL (seg L f (f + split (t - f)))) (rootL (seg L (f + split (t - f)) t))])) (by simp) (by simp) he with hc | hq
        · exact Or.inl hc
        · obtain ⟨q1, q2⟩ := msgN_inj (climbS_32 hh _) k1 hq
          rcases ih f (f + split (t - f)) (by omega) h1 g3 (by omega) (by rw [hS]; omega) (by rw [hS]; exact q1) with hc | ⟨p1, p2⟩
          · rw [hS] at hc
            exact Or.inl (hc.mono (by intro x hx; simp only [List.mem_append] at hx ⊢; rcases hx with hx | hx <;> simp [hx]))
          · rw [hS] at p2
            refine Or.inr ⟨p1, fun k hk => ?_⟩
            rcases Nat.lt_or_ge k S.length with hk' | hk'
            · rw [getD_snoc_lt _ _ _ hk']; exact p2 k hk'
            · obtain rfl : k = S.length := by omega
              rw [getD_snoc]; exact q2
      · rw [wayL_high g1 g2 g3] at he hPl ⊢
        simp only [List.length_append, List.length_singleton] at he hPl ⊢
        generalize hS : (wayL i ea (f + split (t - f)) t).2 = S at *
        have e1 : climbS (S ++ [⟨f, f + split (t - f), true⟩]) P h (S.length + 1) = hsh (joinL ⟨f, f + split (t - f), true⟩ (climbS S P h S.length) (P.getD S.length [])) := by
          show hsh (joinL ((S ++ [_]).getD S.length Sd.z) (climbS (S ++ [_]) P h S.length) _) = _
          rw [getD_snoc, climbS_app _ _ _ _ _ (Nat.le_refl _)]
        have e2 : climbN (S ++ [⟨f, f + split (t - f), true⟩]) P h (S.length + 1) = climbN S P h S.length ++ [joinL ⟨f, f + split (t - f), true⟩ (climbS S P h S.length) (P.getD S.length [])] := by
          show climbN (S ++ [_]) P h S.length ++ [joinL ((S ++ [_]).getD S.length Sd.z) (climbS (S ++ [_]) P h S.length) _] = _
          rw [getD_snoc, climbS_app _ _ _ _ _ (Nat.le_refl _), climbN_app _ _ _ _ _ (Nat.le_refl _)]
        rw [e1, hr] at he
        rw [e2, hn]
        have hPs : H32 (P.getD S.length []) := getD_32 hP (by omega)
        rcases hsh_or (N := climbN S P h S.length ++ [joinL ⟨f, f + split (t - f), true⟩ (climbS S P h S.length) (P.getD S.length [])] ++ (rootN (seg L f (f + split (t - f))) ++ rootN (seg L (f + split (t - f)) t) ++ [msgN (rootL (seg L f (f + split (t - f)))) (rootL (seg L (f + split (t - f)) t))])) (by simp) (by simp) he with hc | hq
        · exact Or.inl hc
        · obtain ⟨q2, q1⟩ := msgN_inj hPs k1 hq
          rcases ih (f + split (t - f)) t (by omega) (by omega) h2 h3 (by rw [hS]; omega) (by rw [hS]; exact q1) with hc | ⟨p1, p2⟩
          · rw [hS] at hc
            exact Or.inl (hc.mono (by intro x hx; simp only [List.mem_append] at hx ⊢; rcases hx with hx | hx <;> simp [hx]))
          · rw [hS] at p2
            refine Or.inr ⟨p1, fun k hk => ?_⟩
            rcases Nat.lt_or_ge k S.length with hk' | hk'
            · rw [getD_snoc_lt _ _ _ hk']; exact p2 k hk'
            · obtain rfl : k = S.length := by omega
              rw [getD_snoc]; exact q2

/-- Trees of as many leaves that have one root are one, or hashes clash. -/
theorem root_inj : ∀ (n : Nat) (A B : List (List Nat)), A.length = n → B.length = n → (∀ x ∈ A, H32 x) → (∀ x ∈ B, H32 x) → rootL A = rootL B → ClN (rootN A ++ rootN B) ∨ A = B := by
  intro n
  induction n using Nat.strongRecOn with
  | _ n ih =>
    intro A B hA hB oA oB he
    rcases Nat.lt_or_ge n 2 with h2 | h2
    · match A, B, hA, hB with
      | [], [], _, _ => exact Or.inr rfl
      | [a], [b], _, _ => rw [rootL_one, rootL_one] at he; exact Or.inr (by rw [he])
      | [], _ :: _, h, k => simp at h k; omega
      | _ :: _, [], h, k => simp at h k; omega
      | _ :: _ :: _, _, h, _ => simp at h; omega
      | [_], _ :: _ :: _, h, k => simp at h k; omega
    · have hs := split_lt h2
      have tA : ∀ x ∈ A.take (split n), H32 x := fun x hx => oA x (List.mem_of_mem_take hx)
      have dA : ∀ x ∈ A.drop (split n), H32 x := fun x hx => oA x (List.mem_of_mem_drop hx)
      have tB : ∀ x ∈ B.take (split n), H32 x := fun x hx => oB x (List.mem_of_mem_take hx)
      have dB : ∀ x ∈ B.drop (split n), H32 x := fun x hx => oB x (List.mem_of_mem_drop hx)
      rw [rootL_two (by omega), rootL_two (l := B) (by omega), hA, hB] at he
      rw [rootN_two (by omega), rootN_two (l := B) (by omega), hA, hB]
      rcases hsh_or (N := rootN (A.take (split n)) ++ rootN (A.drop (split n)) ++ [msgN (rootL (A.take (split n))) (rootL (A.drop (split n)))] ++ (rootN (B.take (split n)) ++ rootN (B.drop (split n)) ++ [msgN (rootL (B.take (split n))) (rootL (B.drop (split n)))])) (by simp) (by simp) he with hc | hq
      · exact Or.inl hc
      · obtain ⟨q1, q2⟩ := msgN_inj (rootL_32 tA) (rootL_32 tB) hq
        rcases ih (split n) hs.2 _ _ (by rw [List.length_take]; omega) (by rw [List.length_take]; omega) tA tB q1 with hc | e1
        · exact Or.inl (hc.mono (by intro x hx; simp only [List.mem_append] at hx ⊢; rcases hx with hx | hx <;> simp [hx]))
        · rcases ih (n - split n) (by omega) _ _ (by rw [List.length_drop]; omega) (by rw [List.length_drop]; omega) dA dB q2 with hc | e2
          · exact Or.inl (hc.mono (by intro x hx; simp only [List.mem_append] at hx ⊢; rcases hx with hx | hx <;> simp [hx]))
          · exact Or.inr (by rw [← List.take_append_drop (split n) A, e1, e2, List.take_append_drop])
end Go.Proofs.YtepohpniflmblaaDoor
