
/-
  Plain mathematics of growth: what shows that a tree grew leads to both roots; what leads to both has the young tree's own first part and sides, or hashes clash.
-/
import Derived.Test.YtepohpniflmblaaDoorClU
import Derived.Test.YtepohpniflmblaaDoorHiI
namespace Go.Proofs.YtepohpniflmblaaDoor
set_option maxRecDepth 100000
set_option linter.unusedVariables false

theorem split_same {n m : Nat} (h : 2 ≤ n) (h1 : split n < m) (h2 : m ≤ n) : split m = split n := by
  unfold split at *
  congr 1
  have hne : n - 1 ≠ 0 := by omega
  have a1 := Nat.log2_self_le hne
  have a2 : n - 1 < 2 ^ (Nat.log2 (n - 1) + 1) := Nat.lt_log2_self
  have hm : m - 1 ≠ 0 := by have := Nat.one_le_two_pow (n := Nat.log2 (n - 1)); omega
  have b1 : Nat.log2 (n - 1) ≤ Nat.log2 (m - 1) := (Nat.le_log2 hm).2 (by omega)
  have b2 : Nat.log2 (m - 1) < Nat.log2 (n - 1) + 1 := (Nat.log2_lt hm).2 (by omega)
  omega
/-- The hash of the tree that was, behind k sides: what is on the right wasn't there yet. -/
noncomputable def befS (S : List Sd) (P : List (List Nat)) (h : List Nat) : Nat → List Nat
  | 0 => h
  | k + 1 => if (S.getD k Sd.z).l then hsh (joinL (S.getD k Sd.z) (befS S P h k) (P.getD k [])) else befS S P h k
/-- What Grown hashes till then. -/
noncomputable def grwN (S : List Sd) (P : List (List Nat)) (h : List Nat) : Nat → List (List Nat)
  | 0 => []
  | k + 1 => grwN S P h k ++ (if (S.getD k Sd.z).l then [joinL (S.getD k Sd.z) (befS S P h k) (P.getD k [])] else []) ++ [joinL (S.getD k Sd.z) (climbS S P h k) (P.getD k [])]
theorem befS_32 {S : List Sd} {P : List (List Nat)} {h : List Nat} (hh : H32 h) : ∀ k, H32 (befS S P h k)
  | 0 => hh
  | k + 1 => by
    unfold befS
    split
    · exact hsh_32 _
    · exact befS_32 hh k
theorem grwN_len (S : List Sd) (P : List (List Nat)) (h : List Nat) : ∀ k, (grwN S P h k).length ≤ 2 * k
  | 0 => Nat.le_refl _
  | k + 1 => by
    have := grwN_len S P h k
    unfold grwN
    split <;> simp <;> omega
theorem climbN_grw (S : List Sd) (P : List (List Nat)) (h : List Nat) : ∀ k, ∀ x ∈ climbN S P h k, x ∈ grwN S P h k
  | 0, x, hx => hx
  | k + 1, x, hx => by
    have hx' : x ∈ climbN S P h k ++ [joinL (S.getD k Sd.z) (climbS S P h k) (P.getD k [])] := hx
    unfold grwN
    rcases List.mem_append.1 hx' with hx | hx
    · have := climbN_grw S P h k x hx
      simp [this]
    · simp only [List.mem_singleton] at hx
      subst hx
      simp
theorem befS_congr (S : List Sd) (P Q : List (List Nat)) (h : List Nat) : ∀ k, (∀ j, j < k → P.getD j [] = Q.getD j []) → befS S P h k = befS S Q h k
  | 0, _ => rfl
  | k + 1, e => by
    unfold befS
    rw [befS_congr S P Q h k (fun j hj => e j (by omega)), e k (Nat.lt_succ_self k)]
theorem climbS_congr (S : List Sd) (P Q : List (List Nat)) (h : List Nat) : ∀ k, (∀ j, j < k → P.getD j [] = Q.getD j []) → climbS S P h k = climbS S Q h k
  | 0, _ => rfl
  | k + 1, e => by
    unfold climbS
    rw [climbS_congr S P Q h k (fun j hj => e j (by omega)), e k (Nat.lt_succ_self k)]
noncomputable def stepB (L : List (List Nat)) (h : List Nat) (x : Sd) : List Nat := if x.l then hsh (joinL x h (rootL (sideOf L x))) else h
theorem bef_fold (L : List (List Nat)) (S : List Sd) (h : List Nat) : ∀ k, k ≤ S.length → befS S (S.map fun x => rootL (sideOf L x)) h k = (S.take k).foldl (stepB L) h
  | 0, _ => by simp [befS]
  | k + 1, hk => by
    have hk' : k < S.length := by omega
    unfold befS
    rw [bef_fold L S h k (by omega), List.take_succ_eq_append_getElem hk', List.foldl_append]
    simp [List.getD, hk', stepB]
theorem way_early (L : List (List Nat)) (i : Nat) : ∀ (m f t : Nat), t - f ≤ m → f ≤ i → i < t → t ≤ L.length →
    (wayL i true f t).2.foldl (stepF L) (rootL (seg L (wayL i true f t).1 (i + 1))) = rootL (seg L f t) ∧ (wayL i true f t).2.foldl (stepB L) (rootL (seg L (wayL i true f t).1 (i + 1))) = rootL (seg L f (i + 1)) := by
  intro m
  induction m with
  | zero => intro f t h h1 h2; omega
  | succ m ih =>
    intro f t h h1 h2 h3
    by_cases c : t < f + 2 ∨ (true = true ∧ t = i + 1)
    · rw [wayL_stop c]
      have et : t = i + 1 := by rcases c with c | c <;> omega
      subst et
      exact ⟨rfl, rfl⟩
    · have g1 : f + 2 ≤ t := by have : ¬ t < f + 2 := fun h => c (Or.inl h); omega
      have g2 : ¬ (true = true ∧ t = i + 1) := fun h => c (Or.inr h)
      have hs := split_lt (show 2 ≤ t - f by omega)
      have hl := seg_len (L := L) (f := f) h3
      have hr : rootL (seg L f t) = hsh (msgN (rootL (seg L f (f + split (t - f)))) (rootL (seg L (f + split (t - f)) t))) := by
        rw [rootL_two (by omega), hl, seg_take (by omega), seg_drop]
      by_cases g3 : i < f + split (t - f)
      · rw [wayL_low g1 g2 g3, hr]
        obtain ⟨i1, i2⟩ := ih f (f + split (t - f)) (by omega) h1 g3 (by omega)
        simp only [List.foldl_append]
        rw [i1, i2]
        exact ⟨rfl, rfl⟩
      · rw [wayL_high g1 g2 g3, hr]
        obtain ⟨i1, i2⟩ := ih (f + split (t - f)) t (by omega) (by omega) h2 h3
        simp only [List.foldl_append]
        rw [i1, i2]
        refine ⟨rfl, ?_⟩
        have hl2 := seg_len (L := L) (f := f) (show i + 1 ≤ L.length by omega)
        have e := split_same (n := t - f) (m := i + 1 - f) (by omega) (by omega) (by omega)
        have hr2 : rootL (seg L f (i + 1)) = hsh (msgN (rootL (seg L f (f + split (t - f)))) (rootL (seg L (f + split (t - f)) (i + 1)))) := by
          rw [rootL_two (by omega), hl2, e, seg_take (by omega), seg_drop]
        rw [hr2]
        rfl
/-- Sides that are the tree's own lead to both roots. -/
theorem grow_leads {L : List (List Nat)} {m : Nat} (h1 : 0 < m) (h2 : m ≤ L.length) (P : List (List Nat)) (hP : ∀ k, k < (wayL (m - 1) true 0 L.length).2.length → P.getD k [] = rootL (sideOf L ((wayL (m - 1) true 0 L.length).2.getD k Sd.z))) :
    climbS (wayL (m - 1) true 0 L.length).2 P (rootL (seg L (wayL (m - 1) true 0 L.length).1 m)) (wayL (m - 1) true 0 L.length).2.length = rootL L ∧
    befS (wayL (m - 1) true 0 L.length).2 P (rootL (seg L (wayL (m - 1) true 0 L.length).1 m)) (wayL (m - 1) true 0 L.length).2.length = rootL (L.take m) := by
  obtain ⟨e1, e2⟩ := way_early L (m - 1) L.length 0 L.length (by omega) (Nat.zero_le _) (by omega) (Nat.le_refl _)
  rw [show m - 1 + 1 = m by omega] at e1 e2
  generalize (wayL (m - 1) true 0 L.length).1 = F at *
  generalize (wayL (m - 1) true 0 L.length).2 = S at *
  have hQ : ∀ j, j < S.length → P.getD j [] = (S.map fun x => rootL (sideOf L x)).getD j [] := fun j hj => by
    rw [hP j hj]; simp [List.getD, hj]
  constructor
  · rw [climbS_congr S P _ _ _ hQ, climb_fold L S _ _ (Nat.le_refl _), List.take_length, e1, seg_all]
  · rw [befS_congr S P _ _ _ hQ, bef_fold L S _ _ (Nat.le_refl _), List.take_length, e2]
    unfold seg
    simp
/-- The first part that Grown begins with, and the hashes beside. -/
def fstG (F : Nat) (old : List Nat) (P : List (List Nat)) : List Nat := if 0 < F ∧ P ≠ [] then P.getD 0 [] else old
def othG (F : Nat) (P : List (List Nat)) : List (List Nat) := if 0 < F ∧ P ≠ [] then P.drop 1 else P
/-- Does it show growth? (0 < m < n) -/
def GrownP (m n : Nat) (old young : List Nat) (P : List (List Nat)) : Prop :=
  (othG (wayL (m - 1) true 0 n).1 P).length = (wayL (m - 1) true 0 n).2.length ∧
  befS (wayL (m - 1) true 0 n).2 (othG (wayL (m - 1) true 0 n).1 P) (fstG (wayL (m - 1) true 0 n).1 old P) (wayL (m - 1) true 0 n).2.length = old ∧
  climbS (wayL (m - 1) true 0 n).2 (othG (wayL (m - 1) true 0 n).1 P) (fstG (wayL (m - 1) true 0 n).1 old P) (wayL (m - 1) true 0 n).2.length = young
open Classical in
noncomputable def grownN (m n : Nat) (old : List Nat) (P : List (List Nat)) : List (List Nat) :=
  if (othG (wayL (m - 1) true 0 n).1 P).length = (wayL (m - 1) true 0 n).2.length then grwN (wayL (m - 1) true 0 n).2 (othG (wayL (m - 1) true 0 n).1 P) (fstG (wayL (m - 1) true 0 n).1 old P) (wayL (m - 1) true 0 n).2.length else []
theorem fstG_32 {F : Nat} {old : List Nat} {P : List (List Nat)} (h : H32 old) (hP : ∀ x ∈ P, H32 x) : H32 (fstG F old P) := by
  unfold fstG
  split
  · rename_i hc
    cases P with
    | nil => exact absurd rfl hc.2
    | cons a l => exact hP a (by simp)
  · exact h
theorem othG_32 {F : Nat} {P : List (List Nat)} (hP : ∀ x ∈ P, H32 x) : ∀ x ∈ othG F P, H32 x := by
  unfold othG
  split
  · exact fun x hx => hP x (List.mem_of_mem_drop hx)
  · exact hP
theorem sides_at (S : List Sd) (L : List (List Nat)) {k : Nat} (hk : k < S.length) : (S.map fun x => rootL (sideOf L x)).getD k [] = rootL (sideOf L (S.getD k Sd.z)) := by simp [List.getD, hk]
/-- What the tree itself tells shows its growth. -/
theorem growL_parts {L : List (List Nat)} {m : Nat} (h1 : 0 < m) (h2 : m ≤ L.length) (old : List Nat) (ho : old = rootL (L.take m)) :
    othG (wayL (m - 1) true 0 L.length).1 (growL m L.length L) = (wayL (m - 1) true 0 L.length).2.map (fun x => rootL (sideOf L x)) ∧ fstG (wayL (m - 1) true 0 L.length).1 old (growL m L.length L) = rootL (seg L (wayL (m - 1) true 0 L.length).1 m) := by
  have hF := (wayL_ok L.length (m - 1) true 0 L.length (by omega) (Nat.zero_le _) (by omega)).2.2
  unfold othG fstG growL pathL
  by_cases h0 : 0 < (wayL (m - 1) true 0 L.length).1
  · rw [if_pos h0]
    simp only [h0, List.cons_append, List.nil_append, ne_eq, reduceCtorEq, not_false_eq_true, and_self, if_true, List.drop_succ_cons, List.drop_zero, true_and]
    rfl
  · rw [if_neg h0]
    simp only [h0, false_and, if_false, List.nil_append, true_and]
    have hz : (wayL (m - 1) true 0 L.length).1 = 0 := by omega
    rw [hz, ho]
    unfold seg
    simp
theorem grown_true {L : List (List Nat)} {m : Nat} (h1 : 0 < m) (h2 : m ≤ L.length) : GrownP m L.length (rootL (L.take m)) (rootL L) (growL m L.length L) := by
  obtain ⟨e1, e2⟩ := growL_parts h1 h2 _ rfl
  unfold GrownP
  rw [e1, e2]
  obtain ⟨q1, q2⟩ := grow_leads h1 h2 _ (fun k hk => sides_at _ L hk)
  exact ⟨by rw [List.length_map], q2, q1⟩
/-- What shows that a tree grew out of another one: then the other one is its beginning, or hashes clash. -/
theorem grown_own {L : List (List Nat)} (hL : ∀ x ∈ L, H32 x) {m : Nat} (h1 : 0 < m) (h2 : m ≤ L.length) {old : List Nat} (ho : H32 old) {P : List (List Nat)} (hP : ∀ x ∈ P, H32 x) (h : GrownP m L.length old (rootL L) P) :
    ClN (grownN m L.length old P ++ rootN L) ∨ old = rootL (L.take m) := by
  obtain ⟨a, b, c⟩ := h
  unfold grownN
  rw [if_pos a]
  have hfs := fstG_32 (F := (wayL (m - 1) true 0 L.length).1) ho hP
  have hos := othG_32 (F := (wayL (m - 1) true 0 L.length).1) hP
  have hw := climb_own L hL (m - 1) true _ hfs _ hos L.length 0 L.length (by omega) (Nat.zero_le _) (by omega) (Nat.le_refl _) (by omega) (by rw [c, seg_all])
  rcases hw with hc | ⟨p1, p2⟩
  · rw [seg_all] at hc
    exact Or.inl (hc.mono (by
      intro x hx
      rcases List.mem_append.1 hx with hx | hx
      · exact List.mem_append_left _ (climbN_grw _ _ _ _ x hx)
      · exact List.mem_append_right _ hx))
  · rw [show m - 1 + 1 = m by omega] at p1
    rw [p1] at b
    have := (grow_leads h1 h2 _ p2).2
    exact Or.inr (by rw [← b, this])
end Go.Proofs.YtepohpniflmblaaDoor
