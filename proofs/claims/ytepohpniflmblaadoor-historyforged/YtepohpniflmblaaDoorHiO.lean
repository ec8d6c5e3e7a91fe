
/-
  A path leads to the root, on lists; the contract of Climb with a true path.
-/
import Derived.Test.YtepohpniflmblaaDoorHiL
import Derived.Test.YtepohpniflmblaaDoorHiJ
namespace Go.Proofs.YtepohpniflmblaaDoor
open Go.RowKit
set_option maxRecDepth 100000
set_option linter.unusedVariables false
set_option linter.unusedSimpArgs false

/-- The leaves f to t. -/
def seg (L : List (List Nat)) (f t : Nat) : List (List Nat) := (L.drop f).take (t - f)
theorem seg_len {L : List (List Nat)} {f t : Nat} (h2 : t ≤ L.length) : (seg L f t).length = t - f := by
  unfold seg; rw [List.length_take, List.length_drop]; omega
theorem seg_take {L : List (List Nat)} {f t k : Nat} (h : k ≤ t - f) : (seg L f t).take k = seg L f (f + k) := by
  unfold seg
  rw [List.take_take, Nat.add_sub_cancel_left, Nat.min_eq_left h]
theorem seg_drop {L : List (List Nat)} {f t k : Nat} : (seg L f t).drop k = seg L (f + k) t := by
  unfold seg
  rw [List.drop_take, List.drop_drop, Nat.sub_sub]
theorem seg_one {L : List (List Nat)} {f : Nat} (h : f < L.length) : seg L f (f + 1) = [L.getD f []] := by
  unfold seg
  rw [Nat.add_sub_cancel_left]
  rw [List.drop_eq_getElem_cons h, List.take_succ_cons, List.take_zero]
  simp [List.getD, h]
theorem seg_all (L : List (List Nat)) : seg L 0 L.length = L := by unfold seg; simp
/-- One step of a climb. -/
noncomputable def stepF (L : List (List Nat)) (h : List Nat) (x : Sd) : List Nat := hsh (joinL x h (rootL (sideOf L x)))
theorem climb_fold (L : List (List Nat)) (S : List Sd) (h : List Nat) : ∀ k, k ≤ S.length → climbS S (S.map fun x => rootL (sideOf L x)) h k = (S.take k).foldl (stepF L) h
  | 0, _ => by simp [climbS]
  | k + 1, hk => by
    have hk' : k < S.length := by omega
    show hsh (joinL (S.getD k Sd.z) (climbS S (S.map fun x => rootL (sideOf L x)) h k) ((S.map fun x => rootL (sideOf L x)).getD k [])) = _
    rw [climb_fold L S h k (by omega), List.take_succ_eq_append_getElem hk', List.foldl_append]
    simp [List.getD, hk', stepF]
theorem way_root (L : List (List Nat)) (i : Nat) : ∀ (m f t : Nat), t - f ≤ m → f ≤ i → i < t → t ≤ L.length → (wayL i false f t).2.foldl (stepF L) (L.getD i []) = rootL (seg L f t) := by
  intro m
  induction m with
  | zero => intro f t h h1 h2; omega
  | succ m ih =>
    intro f t h h1 h2 h3
    by_cases c : t < f + 2
    · rw [wayL_stop (Or.inl c)]
      obtain rfl : f = i := by omega
      obtain rfl : t = f + 1 := by omega
      rw [seg_one (by omega), rootL_one]
      rfl
    · have g1 : f + 2 ≤ t := by omega
      have g2 : ¬ (false = true ∧ t = i + 1) := fun h => by cases h.1
      have hs := split_lt (show 2 ≤ t - f by omega)
      have hl := seg_len (L := L) (f := f) h3
      have hr : rootL (seg L f t) = hsh (msgN (rootL (seg L f (f + split (t - f)))) (rootL (seg L (f + split (t - f)) t))) := by
        rw [rootL_two (by omega), hl, seg_take (by omega), seg_drop]
      by_cases g3 : i < f + split (t - f)
      · rw [wayL_low g1 g2 g3, hr]
        show ((wayL i false f (f + split (t - f))).2 ++ [_]).foldl _ _ = _
        rw [List.foldl_append, ih f (f + split (t - f)) (by omega) h1 g3 (by omega)]
        rfl
      · rw [wayL_high g1 g2 g3, hr]
        show ((wayL i false (f + split (t - f)) t).2 ++ [_]).foldl _ _ = _
        rw [List.foldl_append, ih (f + split (t - f)) t (by omega) (by omega) h2 h3]
        show hsh (msgN (rootL (seg L f (f + split (t - f)))) _) = _
        rfl
/-- A path leads to the root. -/
theorem climb_root {L : List (List Nat)} {i : Nat} (hi : i < L.length) : climbS (wayL i false 0 L.length).2 (pathL i false L.length L) (L.getD i []) (pathL i false L.length L).length = rootL L := by
  have h := climb_fold L (wayL i false 0 L.length).2 (L.getD i []) (wayL i false 0 L.length).2.length (Nat.le_refl _)
  have e : (pathL i false L.length L).length = (wayL i false 0 L.length).2.length := path_len i false L.length L
  rw [e]
  show climbS _ ((wayL i false 0 L.length).2.map fun x => rootL (sideOf L x)) _ _ = _
  rw [h, List.take_length, way_root L i L.length 0 L.length (by omega) (Nat.zero_le _) hi (Nat.le_refl _), seg_all]
end Go.Proofs.YtepohpniflmblaaDoor
