
/-
  An exchange of two leaves: plain mathematics, and the store of a hash in the midst of a slice of hashes.
-/
import Derived.Test.YtepohpniflmblaaDoorClV
import Derived.Test.YtepohpniflmblaaDoorClN
import Derived.Deep.MidRow
namespace Go.Proofs.YtepohpniflmblaaDoor
open Go.RowKit
set_option maxRecDepth 100000
set_option linter.unusedVariables false
set_option linter.unusedSimpArgs false

/-- The list with two of its places exchanged. -/
def swp (L : List (List Nat)) (a b : Nat) : List (List Nat) := (L.set a (L.getD b [])).set b (L.getD a [])
theorem swp_len (L : List (List Nat)) (a b : Nat) : (swp L a b).length = L.length := by simp [swp]
theorem set_self (L : List (List Nat)) (a : Nat) : L.set a (L.getD a []) = L := by
  apply List.ext_getElem?
  intro i
  rw [List.getElem?_set]
  split
  · rename_i h
    subst h
    split
    · rename_i h2
      simp [List.getD, h2]
    · rename_i h2
      rw [List.getElem?_eq_none (by omega)]
  · rfl
theorem swp_same {L : List (List Nat)} {a b : Nat} (h : L.getD a [] = L.getD b []) : swp L a b = L := by
  unfold swp
  rw [← h, set_self, h, set_self]
theorem leafs_set (L : List (List Nat)) (a : Nat) (x : List Nat) : (leafs L).set a (hsh (msgL x)) = leafs (L.set a x) := by unfold leafs; rw [List.map_set]
theorem leafs_at {L : List (List Nat)} {a : Nat} (h : a < L.length) : (leafs L).getD a [] = hsh (msgL (L.getD a [])) := by simp [leafs, List.getD, h]
theorem set_32 {A : List (List Nat)} (h : ∀ x ∈ A, H32 x) {x : List Nat} (hx : H32 x) (i : Nat) : ∀ y ∈ A.set i x, H32 y := fun y hy => by
  rcases List.mem_or_eq_of_mem_set hy with hy | rfl
  · exact h y hy
  · exact hx
theorem swp_32 {A : List (List Nat)} (h : ∀ x ∈ A, H32 x) {a b : Nat} (ha : a < A.length) (hb : b < A.length) : ∀ y ∈ swp A a b, H32 y :=
  set_32 (set_32 h (getD_32 h hb) a) (getD_32 h ha) b
theorem swp_at (A : List (List Nat)) {a b : Nat} (ha : a < A.length) (hb : b < A.length) (hne : a ≠ b) : (swp A a b).getD a [] = A.getD b [] := by
  simp [swp, List.getD, List.getElem?_set, ha, hb, Ne.symm hne]
theorem orders_clash {L : List (List Nat)} {a b : Nat} (ha : a < L.length) (hb : b < L.length) (hne : L.getD a [] ≠ L.getD b []) (e : rootL (leafs L) = rootL (swp (leafs L) a b)) :
    ClN (L.map msgL ++ rootN (leafs L) ++ rootN (swp (leafs L) a b)) := by
  have hA := leafs_ok L
  have ha' : a < (leafs L).length := by rw [leafs_len]; exact ha
  have hb' : b < (leafs L).length := by rw [leafs_len]; exact hb
  rcases root_inj _ (leafs L) (swp (leafs L) a b) rfl (swp_len _ _ _) hA (swp_32 hA ha' hb') e with hc | q
  · exact hc.mono (by intro x hx; simp only [List.mem_append] at hx ⊢; rcases hx with hx | hx <;> simp [hx])
  · have hab : a ≠ b := by rintro rfl; exact hne rfl
    have e1 : (leafs L).getD a [] = (leafs L).getD b [] := by
      have : (leafs L).getD a [] = (swp (leafs L) a b).getD a [] := congrArg (fun l => l.getD a []) q
      rw [swp_at _ ha' hb' hab] at this
      exact this
    rw [leafs_at ha, leafs_at hb] at e1
    have ma : msgL (L.getD a []) ∈ L.map msgL := List.mem_map_of_mem (by simp [List.getD, ha])
    have mb : msgL (L.getD b []) ∈ L.map msgL := List.mem_map_of_mem (by simp [List.getD, hb])
    rcases hsh_or ma mb e1 with hc | h
    · exact hc.mono (by intro x hx; simp [hx])
    · exact absurd (msgL_inj h) hne

/-- Cells in the midst of a row. -/
theorem row_setCells (g : Nat) (t : TypeId) : ∀ (vs : List Value) (o : Nat) (w : World) (cs : Array Value), Row w g cs t →
    ∃ cs', Row (w.setCells g o vs) g cs' t ∧ cs'.size = cs.size ∧ (∀ k, k < o ∨ o + vs.length ≤ k → cs'[k]? = cs[k]?) ∧ (∀ j, j < vs.length → o + j < cs.size → cs'[o + j]? = vs[j]?)
  | [], o, w, cs, h => ⟨cs, h, rfl, fun _ _ => rfl, fun j hj => by cases hj⟩
  | v :: r, o, w, cs, h => by
    have h1 : Row (w.setCell ⟨g, o, none⟩ v) g (cs.setIfInBounds o v) t := heap_setCell_same w g o cs t v h
    obtain ⟨cs', k1, k2, k3, k4⟩ := row_setCells g t r (o + 1) _ _ h1
    refine ⟨cs', k1, by simpa using k2, fun k hk => ?_, fun j hj ho => ?_⟩
    · rw [k3 k (by simp only [List.length_cons] at hk; omega), Array.getElem?_setIfInBounds_ne (by simp only [List.length_cons] at hk; omega)]
    · match j with
      | 0 =>
        rw [Nat.add_zero] at ho ⊢
        rw [k3 o (Or.inl (by omega))]
        simp [ho]
      | j + 1 =>
        have := k4 j (by simpa using hj) (by simp; omega)
        rw [show o + (j + 1) = o + 1 + j by omega, this]
        simp
theorem nh_setCells (g : Nat) : ∀ (vs : List Value) (o : Nat) (w : World) (cs : Array Value), Row w g cs 28 → Nh w (w.setCells g o vs)
  | [], o, w, cs, h => Nh.below (Below.refl _ _)
  | v :: r, o, w, cs, h => (Nh.cell (w' := w) h v).trans (nh_setCells g r (o + 1) _ _ (heap_setCell_same w g o cs _ v h))
theorem below_setCells {B : Nat} {w : World} (g : Nat) (hg : B ≤ g) : ∀ (vs : List Value) (o : Nat) (w1 : World), Below B w w1 → Below B w (w1.setCells g o vs)
  | [], _, _, h => h
  | v :: r, o, w1, h => below_setCells g hg r (o + 1) _ (h.setCell (p := ⟨g, o, none⟩) hg v)
/-- A hash in the midst of a slice of hashes is another one. -/
theorem HsAt.put {w : World} {g o n c : Nat} {L : List (List Nat)} (h : HsAt w (.slice (some ⟨g, o, none⟩) n c) L) {i : Nat} (hi : i < L.length) {x : List Nat} (hx : H32 x) :
    HsAt (w.setCells g (o + i * 32) (bytesL x).toList) (.slice (some ⟨g, o, none⟩) n c) (L.set i x) := by
  obtain ⟨hok, p, c', e, hn, hc, hat⟩ := h
  cases e
  have hl : (bytesL x).toList.length = 32 := hb_len hx
  refine ⟨set_32 hok hx i, _, _, by rw [List.length_set], by rw [List.length_set]; exact hn, hc, fun k hk => ?_⟩
  rw [List.length_set] at hk
  obtain ⟨g', off, cs, e, hr, hcs⟩ := hat k hk
  cases e
  obtain ⟨cs', r1, r2, r3, r4⟩ := row_setCells g _ (bytesL x).toList (o + i * 32) w cs hr
  have hmem : L.getD k [] ∈ L := by simp only [List.getD]; rw [List.getElem?_eq_getElem hk]; exact List.getElem_mem _
  refine ⟨g, o, cs', rfl, r1, fun j hj => ?_⟩
  by_cases hki : k = i
  · subst hki
    have e1 : (L.set k x).getD k [] = x := by simp [List.getD, hk]
    rw [e1, r4 j (by rw [hl]; exact hj) ?_, Array.getElem?_toList]
    have hz := hcs j hj
    have h32 : (bytesL (L.getD k [])).size = 32 := by rw [bytesL_size, (hok _ hmem).1]
    have hz2 : (bytesL (L.getD k []))[j]? = some _ := Array.getElem?_eq_getElem (by rw [h32]; exact hj)
    rw [hz2] at hz
    exact (Array.getElem?_eq_some_iff.1 hz).1
  · have e1 : (L.set i x).getD k [] = L.getD k [] := by simp [List.getD, List.getElem?_set, Ne.symm hki]
    rw [e1, r3 _ (by rw [hl]; omega)]
    exact hcs j hj
/-- The cells of a hash in a slice of the call's own may be written. -/
theorem HsAt.there {w : World} {g o n c : Nat} {L : List (List Nat)} (h : HsAt w (.slice (some ⟨g, o, none⟩) n c) L) {i : Nat} (hi : i < L.length) : w.there g (o + i * 32) 32 := fun j hj => by
  obtain ⟨hok, p, c', e, hn, hc, hat⟩ := h
  cases e
  obtain ⟨g', off, cs, e, hr, hcs⟩ := hat i hi
  cases e
  have hmem : L.getD i [] ∈ L := by simp only [List.getD]; rw [List.getElem?_eq_getElem hi]; exact List.getElem_mem _
  have h32 : (bytesL (L.getD i [])).size = 32 := by rw [bytesL_size, (hok _ hmem).1]
  have hz := hcs j hj
  have hz2 : (bytesL (L.getD i []))[j]? = some _ := Array.getElem?_eq_getElem (by rw [h32]; exact hj)
  rw [hz2] at hz
  exact ⟨by rw [hr.cell, hz]; rfl, hr.frozen _⟩
end Go.Proofs.YtepohpniflmblaaDoor
